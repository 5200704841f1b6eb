/- RvBeh RpBeg RpCut -/
import Derived.Test.YtdimaoloapbeoaaGreatDoorRows
import Derived.Test.YtdimaoloapbeoaaGreatDoorQv24
import Derived.Test.YtdimaoloapbeoaaGreatDoorQv9
import Derived.Test.YtdimaoloapbeoaaGreatDoorQv3
import Derived.Test.YtdimaoloapbeoaaGreatDoorQv15
import Derived.Test.YtdimaoloapbeoaaGreatDoorQv1
import Derived.Test.YtdimaoloapbeoaaGreatDoorQv2
import Derived.OwnWalk
import Derived.Deep.RegionHeld3
import Derived.WalkKit
import Derived.ProofKit
import Derived.OpenShut
import Derived.Below
import Derived.WalkSmall
import Derived.BigQuiet
import Derived.Deep.QuietTactic
import Derived.Deep.RegionWith
import Derived.Handy
import Derived.Test.YtdimaoloapbeoaaGreatDoorQv25
import Derived.Test.YtdimaoloapbeoaaGreatDoorQv21
import Derived.Deep.Slices
open List (setIfInBounds_toArray set_cons_zero set_cons_succ)
namespace Go.Proofs.YtdimaoloapbeoaaGreatDoor
open Go.ChangeShapes Go.WideShapes Go.ChangeAt Go.RowKit Go.PlainAid
set_option linter.unusedVariables false
theorem Tryz.infoEntR : (Tryz.prog.info? 59).map (fun i => (i.zero, i.size, i.bytes)) = some (some (.agg #[.int .i64 0, .string ⟨#[]⟩]), 2, 24) := by kernel_rfl
theorem wraps_beh (si xb : Int) (k : Nat) (hk : si - xb = (k : Int)) (hk1 : 1 ≤ k) (hk2 : k ≤ 200000) : IntKind.i64.wrap (si - xb) = (k : Int) ∧ wrap64 (si - xb) = (k : Int) ∧ IntKind.i64.wrap ((k : Int) - 1) = ((k - 1 : Nat) : Int) ∧ wrap64 ((k : Int) - 1) = ((k - 1 : Nat) : Int) ∧ IntKind.i64.wrap (((k - 1 : Nat) : Int) + 1) = (k : Int) ∧ wrap64 (((k - 1 : Nat) : Int) + 1) = (k : Int) := by
 refine ⟨?_, ?_, ?_, ?_, ?_, ?_⟩
 ·rw [IntKind.wrap_i64]; omega
 ·unfold wrap64; omega
 ·rw [IntKind.wrap_i64]; omega
 ·unfold wrap64; omega
 ·rw [IntKind.wrap_i64]; omega
 ·unfold wrap64; omega
theorem res5R {w : World} {g : Nat} {a0 a1 a2 a3 a4 x0 x1 x2 x3 x4 : Value} {t : TypeId} (h : Blk w g #[a0, a1, a2, a3, a4] t) :
  (w.cell? ⟨g, 0, none⟩ = some a0 ∧ w.frozen? ⟨g, 0, none⟩ = false) ∧ ((w.setCell ⟨g, 0, none⟩ x0).cell? ⟨g, 1, none⟩ = some a1 ∧ (w.setCell ⟨g, 0, none⟩ x0).frozen? ⟨g, 1, none⟩ = false) ∧ (((w.setCell ⟨g, 0, none⟩ x0).setCell ⟨g, 1, none⟩ x1).cell? ⟨g, 2, none⟩ = some a2 ∧ ((w.setCell ⟨g, 0, none⟩ x0).setCell ⟨g, 1, none⟩ x1).frozen? ⟨g, 2, none⟩ = false) ∧ ((((w.setCell ⟨g, 0, none⟩ x0).setCell ⟨g, 1, none⟩ x1).setCell ⟨g, 2, none⟩ x2).cell? ⟨g, 3, none⟩ = some a3 ∧ (((w.setCell ⟨g, 0, none⟩ x0).setCell ⟨g, 1, none⟩ x1).setCell ⟨g, 2, none⟩ x2).frozen? ⟨g, 3, none⟩ = false) ∧ (((((w.setCell ⟨g, 0, none⟩ x0).setCell ⟨g, 1, none⟩ x1).setCell ⟨g, 2, none⟩ x2).setCell ⟨g, 3, none⟩ x3).cell? ⟨g, 4, none⟩ = some a4 ∧ ((((w.setCell ⟨g, 0, none⟩ x0).setCell ⟨g, 1, none⟩ x1).setCell ⟨g, 2, none⟩ x2).setCell ⟨g, 3, none⟩ x3).frozen? ⟨g, 4, none⟩ = false) ∧
  Blk (((((w.setCell ⟨g, 0, none⟩ x0).setCell ⟨g, 1, none⟩ x1).setCell ⟨g, 2, none⟩ x2).setCell ⟨g, 3, none⟩ x3).setCell ⟨g, 4, none⟩ x4) g #[x0, x1, x2, x3, x4] t := by
 have h1 : Blk (w.setCell ⟨g, 0, none⟩ x0) g #[x0, a1, a2, a3, a4] t := h.set 0 x0
 have h2 : Blk ((w.setCell ⟨g, 0, none⟩ x0).setCell ⟨g, 1, none⟩ x1) g #[x0, x1, a2, a3, a4] t := h1.set 1 x1
 have h3 : Blk (((w.setCell ⟨g, 0, none⟩ x0).setCell ⟨g, 1, none⟩ x1).setCell ⟨g, 2, none⟩ x2) g #[x0, x1, x2, a3, a4] t := h2.set 2 x2
 have h4 : Blk ((((w.setCell ⟨g, 0, none⟩ x0).setCell ⟨g, 1, none⟩ x1).setCell ⟨g, 2, none⟩ x2).setCell ⟨g, 3, none⟩ x3) g #[x0, x1, x2, x3, a4] t := h3.set 3 x3
 have h5 : Blk (((((w.setCell ⟨g, 0, none⟩ x0).setCell ⟨g, 1, none⟩ x1).setCell ⟨g, 2, none⟩ x2).setCell ⟨g, 3, none⟩ x3).setCell ⟨g, 4, none⟩ x4) g #[x0, x1, x2, x3, x4] t := h4.set 4 x4
 exact ⟨⟨h.cell 0 _ rfl, h.free 0⟩, ⟨h1.cell 1 _ rfl, h1.free 1⟩, ⟨h2.cell 2 _ rfl, h2.free 2⟩, ⟨h3.cell 3 _ rfl, h3.free 3⟩, ⟨h4.cell 4 _ rfl, h4.free 4⟩, h5⟩
theorem Owns.set5R {w : World} {base g : Nat} {v : Value} {rows : List (List Value)} {cs : Array Value} {t : TypeId} (h : Owns w base 59 2 v rows) (hb : Blk w g cs t) (hne : 59 ≠ t) (x0 x1 x2 x3 x4 : Value) : Owns (((((w.setCell ⟨g, 0, none⟩ x0).setCell ⟨g, 1, none⟩ x1).setCell ⟨g, 2, none⟩ x2).setCell ⟨g, 3, none⟩ x3).setCell ⟨g, 4, none⟩ x4) base 59 2 v rows := by
 have hn := h.notBlk hb hne
 exact ((((h.other hn 0 x0).other hn 1 x1).other hn 2 x2).other hn 3 x3).other hn 4 x4
set_option maxRecDepth 20000 in
set_option maxHeartbeats 2000000 in
theorem behindV (x : Wl) (s : Snp) (u : Value) (w : World) (B : Nat) (hl : Lies w B 2 u (entR x.ents)) (hB : B ≤ w.heap.size) (hn : x.ents.length ≤ 60) (hb0 : 0 ≤ x.base) (hb1 : x.base ≤ 100000) (hi0 : x.base < s.index) (hi1 : s.index ≤ 100000) :
  Calls Tryz.prog 29 #[.agg #[.int .i64 x.term, .int .i64 x.vote, .int .i64 x.base, .int .i64 x.bterm, u], vSnp s] w fun e w' => (∃ u', e = .returned (.agg #[.int .i64 (behW x s).term, .int .i64 (behW x s).vote, .int .i64 (behW x s).base, .int .i64 (behW x s).bterm, u']) ∧ Owns w' w.heap.size 59 2 u' (entR (behW x s).ents)) ∧ Below w.heap.size w w' := by
 obtain ⟨xt, xv, xb, xbt, xe⟩ := x
 obtain ⟨si, st, sd⟩ := s
 unfold vSnp
 simp only at *
 have HL0 := Hid.mk hl
 obtain ⟨A, cap, rfl, hlk⟩ := ent_look hl
 obtain ⟨k, hk⟩ : ∃ k : Nat, si - xb = (k : Int) := ⟨(si - xb).toNat, by omega⟩
 have hk1 : 1 ≤ k := by omega
 have qn : (xe.length : Int) ≤ 60 := by omega
 have HKT : Hid ((si - xb).toNat = k) := by unfold Hid; omega
 have HWR := Hid.mk (wraps_beh si xb k hk hk1 (by omega))
 have HN : Hid (xe.length ≤ 60) := hn
 have HB : Hid (B ≤ w.heap.size) := hB
 have K0 := Hid.mk (((Blk.new w #[.int .i64 xt, .int .i64 xv, .int .i64 xb, .int .i64 xbt, .slice A xe.length cap] 30).alloc (.cells #[.int .i64 si, .int .i64 st, .string sd] 32)).alloc (.cells #[.int .i64 0, .int .i64 0, .int .i64 0, .int .i64 0, .slice none 0 0] 30))
 have K1 : Hid (Blk (((w.alloc (.cells #[.int .i64 xt, .int .i64 xv, .int .i64 xb, .int .i64 xbt, .slice A xe.length cap] 30)).alloc (.cells #[.int .i64 si, .int .i64 st, .string sd] 32)).alloc (.cells #[.int .i64 0, .int .i64 0, .int .i64 0, .int .i64 0, .slice none 0 0] 30)) (w.heap.size + 1) #[.int .i64 si, .int .i64 st, .string sd] 32) := by
  have h := (Blk.new (w.alloc (.cells #[.int .i64 xt, .int .i64 xv, .int .i64 xb, .int .i64 xbt, .slice A xe.length cap] 30)) #[.int .i64 si, .int .i64 st, .string sd] 32).alloc (.cells #[.int .i64 0, .int .i64 0, .int .i64 0, .int .i64 0, .slice none 0 0] 30)
  rw [World.size_alloc] at h
  exact h
 have K2 : Hid (Blk (((w.alloc (.cells #[.int .i64 xt, .int .i64 xv, .int .i64 xb, .int .i64 xbt, .slice A xe.length cap] 30)).alloc (.cells #[.int .i64 si, .int .i64 st, .string sd] 32)).alloc (.cells #[.int .i64 0, .int .i64 0, .int .i64 0, .int .i64 0, .slice none 0 0] 30)) (w.heap.size + 2) #[.int .i64 0, .int .i64 0, .int .i64 0, .int .i64 0, .slice none 0 0] 30) := by
  have h := Blk.new ((w.alloc (.cells #[.int .i64 xt, .int .i64 xv, .int .i64 xb, .int .i64 xbt, .slice A xe.length cap] 30)).alloc (.cells #[.int .i64 si, .int .i64 st, .string sd] 32)) #[.int .i64 0, .int .i64 0, .int .i64 0, .int .i64 0, .slice none 0 0] 30
  rw [World.size_alloc, World.size_alloc] at h
  exact h
 have BY : Hid (Below w.heap.size w (((w.alloc (.cells #[.int .i64 xt, .int .i64 xv, .int .i64 xb, .int .i64 xbt, .slice A xe.length cap] 30)).alloc (.cells #[.int .i64 si, .int .i64 st, .string sd] 32)).alloc (.cells #[.int .i64 0, .int .i64 0, .int .i64 0, .int .i64 0, .slice none 0 0] 30))) := (((Below.refl _ w).alloc (Nat.le_refl _) _).alloc (by simp) _).alloc (by simp; omega) _
 clear hl hn hb0 hb1 hi0 hi1 hk hB
 have a2 : (((w.alloc (.cells #[.int .i64 xt, .int .i64 xv, .int .i64 xb, .int .i64 xbt, .slice A xe.length cap] 30)).alloc (.cells #[.int .i64 si, .int .i64 st, .string sd] 32)).alloc (.cells #[.int .i64 0, .int .i64 0, .int .i64 0, .int .i64 0, .slice none 0 0] 30)).cell? ⟨w.heap.size, 2, none⟩ = some (.int .i64 xb) := K0.out.cell 2 _ rfl
 have a3 : (((w.alloc (.cells #[.int .i64 xt, .int .i64 xv, .int .i64 xb, .int .i64 xbt, .slice A xe.length cap] 30)).alloc (.cells #[.int .i64 si, .int .i64 st, .string sd] 32)).alloc (.cells #[.int .i64 0, .int .i64 0, .int .i64 0, .int .i64 0, .slice none 0 0] 30)).cell? ⟨w.heap.size + 1, 0, none⟩ = some (.int .i64 si) := K1.out.cell 0 _ rfl
 have HK1 : Hid (1 ≤ k) := hk1
 clear hk1
 obtain ⟨k1, hkk⟩ : ∃ k1, k - 1 = k1 := ⟨_, rfl⟩
 have HKK : Hid (k = k1 + 1) := by have := HK1.out; unfold Hid; omega
 have HLK : Hid (k1 < xe.length → ∃ g off, A = some ⟨g, off, none⟩ ∧ g < B ∧ w.cell? ⟨g, off + k1 * 2, none⟩ = some (.int .i64 (xe.getD k1 default).term)) := fun h => by
  obtain ⟨g, off, h1, h2, h3, _⟩ := hlk k1 h
  exact ⟨g, off, h1, h2, h3⟩
 rw [hkk] at HWR
 clear hkk hlk
 by_cases hle : k ≤ xe.length
 rotate_left
 ·have HE : Hid (behE ⟨xt, xv, xb, xbt, xe⟩ ⟨si, st, sd⟩ = []) := by
   unfold Hid behE
   simp only
   rw [HKT.out, if_neg (by omega)]
  have hx := HKK.out
  have q1 : ¬ (k1 : Int) < (xe.length : Int) := by omega
  have q2 : decide ((k1 : Int) < (xe.length : Int)) = false := decide_eq_false q1
  have q3 : ¬ k1 < xe.length := by omega
  have q4 : decide (k1 < xe.length) = false := decide_eq_false q3
  clear hx HLK HL0
  obtain ⟨w1, w2, w3, w4, w5, w6⟩ := HWR.out
  go_enter Tryz.func29, Tryz.ntmps29
  go_wp2_with fail
  clear a2 a3 w1 w2 w3 w4 w5 w6
  generalize ((w.alloc (.cells #[.int .i64 xt, .int .i64 xv, .int .i64 xb, .int .i64 xbt, .slice A xe.length cap] 30)).alloc (.cells #[.int .i64 si, .int .i64 st, .string sd] 32)).alloc (.cells #[.int .i64 0, .int .i64 0, .int .i64 0, .int .i64 0, .slice none 0 0] 30) = X at *
  have SS : Hid (X.drew.cell? ⟨w.heap.size, 4, none⟩ = some (.slice A xe.length cap) ∧ X.drew.cell? ⟨w.heap.size + 1, 1, none⟩ = some (.int .i64 st)) := ⟨K0.out.cell 4 _ rfl, K1.out.cell 1 _ rfl⟩
  refine wp_region_until (fun w' => w'.cell? ⟨w.heap.size, 4, none⟩ = some (.slice A xe.length cap) ∧ w'.cell? ⟨w.heap.size + 1, 1, none⟩ = some (.int .i64 st)) (fun i => false) 16 (by rfl) (by kernel_rfl) ?_
  have K0 : Hid (Blk X.drew w.heap.size #[.int .i64 xt, .int .i64 xv, .int .i64 xb, .int .i64 xbt, .slice A xe.length cap] 30) := K0.out
  have K1 : Hid (Blk X.drew (w.heap.size + 1) #[.int .i64 si, .int .i64 st, .string sd] 32) := K1.out
  have K2 : Hid (Blk X.drew (w.heap.size + 2) #[.int .i64 0, .int .i64 0, .int .i64 0, .int .i64 0, .slice none 0 0] 30) := K2.out
  have BY : Hid (Below w.heap.size w X.drew) := BY.out.drew
  generalize X.drew = Y at *
  refine until_pure 0 (v := ?_) (by rfl) (by kernel_rfl) (by exact fun _ _ _ h => h) (by rfl) ?_ ?_
  rotate_left
  ·intro w
   go_simp
   try with_reducible rfl
  try simp only [Act.put, setIfInBounds_toArray, set_cons_zero, set_cons_succ]
  refine until_pure 1 (v := ?_) (by rfl) (by kernel_rfl) (by exact fun _ _ _ h => h) (by rfl) ?_ ?_
  rotate_left
  ·intro w
   go_simp
   try with_reducible rfl
  try simp only [Act.put, setIfInBounds_toArray, set_cons_zero, set_cons_succ]
  refine until_take 2 (v := ?_) (by rfl) (by kernel_rfl) (by exact fun _ _ _ h => h) (by rfl) ?_ SS.out ?_
  rotate_left
  ·intro w hSw
   try dsimp only at hSw
   go_simp
   try with_reducible rfl
  try simp only [Act.put, setIfInBounds_toArray, set_cons_zero, set_cons_succ]
  refine until_pure 3 (v := ?_) (by rfl) (by kernel_rfl) (by exact fun _ _ _ h => h) (by rfl) ?_ ?_
  rotate_left
  ·intro w
   go_simp
   try with_reducible rfl
  try simp only [Act.put, setIfInBounds_toArray, set_cons_zero, set_cons_succ]
  refine until_pure 4 (v := ?_) (by rfl) (by kernel_rfl) (by exact fun _ _ _ h => h) (by rfl) ?_ ?_
  rotate_left
  ·intro w
   go_simp
   try with_reducible rfl
  try simp only [Act.put, setIfInBounds_toArray, set_cons_zero, set_cons_succ]
  refine until_pure 5 (v := ?_) (by rfl) (by kernel_rfl) (by exact fun _ _ _ h => h) (by rfl) ?_ ?_
  rotate_left
  ·intro w
   go_simp
   try with_reducible rfl
  try simp only [Act.put, setIfInBounds_toArray, set_cons_zero, set_cons_succ]
  refine until_skip 6 (by rfl) (by kernel_rfl) (by exact fun _ _ _ h => h) (by rfl) ?_
  try simp only [Act.put, setIfInBounds_toArray, set_cons_zero, set_cons_succ]
  refine until_skip 7 (by rfl) (by kernel_rfl) (by exact fun _ _ _ h => h) (by rfl) ?_
  try simp only [Act.put, setIfInBounds_toArray, set_cons_zero, set_cons_succ]
  refine until_skip 8 (by rfl) (by kernel_rfl) (by exact fun _ _ _ h => h) (by rfl) ?_
  try simp only [Act.put, setIfInBounds_toArray, set_cons_zero, set_cons_succ]
  refine until_skip 9 (by rfl) (by kernel_rfl) (by exact fun _ _ _ h => h) (by rfl) ?_
  try simp only [Act.put, setIfInBounds_toArray, set_cons_zero, set_cons_succ]
  refine until_skip 10 (by rfl) (by kernel_rfl) (by exact fun _ _ _ h => h) (by rfl) ?_
  try simp only [Act.put, setIfInBounds_toArray, set_cons_zero, set_cons_succ]
  refine until_skip 11 (by rfl) (by kernel_rfl) (by exact fun _ _ _ h => h) (by rfl) ?_
  try simp only [Act.put, setIfInBounds_toArray, set_cons_zero, set_cons_succ]
  refine until_skip 12 (by rfl) (by kernel_rfl) (by exact fun _ _ _ h => h) (by rfl) ?_
  try simp only [Act.put, setIfInBounds_toArray, set_cons_zero, set_cons_succ]
  refine until_skip 13 (by rfl) (by kernel_rfl) (by exact fun _ _ _ h => h) (by rfl) ?_
  try simp only [Act.put, setIfInBounds_toArray, set_cons_zero, set_cons_succ]
  refine until_skip 14 (by rfl) (by kernel_rfl) (by exact fun _ _ _ h => h) (by rfl) ?_
  try simp only [Act.put, setIfInBounds_toArray, set_cons_zero, set_cons_succ]
  refine until_pure 15 (v := ?_) (by rfl) (by kernel_rfl) (by exact fun _ _ _ h => h) (by rfl) ?_ ?_
  rotate_left
  ·intro w
   go_simp
   try with_reducible rfl
  try simp only [Act.put, setIfInBounds_toArray, set_cons_zero, set_cons_succ]
  refine until_done (by kernel_rfl) ?_ _
  have OY : Hid (Owns Y w.heap.size 59 2 (.slice none 0 0) (entR [])) := Owns.nil _ _ _ _
  have a0 := K0.out.cell 0 _ rfl
  have a1 := K0.out.cell 1 _ rfl
  have a3 := K1.out.cell 0 _ rfl
  have a4 := K1.out.cell 1 _ rfl
  have KB := Hid.mk (Blk.new Y #[.int .i64 xt, .int .i64 xv, .int .i64 si, .int .i64 st, .slice none 0 0] 30)
  have KR0 := Hid.mk (K2.out.alloc (.cells #[.int .i64 xt, .int .i64 xv, .int .i64 si, .int .i64 st, .slice none 0 0] 30))
  have KS := Hid.mk (K1.out.alloc (.cells #[.int .i64 xt, .int .i64 xv, .int .i64 si, .int .i64 st, .slice none 0 0] 30))
  have OV0 := Hid.mk (OY.out.alloc (.cells #[.int .i64 xt, .int .i64 xv, .int .i64 si, .int .i64 st, .slice none 0 0] 30))
  have BV0 := Hid.mk (BY.out.alloc BY.out.size (.cells #[.int .i64 xt, .int .i64 xv, .int .i64 si, .int .i64 st, .slice none 0 0] 30))
  have HYR : Hid (w.heap.size + 2 < Y.heap.size) := K2.out.lt
  have b0 := KB.out.cell 0 _ rfl
  have b1 := KB.out.cell 1 _ rfl
  have b2 := KB.out.cell 2 _ rfl
  have b3 := KB.out.cell 3 _ rfl
  have b4 := KB.out.cell 4 _ rfl
  have s0 := KS.out.cell 0 _ rfl
  have s1 := KS.out.cell 1 _ rfl
  by_cases hlt : xt < st
  ·have HW : Hid (behW ⟨xt, xv, xb, xbt, xe⟩ ⟨si, st, sd⟩ = ⟨st, -1, si, st, behE ⟨xt, xv, xb, xbt, xe⟩ ⟨si, st, sd⟩⟩) := by unfold Hid behW; simp only [if_pos hlt]
   have c2 := Blk.new Y #[.int .i64 st, .int .i64 (-1), .int .i64 si, .int .i64 st, .slice none 0 0] 30
   have d0 := c2.cell 0 _ rfl
   have d1 := c2.cell 1 _ rfl
   have d2 := c2.cell 2 _ rfl
   have d3 := c2.cell 3 _ rfl
   have d4 := c2.cell 4 _ rfl
   have OV := Hid.mk (OY.out.alloc (.cells #[.int .i64 st, .int .i64 (-1), .int .i64 si, .int .i64 st, .slice none 0 0] 30))
   have KR := Hid.mk (K2.out.alloc (.cells #[.int .i64 st, .int .i64 (-1), .int .i64 si, .int .i64 st, .slice none 0 0] 30))
   have BV := Hid.mk (BY.out.alloc BY.out.size (.cells #[.int .i64 st, .int .i64 (-1), .int .i64 si, .int .i64 st, .slice none 0 0] 30))
   clear c2 KB KR0 KS OV0 BV0
   obtain ⟨⟨r0, f0⟩, ⟨r1, f1⟩, ⟨r2, f2⟩, ⟨r3, f3⟩, ⟨r4, f4⟩, kE⟩ := res5R (x0 := .int .i64 st) (x1 := .int .i64 (-1)) (x2 := .int .i64 si) (x3 := .int .i64 st) (x4 := .slice none 0 0) KR.out
   have y0 := kE.cell 0 _ rfl
   have y1 := kE.cell 1 _ rfl
   have y2 := kE.cell 2 _ rfl
   have y3 := kE.cell 3 _ rfl
   have y4 := kE.cell 4 _ rfl
   have OE := Hid.mk (OV.out.set5R KR.out (by decide) (.int .i64 st) (.int .i64 (-1)) (.int .i64 si) (.int .i64 st) (.slice none 0 0))
   have BE := Hid.mk (((((BV.out.setCell (p := ⟨w.heap.size + 2, 0, none⟩) (by simp) (.int .i64 st)).setCell (p := ⟨w.heap.size + 2, 1, none⟩) (by simp) (.int .i64 (-1))).setCell (p := ⟨w.heap.size + 2, 2, none⟩) (by simp) (.int .i64 si)).setCell (p := ⟨w.heap.size + 2, 3, none⟩) (by simp) (.int .i64 st)).setCell (p := ⟨w.heap.size + 2, 4, none⟩) (by simp) (.slice none 0 0))
   clear kE KR OV BV
   clear K0 K1 K2 OY BY
   go_wp2_with fail
   exact bodyPost_ret (v := .agg #[.int .i64 st, .int .i64 (-1), .int .i64 si, .int .i64 st, .slice none 0 0]) (by simp [results, go_sem, y0, y1, y2, y3, y4]) rfl ⟨⟨.slice none 0 0, by rw [HW.out], by rw [HW.out, HE.out]; exact OE.out⟩, BE.out⟩
  ·have HW : Hid (behW ⟨xt, xv, xb, xbt, xe⟩ ⟨si, st, sd⟩ = ⟨xt, xv, si, st, behE ⟨xt, xv, xb, xbt, xe⟩ ⟨si, st, sd⟩⟩) := by unfold Hid behW; simp only [if_neg hlt]
   have hltd : decide (xt < st) = false := decide_eq_false hlt
   have OV := OV0
   have KR := KR0
   have BV := BV0
   obtain ⟨⟨r0, f0⟩, ⟨r1, f1⟩, ⟨r2, f2⟩, ⟨r3, f3⟩, ⟨r4, f4⟩, kE⟩ := res5R (x0 := .int .i64 xt) (x1 := .int .i64 xv) (x2 := .int .i64 si) (x3 := .int .i64 st) (x4 := .slice none 0 0) KR.out
   have y0 := kE.cell 0 _ rfl
   have y1 := kE.cell 1 _ rfl
   have y2 := kE.cell 2 _ rfl
   have y3 := kE.cell 3 _ rfl
   have y4 := kE.cell 4 _ rfl
   have OE := Hid.mk (OV.out.set5R KR.out (by decide) (.int .i64 xt) (.int .i64 xv) (.int .i64 si) (.int .i64 st) (.slice none 0 0))
   have BE := Hid.mk (((((BV.out.setCell (p := ⟨w.heap.size + 2, 0, none⟩) (by simp) (.int .i64 xt)).setCell (p := ⟨w.heap.size + 2, 1, none⟩) (by simp) (.int .i64 xv)).setCell (p := ⟨w.heap.size + 2, 2, none⟩) (by simp) (.int .i64 si)).setCell (p := ⟨w.heap.size + 2, 3, none⟩) (by simp) (.int .i64 st)).setCell (p := ⟨w.heap.size + 2, 4, none⟩) (by simp) (.slice none 0 0))
   clear kE KR OV BV
   clear K0 K1 K2 OY BY KB KR0 KS OV0 BV0
   go_wp2_with fail
   exact bodyPost_ret (v := .agg #[.int .i64 xt, .int .i64 xv, .int .i64 si, .int .i64 st, .slice none 0 0]) (by simp [results, go_sem, y0, y1, y2, y3, y4]) rfl ⟨⟨.slice none 0 0, by rw [HW.out], by rw [HW.out, HE.out]; exact OE.out⟩, BE.out⟩
 have hx := HKK.out
 obtain ⟨g, off, rfl, hgB, hc0⟩ := HLK.out (by omega)
 have q1 : (k1 : Int) < (xe.length : Int) := by omega
 have q3 : k1 < xe.length := by omega
 have hgk : k - 1 = k1 := by omega
 have HG : Hid (g < w.heap.size) := Nat.lt_of_lt_of_le hgB HB.out
 have HC0 : Hid (w.cell? ⟨g, off + k1 * 2, none⟩ = some (.int .i64 (xe.getD k1 default).term)) := hc0
 have HX : Hid ((((w.alloc (.cells #[.int .i64 xt, .int .i64 xv, .int .i64 xb, .int .i64 xbt, .slice (some ⟨g, off, none⟩) xe.length cap] 30)).alloc (.cells #[.int .i64 si, .int .i64 st, .string sd] 32)).alloc (.cells #[.int .i64 0, .int .i64 0, .int .i64 0, .int .i64 0, .slice none 0 0] 30)).cell? ⟨g, off + k1 * 2, none⟩ = some (.int .i64 (xe.getD k1 default).term)) := by
  unfold Hid
  rw [BY.out.cell (p := ⟨g, off + k1 * 2, none⟩) HG.out]
  exact hc0
 have HLX : Hid (Lies (((w.alloc (.cells #[.int .i64 xt, .int .i64 xv, .int .i64 xb, .int .i64 xbt, .slice (some ⟨g, off, none⟩) xe.length cap] 30)).alloc (.cells #[.int .i64 si, .int .i64 st, .string sd] 32)).alloc (.cells #[.int .i64 0, .int .i64 0, .int .i64 0, .int .i64 0, .slice none 0 0] 30)) B 2 (.slice (some ⟨g, off, none⟩) xe.length cap) (entR xe)) := HL0.out.on (BY.out.mono HB.out)
 have HBX : Hid (B ≤ (((w.alloc (.cells #[.int .i64 xt, .int .i64 xv, .int .i64 xb, .int .i64 xbt, .slice (some ⟨g, off, none⟩) xe.length cap] 30)).alloc (.cells #[.int .i64 si, .int .i64 st, .string sd] 32)).alloc (.cells #[.int .i64 0, .int .i64 0, .int .i64 0, .int .i64 0, .slice none 0 0] 30)).heap.size) := Nat.le_trans HB.out BY.out.size
 clear HLK hgB hc0 HL0 HC0 hx
 have HEE : Hid (behE ⟨xt, xv, xb, xbt, xe⟩ ⟨si, st, sd⟩ = if (xe.getD k1 default).term = st then xe.drop k else []) := by
  unfold Hid behE
  simp only
  rw [HKT.out, hgk]
  by_cases h : (xe.getD k1 default).term = st
  ·rw [if_pos h, if_pos ⟨hle, h⟩]
  ·rw [if_neg h, if_neg (fun h2 => h h2.2)]
 clear hgk
 generalize (xe.getD k1 default).term = et at *
 by_cases het : et = st
 rotate_left
 ·have HE : Hid (behE ⟨xt, xv, xb, xbt, xe⟩ ⟨si, st, sd⟩ = []) := by unfold Hid; rw [HEE.out, if_neg het]
  have z1 : (et == st) = false := by simpa using het
  clear HEE HLX HBX
  obtain ⟨w1, w2, w3, w4, w5, w6⟩ := HWR.out
  go_enter Tryz.func29, Tryz.ntmps29
  go_wp2_with fail
  clear a2 a3 w1 w2 w3 w4 w5 w6
  generalize ((w.alloc (.cells #[.int .i64 xt, .int .i64 xv, .int .i64 xb, .int .i64 xbt, .slice (some ⟨g, off, none⟩) xe.length cap] 30)).alloc (.cells #[.int .i64 si, .int .i64 st, .string sd] 32)).alloc (.cells #[.int .i64 0, .int .i64 0, .int .i64 0, .int .i64 0, .slice none 0 0] 30) = X at *
  have SS : Hid (X.drew.cell? ⟨w.heap.size, 4, none⟩ = some (.slice (some ⟨g, off, none⟩) xe.length cap) ∧ X.drew.cell? ⟨w.heap.size + 1, 1, none⟩ = some (.int .i64 st) ∧ X.drew.cell? ⟨g, off + k1 * 2, none⟩ = some (.int .i64 et)) := ⟨K0.out.cell 4 _ rfl, K1.out.cell 1 _ rfl, HX.out⟩
  refine wp_region_until (fun w' => w'.cell? ⟨w.heap.size, 4, none⟩ = some (.slice (some ⟨g, off, none⟩) xe.length cap) ∧ w'.cell? ⟨w.heap.size + 1, 1, none⟩ = some (.int .i64 st) ∧ w'.cell? ⟨g, off + k1 * 2, none⟩ = some (.int .i64 et)) (fun i => false) 16 (by rfl) (by kernel_rfl) ?_
  have K0 : Hid (Blk X.drew w.heap.size #[.int .i64 xt, .int .i64 xv, .int .i64 xb, .int .i64 xbt, .slice (some ⟨g, off, none⟩) xe.length cap] 30) := K0.out
  have K1 : Hid (Blk X.drew (w.heap.size + 1) #[.int .i64 si, .int .i64 st, .string sd] 32) := K1.out
  have K2 : Hid (Blk X.drew (w.heap.size + 2) #[.int .i64 0, .int .i64 0, .int .i64 0, .int .i64 0, .slice none 0 0] 30) := K2.out
  have BY : Hid (Below w.heap.size w X.drew) := BY.out.drew
  generalize X.drew = Y at *
  refine until_pure 0 (v := ?_) (by rfl) (by kernel_rfl) (by exact fun _ _ _ h => h) (by rfl) ?_ ?_
  rotate_left
  ·intro w
   go_simp
   try with_reducible rfl
  try simp only [Act.put, setIfInBounds_toArray, set_cons_zero, set_cons_succ]
  refine until_pure 1 (v := ?_) (by rfl) (by kernel_rfl) (by exact fun _ _ _ h => h) (by rfl) ?_ ?_
  rotate_left
  ·intro w
   go_simp
   try with_reducible rfl
  try simp only [Act.put, setIfInBounds_toArray, set_cons_zero, set_cons_succ]
  refine until_take 2 (v := ?_) (by rfl) (by kernel_rfl) (by exact fun _ _ _ h => h) (by rfl) ?_ SS.out ?_
  rotate_left
  ·intro w hSw
   try dsimp only at hSw
   go_simp
   try with_reducible rfl
  try simp only [Act.put, setIfInBounds_toArray, set_cons_zero, set_cons_succ]
  refine until_pure 3 (v := ?_) (by rfl) (by kernel_rfl) (by exact fun _ _ _ h => h) (by rfl) ?_ ?_
  rotate_left
  ·intro w
   go_simp
   try with_reducible rfl
  try simp only [Act.put, setIfInBounds_toArray, set_cons_zero, set_cons_succ]
  refine until_pure 4 (v := ?_) (by rfl) (by kernel_rfl) (by exact fun _ _ _ h => h) (by rfl) ?_ ?_
  rotate_left
  ·intro w
   go_simp
   try with_reducible rfl
  try simp only [Act.put, setIfInBounds_toArray, set_cons_zero, set_cons_succ]
  refine until_pure 5 (v := ?_) (by rfl) (by kernel_rfl) (by exact fun _ _ _ h => h) (by rfl) ?_ ?_
  rotate_left
  ·intro w
   go_simp
   try with_reducible rfl
  try simp only [Act.put, setIfInBounds_toArray, set_cons_zero, set_cons_succ]
  refine until_pure 6 (v := ?_) (by rfl) (by kernel_rfl) (by exact fun _ _ _ h => h) (by rfl) ?_ ?_
  rotate_left
  ·intro w
   go_simp
   try with_reducible rfl
  try simp only [Act.put, setIfInBounds_toArray, set_cons_zero, set_cons_succ]
  refine until_take 7 (v := ?_) (by rfl) (by kernel_rfl) (by exact fun _ _ _ h => h) (by rfl) ?_ SS.out ?_
  rotate_left
  ·intro w hSw
   try dsimp only at hSw
   go_simp
   try with_reducible rfl
  try simp only [Act.put, setIfInBounds_toArray, set_cons_zero, set_cons_succ]
  refine until_pure 8 (v := ?_) (by rfl) (by kernel_rfl) (by exact fun _ _ _ h => h) (by rfl) ?_ ?_
  rotate_left
  ·intro w
   go_simp
   try with_reducible rfl
  try simp only [Act.put, setIfInBounds_toArray, set_cons_zero, set_cons_succ]
  refine until_pure 9 (v := ?_) (by rfl) (by kernel_rfl) (by exact fun _ _ _ h => h) (by rfl) ?_ ?_
  rotate_left
  ·intro w
   go_simp
   try with_reducible rfl
  try simp only [Act.put, setIfInBounds_toArray, set_cons_zero, set_cons_succ]
  refine until_pure 10 (v := ?_) (by rfl) (by kernel_rfl) (by exact fun _ _ _ h => h) (by rfl) ?_ ?_
  rotate_left
  ·intro w
   go_simp
   try with_reducible rfl
  try simp only [Act.put, setIfInBounds_toArray, set_cons_zero, set_cons_succ]
  refine until_take 11 (v := ?_) (by rfl) (by kernel_rfl) (by exact fun _ _ _ h => h) (by rfl) ?_ SS.out ?_
  rotate_left
  ·intro w hSw
   try dsimp only at hSw
   go_simp
   try with_reducible rfl
  try simp only [Act.put, setIfInBounds_toArray, set_cons_zero, set_cons_succ]
  refine until_pure 12 (v := ?_) (by rfl) (by kernel_rfl) (by exact fun _ _ _ h => h) (by rfl) ?_ ?_
  rotate_left
  ·intro w
   go_simp
   try with_reducible rfl
  try simp only [Act.put, setIfInBounds_toArray, set_cons_zero, set_cons_succ]
  refine until_take 13 (v := ?_) (by rfl) (by kernel_rfl) (by exact fun _ _ _ h => h) (by rfl) ?_ SS.out ?_
  rotate_left
  ·intro w hSw
   try dsimp only at hSw
   go_simp
   try with_reducible rfl
  try simp only [Act.put, setIfInBounds_toArray, set_cons_zero, set_cons_succ]
  refine until_pure 14 (v := ?_) (by rfl) (by kernel_rfl) (by exact fun _ _ _ h => h) (by rfl) ?_ ?_
  rotate_left
  ·intro w
   go_simp
   try with_reducible rfl
  try simp only [Act.put, setIfInBounds_toArray, set_cons_zero, set_cons_succ]
  refine until_pure 15 (v := ?_) (by rfl) (by kernel_rfl) (by exact fun _ _ _ h => h) (by rfl) ?_ ?_
  rotate_left
  ·intro w
   go_simp
   try with_reducible rfl
  try simp only [Act.put, setIfInBounds_toArray, set_cons_zero, set_cons_succ]
  refine until_done (by kernel_rfl) ?_ _
  have OY : Hid (Owns Y w.heap.size 59 2 (.slice none 0 0) (entR [])) := Owns.nil _ _ _ _
  have a0 := K0.out.cell 0 _ rfl
  have a1 := K0.out.cell 1 _ rfl
  have a3 := K1.out.cell 0 _ rfl
  have a4 := K1.out.cell 1 _ rfl
  have KB := Hid.mk (Blk.new Y #[.int .i64 xt, .int .i64 xv, .int .i64 si, .int .i64 st, .slice none 0 0] 30)
  have KR0 := Hid.mk (K2.out.alloc (.cells #[.int .i64 xt, .int .i64 xv, .int .i64 si, .int .i64 st, .slice none 0 0] 30))
  have KS := Hid.mk (K1.out.alloc (.cells #[.int .i64 xt, .int .i64 xv, .int .i64 si, .int .i64 st, .slice none 0 0] 30))
  have OV0 := Hid.mk (OY.out.alloc (.cells #[.int .i64 xt, .int .i64 xv, .int .i64 si, .int .i64 st, .slice none 0 0] 30))
  have BV0 := Hid.mk (BY.out.alloc BY.out.size (.cells #[.int .i64 xt, .int .i64 xv, .int .i64 si, .int .i64 st, .slice none 0 0] 30))
  have HYR : Hid (w.heap.size + 2 < Y.heap.size) := K2.out.lt
  have b0 := KB.out.cell 0 _ rfl
  have b1 := KB.out.cell 1 _ rfl
  have b2 := KB.out.cell 2 _ rfl
  have b3 := KB.out.cell 3 _ rfl
  have b4 := KB.out.cell 4 _ rfl
  have s0 := KS.out.cell 0 _ rfl
  have s1 := KS.out.cell 1 _ rfl
  by_cases hlt : xt < st
  ·have HW : Hid (behW ⟨xt, xv, xb, xbt, xe⟩ ⟨si, st, sd⟩ = ⟨st, -1, si, st, behE ⟨xt, xv, xb, xbt, xe⟩ ⟨si, st, sd⟩⟩) := by unfold Hid behW; simp only [if_pos hlt]
   have c2 := Blk.new Y #[.int .i64 st, .int .i64 (-1), .int .i64 si, .int .i64 st, .slice none 0 0] 30
   have d0 := c2.cell 0 _ rfl
   have d1 := c2.cell 1 _ rfl
   have d2 := c2.cell 2 _ rfl
   have d3 := c2.cell 3 _ rfl
   have d4 := c2.cell 4 _ rfl
   have OV := Hid.mk (OY.out.alloc (.cells #[.int .i64 st, .int .i64 (-1), .int .i64 si, .int .i64 st, .slice none 0 0] 30))
   have KR := Hid.mk (K2.out.alloc (.cells #[.int .i64 st, .int .i64 (-1), .int .i64 si, .int .i64 st, .slice none 0 0] 30))
   have BV := Hid.mk (BY.out.alloc BY.out.size (.cells #[.int .i64 st, .int .i64 (-1), .int .i64 si, .int .i64 st, .slice none 0 0] 30))
   clear c2 KB KR0 KS OV0 BV0
   obtain ⟨⟨r0, f0⟩, ⟨r1, f1⟩, ⟨r2, f2⟩, ⟨r3, f3⟩, ⟨r4, f4⟩, kE⟩ := res5R (x0 := .int .i64 st) (x1 := .int .i64 (-1)) (x2 := .int .i64 si) (x3 := .int .i64 st) (x4 := .slice none 0 0) KR.out
   have y0 := kE.cell 0 _ rfl
   have y1 := kE.cell 1 _ rfl
   have y2 := kE.cell 2 _ rfl
   have y3 := kE.cell 3 _ rfl
   have y4 := kE.cell 4 _ rfl
   have OE := Hid.mk (OV.out.set5R KR.out (by decide) (.int .i64 st) (.int .i64 (-1)) (.int .i64 si) (.int .i64 st) (.slice none 0 0))
   have BE := Hid.mk (((((BV.out.setCell (p := ⟨w.heap.size + 2, 0, none⟩) (by simp) (.int .i64 st)).setCell (p := ⟨w.heap.size + 2, 1, none⟩) (by simp) (.int .i64 (-1))).setCell (p := ⟨w.heap.size + 2, 2, none⟩) (by simp) (.int .i64 si)).setCell (p := ⟨w.heap.size + 2, 3, none⟩) (by simp) (.int .i64 st)).setCell (p := ⟨w.heap.size + 2, 4, none⟩) (by simp) (.slice none 0 0))
   clear kE KR OV BV
   clear K0 K1 K2 OY BY
   go_wp2_with fail
   exact bodyPost_ret (v := .agg #[.int .i64 st, .int .i64 (-1), .int .i64 si, .int .i64 st, .slice none 0 0]) (by simp [results, go_sem, y0, y1, y2, y3, y4]) rfl ⟨⟨.slice none 0 0, by rw [HW.out], by rw [HW.out, HE.out]; exact OE.out⟩, BE.out⟩
  ·have HW : Hid (behW ⟨xt, xv, xb, xbt, xe⟩ ⟨si, st, sd⟩ = ⟨xt, xv, si, st, behE ⟨xt, xv, xb, xbt, xe⟩ ⟨si, st, sd⟩⟩) := by unfold Hid behW; simp only [if_neg hlt]
   have hltd : decide (xt < st) = false := decide_eq_false hlt
   have OV := OV0
   have KR := KR0
   have BV := BV0
   obtain ⟨⟨r0, f0⟩, ⟨r1, f1⟩, ⟨r2, f2⟩, ⟨r3, f3⟩, ⟨r4, f4⟩, kE⟩ := res5R (x0 := .int .i64 xt) (x1 := .int .i64 xv) (x2 := .int .i64 si) (x3 := .int .i64 st) (x4 := .slice none 0 0) KR.out
   have y0 := kE.cell 0 _ rfl
   have y1 := kE.cell 1 _ rfl
   have y2 := kE.cell 2 _ rfl
   have y3 := kE.cell 3 _ rfl
   have y4 := kE.cell 4 _ rfl
   have OE := Hid.mk (OV.out.set5R KR.out (by decide) (.int .i64 xt) (.int .i64 xv) (.int .i64 si) (.int .i64 st) (.slice none 0 0))
   have BE := Hid.mk (((((BV.out.setCell (p := ⟨w.heap.size + 2, 0, none⟩) (by simp) (.int .i64 xt)).setCell (p := ⟨w.heap.size + 2, 1, none⟩) (by simp) (.int .i64 xv)).setCell (p := ⟨w.heap.size + 2, 2, none⟩) (by simp) (.int .i64 si)).setCell (p := ⟨w.heap.size + 2, 3, none⟩) (by simp) (.int .i64 st)).setCell (p := ⟨w.heap.size + 2, 4, none⟩) (by simp) (.slice none 0 0))
   clear kE KR OV BV
   clear K0 K1 K2 OY BY KB KR0 KS OV0 BV0
   go_wp2_with fail
   exact bodyPost_ret (v := .agg #[.int .i64 xt, .int .i64 xv, .int .i64 si, .int .i64 st, .slice none 0 0]) (by simp [results, go_sem, y0, y1, y2, y3, y4]) rfl ⟨⟨.slice none 0 0, by rw [HW.out], by rw [HW.out, HE.out]; exact OE.out⟩, BE.out⟩
 have hst := het.symm
 subst hst
 have HE : Hid (behE ⟨xt, xv, xb, xbt, xe⟩ ⟨si, st, sd⟩ = xe.drop k) := by unfold Hid; rw [HEE.out, if_pos rfl]
 clear HEE
 obtain ⟨w1, w2, w3, w4, w5, w6⟩ := HWR.out
 go_enter Tryz.func29, Tryz.ntmps29
 go_wp2_with fail
 clear a2 a3 w1 w2 w3 w4 w5 w6
 generalize ((w.alloc (.cells #[.int .i64 xt, .int .i64 xv, .int .i64 xb, .int .i64 xbt, .slice (some ⟨g, off, none⟩) xe.length cap] 30)).alloc (.cells #[.int .i64 si, .int .i64 st, .string sd] 32)).alloc (.cells #[.int .i64 0, .int .i64 0, .int .i64 0, .int .i64 0, .slice none 0 0] 30) = X at *
 have SS : Hid (X.drew.cell? ⟨w.heap.size, 4, none⟩ = some (.slice (some ⟨g, off, none⟩) xe.length cap) ∧ X.drew.cell? ⟨w.heap.size + 1, 1, none⟩ = some (.int .i64 st) ∧ X.drew.cell? ⟨g, off + k1 * 2, none⟩ = some (.int .i64 st)) := ⟨K0.out.cell 4 _ rfl, K1.out.cell 1 _ rfl, HX.out⟩
 refine wp_region_until (fun w' => w'.cell? ⟨w.heap.size, 4, none⟩ = some (.slice (some ⟨g, off, none⟩) xe.length cap) ∧ w'.cell? ⟨w.heap.size + 1, 1, none⟩ = some (.int .i64 st) ∧ w'.cell? ⟨g, off + k1 * 2, none⟩ = some (.int .i64 st)) (fun i => false) 16 (by rfl) (by kernel_rfl) ?_
 have K0 : Hid (Blk X.drew w.heap.size #[.int .i64 xt, .int .i64 xv, .int .i64 xb, .int .i64 xbt, .slice (some ⟨g, off, none⟩) xe.length cap] 30) := K0.out
 have K1 : Hid (Blk X.drew (w.heap.size + 1) #[.int .i64 si, .int .i64 st, .string sd] 32) := K1.out
 have K2 : Hid (Blk X.drew (w.heap.size + 2) #[.int .i64 0, .int .i64 0, .int .i64 0, .int .i64 0, .slice none 0 0] 30) := K2.out
 have BX : Hid (Below w.heap.size w X.drew) := BY.out.drew
 have HLX : Hid (Lies X.drew B 2 (.slice (some ⟨g, off, none⟩) xe.length cap) (entR xe)) := HLX.out.heap rfl
 have HBX : Hid (B ≤ X.drew.heap.size) := HBX.out
 clear BY
 generalize X.drew = V at *
 refine until_pure 0 (v := ?_) (by rfl) (by kernel_rfl) (by exact fun _ _ _ h => h) (by rfl) ?_ ?_
 rotate_left
 ·intro w
  go_simp
  try with_reducible rfl
 try simp only [Act.put, setIfInBounds_toArray, set_cons_zero, set_cons_succ]
 refine until_pure 1 (v := ?_) (by rfl) (by kernel_rfl) (by exact fun _ _ _ h => h) (by rfl) ?_ ?_
 rotate_left
 ·intro w
  go_simp
  try with_reducible rfl
 try simp only [Act.put, setIfInBounds_toArray, set_cons_zero, set_cons_succ]
 refine until_take 2 (v := ?_) (by rfl) (by kernel_rfl) (by exact fun _ _ _ h => h) (by rfl) ?_ SS.out ?_
 rotate_left
 ·intro w hSw
  try dsimp only at hSw
  go_simp
  try with_reducible rfl
 try simp only [Act.put, setIfInBounds_toArray, set_cons_zero, set_cons_succ]
 refine until_pure 3 (v := ?_) (by rfl) (by kernel_rfl) (by exact fun _ _ _ h => h) (by rfl) ?_ ?_
 rotate_left
 ·intro w
  go_simp
  try with_reducible rfl
 try simp only [Act.put, setIfInBounds_toArray, set_cons_zero, set_cons_succ]
 refine until_pure 4 (v := ?_) (by rfl) (by kernel_rfl) (by exact fun _ _ _ h => h) (by rfl) ?_ ?_
 rotate_left
 ·intro w
  go_simp
  try with_reducible rfl
 try simp only [Act.put, setIfInBounds_toArray, set_cons_zero, set_cons_succ]
 refine until_pure 5 (v := ?_) (by rfl) (by kernel_rfl) (by exact fun _ _ _ h => h) (by rfl) ?_ ?_
 rotate_left
 ·intro w
  go_simp
  try with_reducible rfl
 try simp only [Act.put, setIfInBounds_toArray, set_cons_zero, set_cons_succ]
 refine until_pure 6 (v := ?_) (by rfl) (by kernel_rfl) (by exact fun _ _ _ h => h) (by rfl) ?_ ?_
 rotate_left
 ·intro w
  go_simp
  try with_reducible rfl
 try simp only [Act.put, setIfInBounds_toArray, set_cons_zero, set_cons_succ]
 refine until_take 7 (v := ?_) (by rfl) (by kernel_rfl) (by exact fun _ _ _ h => h) (by rfl) ?_ SS.out ?_
 rotate_left
 ·intro w hSw
  try dsimp only at hSw
  go_simp
  try with_reducible rfl
 try simp only [Act.put, setIfInBounds_toArray, set_cons_zero, set_cons_succ]
 refine until_pure 8 (v := ?_) (by rfl) (by kernel_rfl) (by exact fun _ _ _ h => h) (by rfl) ?_ ?_
 rotate_left
 ·intro w
  go_simp
  try with_reducible rfl
 try simp only [Act.put, setIfInBounds_toArray, set_cons_zero, set_cons_succ]
 refine until_pure 9 (v := ?_) (by rfl) (by kernel_rfl) (by exact fun _ _ _ h => h) (by rfl) ?_ ?_
 rotate_left
 ·intro w
  go_simp
  try with_reducible rfl
 try simp only [Act.put, setIfInBounds_toArray, set_cons_zero, set_cons_succ]
 refine until_pure 10 (v := ?_) (by rfl) (by kernel_rfl) (by exact fun _ _ _ h => h) (by rfl) ?_ ?_
 rotate_left
 ·intro w
  go_simp
  try with_reducible rfl
 try simp only [Act.put, setIfInBounds_toArray, set_cons_zero, set_cons_succ]
 refine until_take 11 (v := ?_) (by rfl) (by kernel_rfl) (by exact fun _ _ _ h => h) (by rfl) ?_ SS.out ?_
 rotate_left
 ·intro w hSw
  try dsimp only at hSw
  go_simp
  try with_reducible rfl
 try simp only [Act.put, setIfInBounds_toArray, set_cons_zero, set_cons_succ]
 refine until_pure 12 (v := ?_) (by rfl) (by kernel_rfl) (by exact fun _ _ _ h => h) (by rfl) ?_ ?_
 rotate_left
 ·intro w
  go_simp
  try with_reducible rfl
 try simp only [Act.put, setIfInBounds_toArray, set_cons_zero, set_cons_succ]
 refine until_take 13 (v := ?_) (by rfl) (by kernel_rfl) (by exact fun _ _ _ h => h) (by rfl) ?_ SS.out ?_
 rotate_left
 ·intro w hSw
  try dsimp only at hSw
  go_simp
  try with_reducible rfl
 try simp only [Act.put, setIfInBounds_toArray, set_cons_zero, set_cons_succ]
 refine until_pure 14 (v := ?_) (by rfl) (by kernel_rfl) (by exact fun _ _ _ h => h) (by rfl) ?_ ?_
 rotate_left
 ·intro w
  go_simp
  try with_reducible rfl
 try simp only [Act.put, setIfInBounds_toArray, set_cons_zero, set_cons_succ]
 refine until_pure 15 (v := ?_) (by rfl) (by kernel_rfl) (by exact fun _ _ _ h => h) (by rfl) ?_ ?_
 rotate_left
 ·intro w
  go_simp
  try with_reducible rfl
 try simp only [Act.put, setIfInBounds_toArray, set_cons_zero, set_cons_succ]
 refine until_done (by kernel_rfl) ?_ _
 obtain ⟨cA, cc, hcut, hcl, -⟩ := cut_ents HLX.out k (by rw [entR_length]; exact hle)
 have e4 := K0.out.cell 4 _ rfl
 have HLEN : Hid (([] : List (List Value)).length + ((entR xe).drop k).length ≤ 2097152) := by unfold Hid; simp [entR_length]; have := HN.out; omega
 have HCL := Hid.mk hcl
 clear hcl
 obtain ⟨w1, w2, w3, w4, w5, w6⟩ := HWR.out
 go_wp2_with (at_builtin; refine Shut.out ?_)
 clear w1 w2 w3 w4 w5 w6 e4 hcut
 unfold Shut
 refine wpList_append_all rfl (.tmp 30) (.tmp 35) 28 59 (.agg #[.int .i64 0, .string ⟨#[]⟩]) 2 24 rfl Tryz.underlying28 Tryz.infoEntR rfl (by omega) V.heap.size (.slice none 0 0) (.slice cA (xe.length - k) cc) [] ((entR xe).drop k) B rfl (Owns.nil _ _ _ _) HCL.out (fun r hr => ent_one xe r (List.mem_of_mem_drop hr)) rfl HLEN.out (by omega) (Nat.le_refl _) ?_
 intro v' Y hO hbY _ _
 obtain ⟨EA, em, ec, rfl⟩ := hO.shape
 have OY : Hid (Owns Y w.heap.size 59 2 (.slice EA em ec) (entR (xe.drop k))) := by
  have h := hO.mono BX.out.size
  rw [List.nil_append] at h
  unfold Hid entR
  rw [List.map_drop]
  exact h
 have BY : Hid (Below w.heap.size w Y) := BX.out.trans (hbY.mono BX.out.size)
 have K0 : Hid (Blk Y w.heap.size #[.int .i64 xt, .int .i64 xv, .int .i64 xb, .int .i64 xbt, .slice (some ⟨g, off, none⟩) xe.length cap] 30) := K0.out.on hbY K0.out.lt
 have K1 : Hid (Blk Y (w.heap.size + 1) #[.int .i64 si, .int .i64 st, .string sd] 32) := K1.out.on hbY K1.out.lt
 have K2 : Hid (Blk Y (w.heap.size + 2) #[.int .i64 0, .int .i64 0, .int .i64 0, .int .i64 0, .slice none 0 0] 30) := K2.out.on hbY K2.out.lt
 have a0 := K0.out.cell 0 _ rfl
 have a1 := K0.out.cell 1 _ rfl
 have a3 := K1.out.cell 0 _ rfl
 have a4 := K1.out.cell 1 _ rfl
 clear hbY hO HLX HBX
 have KB := Hid.mk (Blk.new Y #[.int .i64 xt, .int .i64 xv, .int .i64 si, .int .i64 st, .slice EA em ec] 30)
 have KR0 := Hid.mk (K2.out.alloc (.cells #[.int .i64 xt, .int .i64 xv, .int .i64 si, .int .i64 st, .slice EA em ec] 30))
 have KS := Hid.mk (K1.out.alloc (.cells #[.int .i64 xt, .int .i64 xv, .int .i64 si, .int .i64 st, .slice EA em ec] 30))
 have OV0 := Hid.mk (OY.out.alloc (.cells #[.int .i64 xt, .int .i64 xv, .int .i64 si, .int .i64 st, .slice EA em ec] 30))
 have BV0 := Hid.mk (BY.out.alloc BY.out.size (.cells #[.int .i64 xt, .int .i64 xv, .int .i64 si, .int .i64 st, .slice EA em ec] 30))
 have HYR : Hid (w.heap.size + 2 < Y.heap.size) := K2.out.lt
 have b0 := KB.out.cell 0 _ rfl
 have b1 := KB.out.cell 1 _ rfl
 have b2 := KB.out.cell 2 _ rfl
 have b3 := KB.out.cell 3 _ rfl
 have b4 := KB.out.cell 4 _ rfl
 have s0 := KS.out.cell 0 _ rfl
 have s1 := KS.out.cell 1 _ rfl
 by_cases hlt : xt < st
 ·have HW : Hid (behW ⟨xt, xv, xb, xbt, xe⟩ ⟨si, st, sd⟩ = ⟨st, -1, si, st, behE ⟨xt, xv, xb, xbt, xe⟩ ⟨si, st, sd⟩⟩) := by unfold Hid behW; simp only [if_pos hlt]
  have c2 := Blk.new Y #[.int .i64 st, .int .i64 (-1), .int .i64 si, .int .i64 st, .slice EA em ec] 30
  have d0 := c2.cell 0 _ rfl
  have d1 := c2.cell 1 _ rfl
  have d2 := c2.cell 2 _ rfl
  have d3 := c2.cell 3 _ rfl
  have d4 := c2.cell 4 _ rfl
  have OV := Hid.mk (OY.out.alloc (.cells #[.int .i64 st, .int .i64 (-1), .int .i64 si, .int .i64 st, .slice EA em ec] 30))
  have KR := Hid.mk (K2.out.alloc (.cells #[.int .i64 st, .int .i64 (-1), .int .i64 si, .int .i64 st, .slice EA em ec] 30))
  have BV := Hid.mk (BY.out.alloc BY.out.size (.cells #[.int .i64 st, .int .i64 (-1), .int .i64 si, .int .i64 st, .slice EA em ec] 30))
  clear c2 KB KR0 KS OV0 BV0
  obtain ⟨⟨r0, f0⟩, ⟨r1, f1⟩, ⟨r2, f2⟩, ⟨r3, f3⟩, ⟨r4, f4⟩, kE⟩ := res5R (x0 := .int .i64 st) (x1 := .int .i64 (-1)) (x2 := .int .i64 si) (x3 := .int .i64 st) (x4 := .slice EA em ec) KR.out
  have y0 := kE.cell 0 _ rfl
  have y1 := kE.cell 1 _ rfl
  have y2 := kE.cell 2 _ rfl
  have y3 := kE.cell 3 _ rfl
  have y4 := kE.cell 4 _ rfl
  have OE := Hid.mk (OV.out.set5R KR.out (by decide) (.int .i64 st) (.int .i64 (-1)) (.int .i64 si) (.int .i64 st) (.slice EA em ec))
  have BE := Hid.mk (((((BV.out.setCell (p := ⟨w.heap.size + 2, 0, none⟩) (by simp) (.int .i64 st)).setCell (p := ⟨w.heap.size + 2, 1, none⟩) (by simp) (.int .i64 (-1))).setCell (p := ⟨w.heap.size + 2, 2, none⟩) (by simp) (.int .i64 si)).setCell (p := ⟨w.heap.size + 2, 3, none⟩) (by simp) (.int .i64 st)).setCell (p := ⟨w.heap.size + 2, 4, none⟩) (by simp) (.slice EA em ec))
  clear kE KR OV BV
  clear K0 K1 K2 OY BY
  go_wp2_with fail
  exact bodyPost_ret (v := .agg #[.int .i64 st, .int .i64 (-1), .int .i64 si, .int .i64 st, .slice EA em ec]) (by simp [results, go_sem, y0, y1, y2, y3, y4]) rfl ⟨⟨.slice EA em ec, by rw [HW.out], by rw [HW.out, HE.out]; exact OE.out⟩, BE.out⟩
 ·have HW : Hid (behW ⟨xt, xv, xb, xbt, xe⟩ ⟨si, st, sd⟩ = ⟨xt, xv, si, st, behE ⟨xt, xv, xb, xbt, xe⟩ ⟨si, st, sd⟩⟩) := by unfold Hid behW; simp only [if_neg hlt]
  have hltd : decide (xt < st) = false := decide_eq_false hlt
  have OV := OV0
  have KR := KR0
  have BV := BV0
  obtain ⟨⟨r0, f0⟩, ⟨r1, f1⟩, ⟨r2, f2⟩, ⟨r3, f3⟩, ⟨r4, f4⟩, kE⟩ := res5R (x0 := .int .i64 xt) (x1 := .int .i64 xv) (x2 := .int .i64 si) (x3 := .int .i64 st) (x4 := .slice EA em ec) KR.out
  have y0 := kE.cell 0 _ rfl
  have y1 := kE.cell 1 _ rfl
  have y2 := kE.cell 2 _ rfl
  have y3 := kE.cell 3 _ rfl
  have y4 := kE.cell 4 _ rfl
  have OE := Hid.mk (OV.out.set5R KR.out (by decide) (.int .i64 xt) (.int .i64 xv) (.int .i64 si) (.int .i64 st) (.slice EA em ec))
  have BE := Hid.mk (((((BV.out.setCell (p := ⟨w.heap.size + 2, 0, none⟩) (by simp) (.int .i64 xt)).setCell (p := ⟨w.heap.size + 2, 1, none⟩) (by simp) (.int .i64 xv)).setCell (p := ⟨w.heap.size + 2, 2, none⟩) (by simp) (.int .i64 si)).setCell (p := ⟨w.heap.size + 2, 3, none⟩) (by simp) (.int .i64 st)).setCell (p := ⟨w.heap.size + 2, 4, none⟩) (by simp) (.slice EA em ec))
  clear kE KR OV BV
  clear K0 K1 K2 OY BY KB KR0 KS OV0 BV0
  go_wp2_with fail
  exact bodyPost_ret (v := .agg #[.int .i64 xt, .int .i64 xv, .int .i64 si, .int .i64 st, .slice EA em ec]) (by simp [results, go_sem, y0, y1, y2, y3, y4]) rfl ⟨⟨.slice EA em ec, by rw [HW.out], by rw [HW.out, HE.out]; exact OE.out⟩, BE.out⟩
end Go.Proofs.YtdimaoloapbeoaaGreatDoor
namespace Go.Proofs.YtdimaoloapbeoaaGreatDoor
open Go.ChangeShapes Go.WideShapes Go.ChangeAt Go.RowKit Go.PlainAid
set_option linter.unusedVariables false
set_option maxHeartbeats 1000000 in
theorem begun_no (kv : Value) (w : World) (ta : ∀ wx : World, (Instr.typeAssert kv 129 161 true).run Tryz.prog wx = .ok (.tuple #[.agg #[.int .i64 0, .int .i64 0], .bool false]) wx) :
  Calls Tryz.prog 66 #[kv] w fun e w' => e = .returned (.tuple #[.agg #[.int .i64 0, .int .i64 0, .int .i64 0, .int .i64 0, .slice none 0 0], .bool false]) ∧ Below w.heap.size w w' := by
 go_enter Tryz.func66, Tryz.ntmps66
 go_wp2_with fail
 exact bodyPost_ret (v := .tuple #[.agg #[.int .i64 0, .int .i64 0, .int .i64 0, .int .i64 0, .slice none 0 0], .bool false]) (by simp [results, go_sem]) rfl ⟨rfl, (Below.refl _ w).alloc (Nat.le_refl _) _⟩
set_option maxHeartbeats 1000000 in
theorem begun_yes (i t : Int) (w : World) :
  Calls Tryz.prog 66 #[.iface 161 (.agg #[.int .i64 i, .int .i64 t])] w fun e w' => e = .returned (.tuple #[.agg #[.int .i64 t, .int .i64 (-1), .int .i64 i, .int .i64 t, .slice none 0 0], .bool true]) ∧ Below w.heap.size w w' := by
 have ta : ∀ wx : World, (Instr.typeAssert (.iface 161 (.agg #[.int .i64 i, .int .i64 t])) 129 161 true).run Tryz.prog wx = .ok (.tuple #[.agg #[.int .i64 i, .int .i64 t], .bool true]) wx := fun wx => by kernel_rfl
 go_enter Tryz.func66, Tryz.ntmps66
 go_wp2_with fail
 exact bodyPost_ret (v := .tuple #[.agg #[.int .i64 t, .int .i64 (-1), .int .i64 i, .int .i64 t, .slice none 0 0], .bool true]) (by simp [results, go_sem]) rfl ⟨rfl, ((Below.refl _ w).alloc (Nat.le_refl _) _).alloc (by simp) _⟩
theorem begunV (q : Rcd) (w : World) : Calls Tryz.prog 66 #[recV q] w fun e w' => e = .returned (if recOk q = true ∧ q.kind = 4 then .tuple #[.agg #[.int .i64 q.term, .int .i64 (-1), .int .i64 q.index, .int .i64 q.term, .slice none 0 0], .bool true] else .tuple #[.agg #[.int .i64 0, .int .i64 0, .int .i64 0, .int .i64 0, .slice none 0 0], .bool false]) ∧ Below w.heap.size w w' := by
 cases ho : recOk q
 ·have h1 : recV q = .nilIface := by unfold recV; rw [ho]; rfl
  rw [h1, if_neg (by simp)]
  exact begun_no _ w (fun wx => by kernel_rfl)
 ·have h1 : recV q = kindV q := by unfold recV; rw [if_pos ho]
  rw [h1]
  obtain ⟨k, t, i, vo, d⟩ := q
  rcases rest0_of k t i vo d ho with ⟨rfl, _, _⟩ | ⟨rfl, _⟩ | ⟨rfl, _, _, _⟩ | ⟨rfl, _, _⟩
  ·rw [if_neg (by simp)]
   exact begun_no _ w (fun wx => by kernel_rfl)
  ·rw [if_neg (by simp)]
   exact begun_no _ w (fun wx => by kernel_rfl)
  ·rw [if_neg (by simp)]
   exact begun_no _ w (fun wx => by kernel_rfl)
  ·rw [if_pos ⟨rfl, rfl⟩]
   exact begun_yes i t w
end Go.Proofs.YtdimaoloapbeoaaGreatDoor
namespace Go.Proofs.YtdimaoloapbeoaaGreatDoor
open Go.ChangeShapes Go.WideShapes Go.ChangeAt Go.RowKit Go.PlainAid
set_option linter.unusedVariables false
theorem elem_strs : Tryz.prog.elem 98 = 9 := by kernel_rfl
theorem size_str : (Tryz.prog.info? 9).map (·.size) = some 1 := by kernel_rfl
theorem cut_strs (g n c : Nat) (hn : 1 ≤ n) (hc : n ≤ c) : ∃ A' c', (∀ wx, (Instr.sliceAt 98 (.slice (some ⟨g, 0, none⟩) n c) (some (.int .i64 1)) none none).run Tryz.prog wx = .ok (.slice A' (n - 1) c') wx) ∧ (1 < n → A' = some ⟨g, 1, none⟩) := by
 have hu : Tryz.prog.underlying 98 = some (.slice (Tryz.prog.elem 98)) := by rw [elem_strs]; exact Tryz.underlying98
 have hz := size_str
 cases hq : Tryz.prog.info? 9 with
 | none => rw [hq] at hz; simp at hz
 | some i =>
  rw [hq] at hz
  have hi : i.size = 1 := by simpa using hz
  refine ⟨if c = 1 then some ⟨g, 0, none⟩ else some ⟨g, 1, none⟩, c - 1, fun wx => ?_, fun h => if_neg (by omega)⟩
  rw [run_sliceAt_slice wx 98 _ _ _ _ hu, run_slice_l wx 98 (some ⟨g, 0, none⟩) n c hu .i64 1 (by omega) (by omega), elem_strs]
  by_cases h1 : c = 1
  ·simp [sizeOf, typeInfo, hq, hi, sliced, h1]
  ·simp [sizeOf, typeInfo, hq, hi, sliced, h1, Addr.add]
theorem Strs.room {w : World} {base n c : Nat} {A : Option Addr} {l : List ByteArray} (h : Strs w base (.slice A n c) l) : l.length ≤ c ∧ n = l.length := by
 rcases h.2 with ⟨e, h0⟩ | ⟨g, cap, cur, e, _, _, hcap, _⟩
 ·cases e
  omega
 ·cases e
  exact ⟨by omega, rfl⟩
end Go.Proofs.YtdimaoloapbeoaaGreatDoor
