/- FlIxO FlSpanI FlFindB FlFindI LawFnFile -/
import Derived.Test.YtnilgemgjlhibaaDoorQf9
import Derived.WalkKit
import Derived.ProofKit
import Derived.OpenShut
import Derived.Below
import Derived.WalkSmall
import Derived.BigQuiet
import Derived.Deep.QuietTactic
import Derived.Deep.RegionWith
import Derived.Handy
import Derived.Test.YtnilgemgjlhibaaDoorQf4
import Derived.Test.YtnilgemgjlhibaaDoorQf2
import Derived.Test.YtnilgemgjlhibaaDoorQf11
import Derived.Test.YtnilgemgjlhibaaDoorQf12
open List (setIfInBounds_toArray set_cons_zero set_cons_succ)
namespace Go.Proofs.YtnilgemgjlhibaaDoor
open Go.ChangeShapes Go.WideShapes Go.ChangeAt Go.RowKit Go.PlainAid
set_option linter.unusedVariables false
def IxI (s : ByteArray) (P : List Spot) : Prop := (∃ m, GoodF s m ∧ P = (List.range m.length).map (spotOf m)) ∨ ((∀ m, ¬ GoodF s m) ∧ P = [])
set_option maxHeartbeats 2000000 in
theorem indexOfV (s : ByteArray) (w : World) (hs : s.size ≤ 1048576) (hst : SumTab w) (a0 a1 a2 : Addr) (he : Errs w a0 a1 a2) : Calls Tryd.prog 30 #[.string s] w fun e w' => (∃ v P, e = .returned v ∧ IxI s P ∧ Owns w' w.heap.size 52 5 v (spR P)) ∧ Below w.heap.size w w' := by
 have HS : Hid (s.size ≤ 1048576) := hs
 have c1 := implReadFile s w hs hst a0 a1 a2 he
 clear hs hst he
 go_enter Tryd.func30, Tryd.ntmps30
 go_wp2_with fail
 refine c1.mono ?_
 rintro e X1 ⟨⟨u1, L1, ok1, hR, rfl, _⟩, hb⟩
 have HR : Hid (RfAns s (L1.map Prod.fst) ok1) := hR
 have B1 : Hid (Below w.heap.size w X1) := hb
 clear hR hb c1
 cases ok1 with
 | false =>
  have HN : Hid (IxI s []) := by
   rcases HR.out with ⟨h, _⟩ | ⟨_, _, h⟩
   ·cases h
   ·exact .inr ⟨h, rfl⟩
  go_wp2_with fail
  go_ret
  exact ⟨⟨_, [], rfl, HN.out, Owns.nil _ _ _ _⟩, B1.out⟩
 | true =>
 have HY : Hid (IxI s (spots s)) := by
  rcases HR.out with ⟨_, h⟩ | ⟨h, _⟩
  ·exact .inl ⟨_, h, h.read.2⟩
  ·cases h
 have C0 : Hid (CurB (X1.alloc (.cells #[.string s, .int .i64 0] 82)) X1.heap.size s 0 82) := Blk.new X1 _ _
 have B0 : Hid (Below w.heap.size w (X1.alloc (.cells #[.string s, .int .i64 0] 82))) := B1.out.alloc B1.out.size _
 go_wp2_with fail
 refine (readerOfV s X1).mono ?_
 rintro e W1 ⟨rfl, hW1⟩
 rw [← hW1] at C0 B0
 clear hW1
 go_wp2_with fail
 refine (readIndexV s 0 X1.heap.size W1 C0.out HS.out).mono ?_
 rintro e X2 ⟨⟨u2, rfl, hO⟩, _, hk⟩
 have B2 : Hid (Below w.heap.size w X2) := B0.out.trans (hk.1.mono B1.out.size)
 have O2 : Hid (Owns X2 w.heap.size 52 5 u2 (spR (spots s))) := hO.mono B0.out.size
 clear hO hk
 go_wp2_with fail
 go_ret
 exact ⟨⟨_, _, rfl, HY.out, O2.out⟩, B2.out⟩
end Go.Proofs.YtnilgemgjlhibaaDoor
namespace Go.Proofs.YtnilgemgjlhibaaDoor
open Go.ChangeShapes Go.WideShapes Go.ChangeAt Go.RowKit Go.PlainAid
set_option linter.unusedVariables false
set_option maxHeartbeats 4000000 in
theorem implFileSpan (s : ByteArray) (w : World) (hs : s.size ≤ 1048576) (hst : SumTab w) (a0 a1 a2 : Addr) (he : Errs w a0 a1 a2) : Calls Tryd.prog 9 #[.string s] w fun e w' => FsOk s e ∧ Below w.heap.size w w' := by
 have c1 := indexOfV s w hs hst a0 a1 a2 he
 clear hs hst he
 go_enter Tryd.func9, Tryd.ntmps9
 go_wp2_with fail
 refine c1.mono ?_
 rintro e X1 ⟨⟨v, P, rfl, hI, hO⟩, hb⟩
 have B1 : Hid (Below w.heap.size w X1) := hb
 clear hb c1
 rcases hI with ⟨m, hm, rfl⟩ | ⟨hno, rfl⟩
 ·obtain ⟨A, n0, c, rfl⟩ := hO.shape
  obtain ⟨g, rfl, en, hnc, hgl, _, hc⟩ := sp_tail hO (by rw [List.length_map, List.length_range]; exact hm.1)
  rw [List.length_map, List.length_range] at en hc
  subst en
  have HC : Hid (∀ j, j < m.length → X1.cell? ⟨g, j * 5, none⟩ = some (.string (spotOf m j).key) ∧ X1.cell? ⟨g, j * 5 + 1, none⟩ = some (.int .i64 ((spotOf m j).at' : Int)) ∧ X1.cell? ⟨g, j * 5 + 2, none⟩ = some (.int .i64 ((spotOf m j).size : Int)) ∧ X1.cell? ⟨g, j * 5 + 3, none⟩ = some (.int .i64 (fT m j : Int)) ∧ X1.cell? ⟨g, j * 5 + 4, none⟩ = some (.int .i64 (lT m j : Int))) := fun j hj => by
   have := hc j hj
   rw [range_get m m.length j hj] at this
   exact this
  have HGL : Hid (g < X1.heap.size) := hgl
  have q1 : (m.length : Int) ≤ 5 := by have := hm.2.1.1; omega
  have q2 : (1 : Int) ≤ (m.length : Int) := by have := hm.1; omega
  have HA : Hid (FsAns s (loT m m.length) (hiT m m.length) true) := .inl ⟨rfl, m, hm, rfl, rfl⟩
  have HLE : Hid (∀ k, k ≤ m.length → loT m k ≤ 1099511627776 ∧ hiT m k ≤ 1099511627776) := loT_le hm.2.1 hm.1
  have HFL : Hid (∀ j, j < m.length → fT m j ≤ 1099511627776 ∧ lT m j ≤ 1099511627776) := fun j hj => by
   have h2 := hm.2.1.times j hj
   unfold fT lT
   omega
  have H1 : Hid (loT m 1 = fT m 0 ∧ hiT m 1 = lT m 0) := by
   have := hm.2.1.rise 0 (by have := hm.1; omega)
   refine ⟨?_, ?_⟩
   ·show min (fT m 0) (fT m 0) = fT m 0
    omega
   ·show max (fT m 0) (lT m 0) = lT m 0
    omega
  have HNC : Hid (m.length ≤ c) := hnc
  clear hc hO hm hgl hnc
  generalize hn : m.length = n at *
  have HN : Hid (m.length = n) := hn
  clear hn
  have d0 : ((n : Int) == 0) = false := by rw [beq_eq_false_iff_ne]; omega
  have d1 : decide ((n : Int) = 0) = false := decide_eq_false (by omega)
  have hc0 := HC.out 0 (by omega)
  simp only [Nat.zero_mul, Nat.zero_add] at hc0
  obtain ⟨_, _, _, f3, f4⟩ := hc0
  have H01 : Hid (loT m 1 = fT m 0 ∧ hiT m 1 = lT m 0) := H1.out
  have hb0 := HFL.out 0 (by omega)
  generalize hf0 : fT m 0 = f0 at *
  generalize hl0 : lT m 0 = l0 at *
  have S0 : Hid (X1.drew.cell? ⟨g, 3, none⟩ = some (.int .i64 (f0 : Int)) ∧ X1.drew.cell? ⟨g, 4, none⟩ = some (.int .i64 (l0 : Int))) := ⟨f3, f4⟩
  have q3 : (0 : Int) < (n : Int) := by omega
  have q4 : 0 < n := by omega
  clear f3 f4 hf0 hl0
  go_wp2_with fail
  refine wp_region_until (fun w' => w'.cell? ⟨g, 3, none⟩ = some (.int .i64 (f0 : Int)) ∧ w'.cell? ⟨g, 4, none⟩ = some (.int .i64 (l0 : Int))) (fun _ => false) 10 (by rfl) (by kernel_rfl) ?_
  refine until_take 0 (v := ?_) (by rfl) (by kernel_rfl) (by exact fun _ _ _ h => h) (by rfl) ?_ S0.out ?_
  rotate_left
  ·intro w hSw
   try dsimp only at hSw
   go_simp
   try with_reducible rfl
  try simp only [Act.put, setIfInBounds_toArray, set_cons_zero, set_cons_succ]
  refine until_take 1 (v := ?_) (by rfl) (by kernel_rfl) (by exact fun _ _ _ h => h) (by rfl) ?_ S0.out ?_
  rotate_left
  ·intro w hSw
   try dsimp only at hSw
   go_simp
   try with_reducible rfl
  try simp only [Act.put, setIfInBounds_toArray, set_cons_zero, set_cons_succ]
  refine until_take 2 (v := ?_) (by rfl) (by kernel_rfl) (by exact fun _ _ _ h => h) (by rfl) ?_ S0.out ?_
  rotate_left
  ·intro w hSw
   try dsimp only at hSw
   go_simp
   try with_reducible rfl
  try simp only [Act.put, setIfInBounds_toArray, set_cons_zero, set_cons_succ]
  refine until_take 3 (v := ?_) (by rfl) (by kernel_rfl) (by exact fun _ _ _ h => h) (by rfl) ?_ S0.out ?_
  rotate_left
  ·intro w hSw
   try dsimp only at hSw
   go_simp
   try with_reducible rfl
  try simp only [Act.put, setIfInBounds_toArray, set_cons_zero, set_cons_succ]
  refine until_take 4 (v := ?_) (by rfl) (by kernel_rfl) (by exact fun _ _ _ h => h) (by rfl) ?_ S0.out ?_
  rotate_left
  ·intro w hSw
   try dsimp only at hSw
   go_simp
   try with_reducible rfl
  try simp only [Act.put, setIfInBounds_toArray, set_cons_zero, set_cons_succ]
  refine until_take 5 (v := ?_) (by rfl) (by kernel_rfl) (by exact fun _ _ _ h => h) (by rfl) ?_ S0.out ?_
  rotate_left
  ·intro w hSw
   try dsimp only at hSw
   go_simp
   try with_reducible rfl
  try simp only [Act.put, setIfInBounds_toArray, set_cons_zero, set_cons_succ]
  refine until_take 6 (v := ?_) (by rfl) (by kernel_rfl) (by exact fun _ _ _ h => h) (by rfl) ?_ S0.out ?_
  rotate_left
  ·intro w hSw
   try dsimp only at hSw
   go_simp
   try with_reducible rfl
  try simp only [Act.put, setIfInBounds_toArray, set_cons_zero, set_cons_succ]
  refine until_take 7 (v := ?_) (by rfl) (by kernel_rfl) (by exact fun _ _ _ h => h) (by rfl) ?_ S0.out ?_
  rotate_left
  ·intro w hSw
   try dsimp only at hSw
   go_simp
   try with_reducible rfl
  try simp only [Act.put, setIfInBounds_toArray, set_cons_zero, set_cons_succ]
  refine until_take 8 (v := ?_) (by rfl) (by kernel_rfl) (by exact fun _ _ _ h => h) (by rfl) ?_ S0.out ?_
  rotate_left
  ·intro w hSw
   try dsimp only at hSw
   go_simp
   try with_reducible rfl
  try simp only [Act.put, setIfInBounds_toArray, set_cons_zero, set_cons_succ]
  refine until_take 9 (v := ?_) (by rfl) (by kernel_rfl) (by exact fun _ _ _ h => h) (by rfl) ?_ S0.out ?_
  rotate_left
  ·intro w hSw
   try dsimp only at hSw
   go_simp
   try with_reducible rfl
  try simp only [Act.put, setIfInBounds_toArray, set_cons_zero, set_cons_succ]
  refine until_done (by kernel_rfl) ?_ _
  have q5 : (1 : Int) ≤ (c : Int) := by have := HNC.out; omega
  have q6 : (n : Int) ≤ (c : Int) := by have := HNC.out; omega
  have q7 : n ≤ c := HNC.out
  have q8 : 1 ≤ n := by omega
  have q9 : 1 ≤ c := by omega
  have i1 : ((n - 1 : Nat) : Int) = (n : Int) - 1 := by omega
  by_cases hc1 : c = 1
  ·subst hc1
   obtain rfl : n = 1 := by omega
   have X1d : Hid (Below X1.heap.size X1 X1.drew) := (Below.refl _ X1).drew
   have B1d : Hid (Below w.heap.size w X1.drew) := B1.out.drew
   rw [H01.out.1, H01.out.2] at HA
   clear S0 hb0
   go_wp2_with fail
   go_loop [6, 7, 26] (fun v6 v7 v26 => v6 = .int .i64 (f0 : Int) ∧ v7 = .int .i64 (l0 : Int) ∧ v26 = .int .i64 0) (fun _ _ _ => 0)
   case atStart => exact ⟨rfl, rfl, rfl⟩
   case round =>
    obtain ⟨rfl, rfl, rfl⟩ := hrel
    go_wp2_with fail
    refine bodyPost_ret (results_tmp3 rfl _ _ _) rfl ?_
    exact ⟨⟨_, _, true, rfl, HA.out⟩, B1d.out⟩
  go_wp2_with fail
  have B1d : Hid (Below w.heap.size w X1.drew) := B1.out.drew
  have X1d : Hid (Below X1.heap.size X1 X1.drew) := (Below.refl _ X1).drew
  clear S0 hb0
  go_loopw [6, 7, 26] (fun v6 v7 v26 wr => ∃ j : Nat, j ≤ n - 1 ∧ v26 = .int .i64 (j : Int) ∧ v6 = .int .i64 (loT m (j + 1) : Int) ∧ v7 = .int .i64 (hiT m (j + 1) : Int) ∧ Below X1.heap.size X1 wr) (fun _ _ i _ => n - 1 - (intOf i).toNat)
  case atStart => exact ⟨0, by omega, rfl, by rw [H01.out.1], by rw [H01.out.2], X1d.out⟩
  case round =>
   obtain ⟨j, hj, rfl, rfl, rfl, hb⟩ := hrel
   have HB : Hid (Below X1.heap.size X1 wr) := hb
   clear hb
   by_cases hlt : j < n - 1
   ·have r1 : (j : Int) < (n : Int) - 1 := by omega
    obtain ⟨k0, k1, k2, k3, k4⟩ := HC.out (j + 1) (by omega)
    rw [show (j + 1) * 5 = 5 + j * 5 by omega] at k0 k1 k2 k3 k4
    have HLo : Hid (loT m (j + 1 + 1) = min (loT m (j + 1)) (fT m (j + 1)) ∧ hiT m (j + 1 + 1) = max (hiT m (j + 1)) (lT m (j + 1))) := ⟨rfl, rfl⟩
    have hb1 := HLE.out (j + 1) (by omega)
    have hb2 := HFL.out (j + 1) (by omega)
    rw [← HB.out.cell (p := ⟨_, _, none⟩) HGL.out] at k0 k1 k2 k3 k4
    have HBa : Hid (∀ cs, Below X1.heap.size X1 (wr.alloc (.cells cs 52))) := fun cs => HB.out.alloc HB.out.size _
    generalize (spotOf m (j + 1)).key = xk at *
    generalize (spotOf m (j + 1)).at' = xa at *
    generalize (spotOf m (j + 1)).size = xz at *
    generalize loT m (j + 1) = lo at *
    generalize hiT m (j + 1) = hi at *
    generalize fT m (j + 1) = ff at *
    generalize lT m (j + 1) = la at *
    have E1 : Hid (((min lo ff : Nat) : Int) = min (lo : Int) (ff : Int)) := by unfold Hid; omega
    have E2 : Hid (((max hi la : Nat) : Int) = max (hi : Int) (la : Int)) := by unfold Hid; omega
    go_wp2_with fail
    go_roundw
    case rel => exact ⟨j + 1, by omega, by go_num, by rw [HLo.out.1, E1.out], by rw [HLo.out.2, E2.out], HBa.out _⟩
    case measure => simp [intOf]; omega
   ·have r1 : ¬ (j : Int) < (n : Int) - 1 := by omega
    have d5 : decide ((j : Int) < (n : Int) - 1) = false := decide_eq_false r1
    obtain rfl : n = j + 1 := by omega
    have BF : Hid (Below w.heap.size w wr) := B1.out.trans (HB.out.mono B1.out.size)
    go_wp2_with fail
    refine bodyPost_ret (results_tmp3 rfl _ _ _) rfl ?_
    exact ⟨⟨_, _, true, rfl, HA.out⟩, BF.out⟩
 ·obtain ⟨A, n0, c, rfl⟩ := hO.shape
  obtain ⟨A', c', e', _⟩ := sp_look hO.lies
  cases e'
  have HN : Hid (FsAns s 0 0 false) := .inr ⟨rfl, rfl, rfl, hno⟩
  clear hO hno
  go_wp2_with fail
  refine bodyPost_ret (results_tmp3 rfl _ _ _) rfl ?_
  exact ⟨⟨0, 0, false, rfl, HN.out⟩, B1.out⟩
end Go.Proofs.YtnilgemgjlhibaaDoor
namespace Go.Proofs.YtnilgemgjlhibaaDoor
open Go.ChangeShapes Go.WideShapes Go.ChangeAt Go.RowKit Go.PlainAid
set_option linter.unusedVariables false
set_option maxHeartbeats 4000000 in
theorem findBlockV (s key : ByteArray) (P : List Spot) (v : Value) (w : World) (BB : Nat) (hI : IxI s P) (hO : Lies w BB 5 v (spR P)) (hBB : BB ≤ w.heap.size) (hs : s.size ≤ 1048576) (hst : SumTab w) (a0 a1 a2 : Addr) (he : Errs w a0 a1 a2) : Calls Tryd.prog 31 #[.string s, v, .string key] w fun e w' => FfOk s key w' w.heap.size e ∧ Below w.heap.size w w' := by
 have HS : Hid (s.size ≤ 1048576) := hs
 have ST : Hid (SumTab w) := hst
 have ER : Hid (Errs w a0 a1 a2) := he
 clear hs hst he
 obtain ⟨X1, hX1⟩ : ∃ X1, X1 = w := ⟨_, rfl⟩
 rw [← hX1] at hO
 have HX1 : Hid (X1 = w) := hX1
 have B1 : Hid (Below w.heap.size w X1) := by unfold Hid; rw [hX1]; exact Below.refl _ _
 obtain ⟨A, c, rfl, hl⟩ := sp_look (hO.mono (show BB ≤ X1.heap.size by rw [hX1]; exact hBB))
 clear hX1
 have HIx : Hid (IxI s P) := hI
 have HNm : Hid (∀ m, GoodF s m → P = (List.range m.length).map (spotOf m)) := fun m hm => by
  rcases hI with ⟨m', h1, h2⟩ | ⟨h1, _⟩
  ·obtain rfl := hm.one h1
   exact h2
  ·exact absurd hm (h1 m)
 have HSo : Hid (1 ≤ P.length → ∃ m, GoodF s m) := fun h => by
  rcases hI with ⟨m', h1, h2⟩ | ⟨_, h2⟩
  ·exact ⟨m', h1⟩
  ·rw [h2] at h
   simp at h
 have HN5 : Hid (P.length ≤ 5) := by
  unfold Hid
  rcases hI with ⟨m', h1, h2⟩ | ⟨_, h2⟩
  ·rw [h2, List.length_map, List.length_range]
   exact h1.2.1.1
  ·rw [h2]
   simp
 have q1 : (P.length : Int) ≤ 5 := by have := HN5.out; omega
 have HL : Hid (∀ j, j < P.length → ∃ g off, A = some ⟨g, off, none⟩ ∧ g < X1.heap.size ∧
  X1.cell? ⟨g, off + j * 5, none⟩ = some (.string (P.getD j default).key) ∧ X1.cell? ⟨g, off + j * 5 + 1, none⟩ = some (.int .i64 ((P.getD j default).at' : Int)) ∧ X1.cell? ⟨g, off + j * 5 + 2, none⟩ = some (.int .i64 ((P.getD j default).size : Int)) ∧
  X1.cell? ⟨g, off + j * 5 + 3, none⟩ = some (.int .i64 ((P.getD j default).first : Int)) ∧ X1.cell? ⟨g, off + j * 5 + 4, none⟩ = some (.int .i64 ((P.getD j default).last : Int))) := hl
 clear hI hO hl hBB
 generalize hn : P.length = n at *
 have HN : Hid (P.length = n) := hn
 clear hn
 obtain rfl : w = X1 := HX1.out.symm
 go_enter Tryd.func31, Tryd.ntmps31
 go_wp2_with fail
 go_loopw [12] (fun v12 wr => ∃ k : Nat, k ≤ n ∧ v12 = .int .i64 (k : Int) ∧ Hid (∀ i, i < k → (P.getD i default).key ≠ key) ∧ Below w.heap.size w wr) (fun i _ => n - (intOf i).toNat)
 case atStart => exact ⟨0, by omega, rfl, fun i hi => by omega, Below.refl _ _⟩
 case round =>
  obtain ⟨k, hk, rfl, HJ, hb⟩ := hrel
  have HB : Hid (Below w.heap.size w wr) := hb
  clear hb
  by_cases hlt : k < n
  ·have q4 : (k : Int) < (n : Int) := by omega
   obtain ⟨g, off, rfl, hg, e0, e1, e2, e3, e4⟩ := HL.out k hlt
   rw [← HB.out.cell (p := ⟨_, _, none⟩) hg] at e0 e1 e2 e3 e4
   obtain ⟨m, hm⟩ := HSo.out (by omega)
   have hPm := HNm.out m hm
   have hln : m.length = n := by rw [← HN.out, hPm, List.length_map, List.length_range]
   have HAt : Hid (∀ i, i < n → P.getD i default = spotOf m i) := fun i hi => by rw [hPm]; exact range_get m m.length i (by rw [hln]; exact hi)
   have HMg : Hid (GoodF s m ∧ m.length = n) := ⟨hm, hln⟩
   have HX : Hid (P.getD k default = spotOf m k) := HAt.out k hlt
   have HFit : Hid ((P.getD k default).at' ≤ 562949953421311 ∧ (P.getD k default).size ≤ 562949953421311) := by
    unfold Hid
    rw [HX.out]
    have := nums_le hm.2.1 k (by omega)
    exact ⟨this.2.1, this.2.2.1⟩
   have HBk : Hid (rbP (blkA s (P.getD k default)) = (sAt m k).pts ∧ (P.getD k default).key = (sAt m k).key) := by
    unfold Hid
    rw [HX.out]
    refine ⟨?_, rfl⟩
    have := ser_read hm.2.1 k (by omega)
    rw [← hm.text] at this
    exact congrArg Ser.pts this
   have BW : Hid (Below w.heap.size w wr) := B1.out.trans (HB.out.mono B1.out.size)
   clear hPm hln hm HX
   generalize hx : P.getD k default = x at *
   have HXk : Hid (P.getD k default = x) := hx
   clear hx hg
   obtain ⟨xk, xa, xz, xf, xl⟩ := x
   simp only at e0 e1 e2 e3 e4 HFit HBk
   have HBa : Hid (∀ cs, Below w.heap.size w (wr.alloc (.cells cs 52))) := fun cs => HB.out.alloc HB.out.size _
   by_cases hkey : xk = key
   ·have HF : Hid (FfAns s key (sAt m k).pts true) := by
     refine .inl ⟨rfl, m, k, HMg.out.1, by rw [HMg.out.2]; exact hlt, by rw [← HBk.out.2]; exact hkey, fun i hi => ?_, rfl⟩
     have h1 := HJ.out i hi
     rw [HAt.out i (by omega)] at h1
     exact h1
    subst hkey
    have KB0 : Hid (Blk (wr.alloc (.cells #[.string xk, .int .i64 (xa : Int), .int .i64 (xz : Int), .int .i64 (xf : Int), .int .i64 (xl : Int)] 52)).drew wr.heap.size #[.string xk, .int .i64 (xa : Int), .int .i64 (xz : Int), .int .i64 (xf : Int), .int .i64 (xl : Int)] 52) := Blk.new wr _ _
    have BB0 : Hid (Below w.heap.size w (wr.alloc (.cells #[.string xk, .int .i64 (xa : Int), .int .i64 (xz : Int), .int .i64 (xf : Int), .int .i64 (xl : Int)] 52)).drew) := (BW.out.alloc BW.out.size _).drew
    have S0 : Hid ((wr.alloc (.cells #[.string xk, .int .i64 (xa : Int), .int .i64 (xz : Int), .int .i64 (xf : Int), .int .i64 (xl : Int)] 52)).drew.cell? ⟨wr.heap.size, 0, none⟩ = some (.string xk) ∧ (wr.alloc (.cells #[.string xk, .int .i64 (xa : Int), .int .i64 (xz : Int), .int .i64 (xf : Int), .int .i64 (xl : Int)] 52)).drew.cell? ⟨wr.heap.size, 1, none⟩ = some (.int .i64 (xa : Int)) ∧ (wr.alloc (.cells #[.string xk, .int .i64 (xa : Int), .int .i64 (xz : Int), .int .i64 (xf : Int), .int .i64 (xl : Int)] 52)).drew.cell? ⟨wr.heap.size, 2, none⟩ = some (.int .i64 (xz : Int)) ∧ (wr.alloc (.cells #[.string xk, .int .i64 (xa : Int), .int .i64 (xz : Int), .int .i64 (xf : Int), .int .i64 (xl : Int)] 52)).drew.cell? ⟨wr.heap.size, 3, none⟩ = some (.int .i64 (xf : Int)) ∧ (wr.alloc (.cells #[.string xk, .int .i64 (xa : Int), .int .i64 (xz : Int), .int .i64 (xf : Int), .int .i64 (xl : Int)] 52)).drew.cell? ⟨wr.heap.size, 4, none⟩ = some (.int .i64 (xl : Int))) := ⟨KB0.out.cell 0 _ rfl, KB0.out.cell 1 _ rfl, KB0.out.cell 2 _ rfl, KB0.out.cell 3 _ rfl, KB0.out.cell 4 _ rfl⟩
    have cR := readerOfV s (wr.alloc (.cells #[.string xk, .int .i64 (xa : Int), .int .i64 (xz : Int), .int .i64 (xf : Int), .int .i64 (xl : Int)] 52)).drew
    go_wp2_with fail
    refine wp_region_until (fun w' => w'.cell? ⟨wr.heap.size, 0, none⟩ = some (.string xk) ∧ w'.cell? ⟨wr.heap.size, 1, none⟩ = some (.int .i64 (xa : Int)) ∧ w'.cell? ⟨wr.heap.size, 2, none⟩ = some (.int .i64 (xz : Int)) ∧ w'.cell? ⟨wr.heap.size, 3, none⟩ = some (.int .i64 (xf : Int)) ∧ w'.cell? ⟨wr.heap.size, 4, none⟩ = some (.int .i64 (xl : Int))) (fun _ => false) 6 (by rfl) (by kernel_rfl) ?_
    refine until_take 0 (v := ?_) (by rfl) (by kernel_rfl) (by exact fun _ _ _ h => h) (by rfl) ?_ S0.out ?_
    rotate_left
    ·intro w hSw
     try dsimp only at hSw
     go_simp
     try with_reducible rfl
    try simp only [Act.put, setIfInBounds_toArray, set_cons_zero, set_cons_succ]
    refine until_take 2 (v := ?_) (by rfl) (by kernel_rfl) (by exact fun _ _ _ h => h) (by rfl) ?_ S0.out ?_
    rotate_left
    ·intro w hSw
     try dsimp only at hSw
     go_simp
     try with_reducible rfl
    try simp only [Act.put, setIfInBounds_toArray, set_cons_zero, set_cons_succ]
    refine until_one 1 (by rfl) (by kernel_rfl) (fun K hK => ?_)
    go_simp
    refine cR.mono ?_
    rintro e Y1 ⟨rfl, hY1⟩
    have C1 : Hid (CurB Y1 (wr.alloc (.cells #[.string xk, .int .i64 (xa : Int), .int .i64 (xz : Int), .int .i64 (xf : Int), .int .i64 (xl : Int)] 52)).drew.heap.size s 0 82) := by rw [hY1]; exact Blk.new _ _ _
    have KB1 : Hid (Blk Y1 wr.heap.size #[.string xk, .int .i64 (xa : Int), .int .i64 (xz : Int), .int .i64 (xf : Int), .int .i64 (xl : Int)] 52) := by rw [hY1]; exact KB0.out.alloc _
    have BB1 : Hid (Below w.heap.size w Y1) := by rw [hY1]; exact BB0.out.alloc BB0.out.size _
    have GG : Hid (w.heap.size ≤ (wr.alloc (.cells #[.string xk, .int .i64 (xa : Int), .int .i64 (xz : Int), .int .i64 (xf : Int), .int .i64 (xl : Int)] 52)).drew.heap.size ∧ wr.heap.size ≠ (wr.alloc (.cells #[.string xk, .int .i64 (xa : Int), .int .i64 (xz : Int), .int .i64 (xf : Int), .int .i64 (xl : Int)] 52)).drew.heap.size) := ⟨BB0.out.size, by have := KB0.out.lt; omega⟩
    generalize (wr.alloc (.cells #[.string xk, .int .i64 (xa : Int), .int .i64 (xz : Int), .int .i64 (xf : Int), .int .i64 (xl : Int)] 52)).drew.heap.size = gr at *
    clear hY1 cR BB0 KB0
    go_wp2_with fail
    refine hK.out _ _ (fun _ _ => ⟨KB1.out.cell 0 _ rfl, KB1.out.cell 1 _ rfl, KB1.out.cell 2 _ rfl, KB1.out.cell 3 _ rfl, KB1.out.cell 4 _ rfl⟩) ?_
    clear hK K
    try simp only [Act.put, setIfInBounds_toArray, set_cons_zero, set_cons_succ]
    refine until_one 3 (by rfl) (by kernel_rfl) (fun K hK => ?_)
    go_simp
    refine (readBlockV s 0 gr ⟨xk, xa, xz, xf, xl⟩ Y1 w C1.out HS.out HFit.out BB1.out GG.out.1 ST.out a0 a1 a2 ER.out).mono ?_
    rintro e Y2 ⟨⟨v2, rfl, hO2⟩, _, hk2⟩
    rw [HBk.out.1] at hO2
    have KB2 : Hid (Blk Y2 wr.heap.size #[.string xk, .int .i64 (xa : Int), .int .i64 (xz : Int), .int .i64 (xf : Int), .int .i64 (xl : Int)] 52) := hk2.blk KB1.out GG.out.2
    have BB2 : Hid (Below w.heap.size w Y2) := BB1.out.trans (hk2.1.mono GG.out.1)
    have O2 : Hid (Owns Y2 w.heap.size 39 2 v2 (ptR (sAt m k).pts)) := hO2.mono BB1.out.size
    clear hk2 hO2
    go_wp2_with fail
    refine hK.out _ _ (fun _ _ => ⟨KB2.out.cell 0 _ rfl, KB2.out.cell 1 _ rfl, KB2.out.cell 2 _ rfl, KB2.out.cell 3 _ rfl, KB2.out.cell 4 _ rfl⟩) ?_
    clear hK K
    try simp only [Act.put, setIfInBounds_toArray, set_cons_zero, set_cons_succ]
    refine until_pure 4 (v := ?_) (by rfl) (by kernel_rfl) (by exact fun _ _ _ h => h) (by rfl) ?_ ?_
    rotate_left
    ·intro w
     go_simp
     try with_reducible rfl
    try simp only [Act.put, setIfInBounds_toArray, set_cons_zero, set_cons_succ]
    refine until_pure 5 (v := ?_) (by rfl) (by kernel_rfl) (by exact fun _ _ _ h => h) (by rfl) ?_ ?_
    rotate_left
    ·intro w
     go_simp
     try with_reducible rfl
    try simp only [Act.put, setIfInBounds_toArray, set_cons_zero, set_cons_succ]
    refine until_done (by kernel_rfl) ?_ _
    go_wp2_with fail
    refine bodyPost_ret (results_tmp2 rfl _ _ _) rfl ?_
    exact ⟨⟨_, _, true, rfl, HF.out, O2.out⟩, BB2.out⟩
   ·have HKn : Hid (xk ≠ key) := hkey
    have hne := bytes_ne hkey
    clear hkey
    go_wp2_with fail
    go_roundw
    case rel =>
     refine ⟨k + 1, by omega, by go_num, fun i hi => ?_, HBa.out _⟩
     by_cases e : i = k
     ·rw [e, HXk.out]; exact HKn.out
     ·exact HJ.out i (by omega)
    case measure => simp [intOf]; omega
  ·obtain rfl : k = n := by omega
   have BW : Hid (Below w.heap.size w wr) := B1.out.trans (HB.out.mono B1.out.size)
   have HF : Hid (FfAns s key [] false) := by
    refine .inr ⟨rfl, rfl, fun m hm j hj => ?_⟩
    have hPm := HNm.out m hm
    have hln : m.length = k := by rw [← HN.out, hPm, List.length_map, List.length_range]
    have h1 := HJ.out j (by omega)
    rw [hPm, range_get m m.length j hj] at h1
    exact h1
   go_wp2_with fail
   refine bodyPost_ret (results_tmp2 rfl _ _ _) rfl ?_
   exact ⟨⟨_, [], false, rfl, HF.out, Owns.nil _ _ _ _⟩, BW.out⟩
end Go.Proofs.YtnilgemgjlhibaaDoor
namespace Go.Proofs.YtnilgemgjlhibaaDoor
open Go.ChangeShapes Go.WideShapes Go.ChangeAt Go.RowKit Go.PlainAid
set_option linter.unusedVariables false
set_option maxHeartbeats 4000000 in
theorem implFileFind (s key : ByteArray) (w : World) (hs : s.size ≤ 1048576) (hst : SumTab w) (a0 a1 a2 : Addr) (he : Errs w a0 a1 a2) : Calls Tryd.prog 10 #[.string s, .string key] w fun e w' => FfOk s key w' w.heap.size e ∧ Below w.heap.size w w' := by
 have c1 := indexOfV s w hs hst a0 a1 a2 he
 go_enter Tryd.func10, Tryd.ntmps10
 go_wp2_with fail
 refine c1.mono ?_
 rintro e X1 ⟨⟨v, P, rfl, hI, hO⟩, hb⟩
 have c2 := findBlockV s key P v X1 X1.heap.size hI hO.lies (Nat.le_refl _) hs (hst.on hb) a0 a1 a2 (he.on hb)
 clear c1
 go_wp2_with fail
 refine c2.mono ?_
 rintro e X2 ⟨⟨v2, l2, ok, rfl, hA, hO2⟩, hb2⟩
 have HA : Hid (FfAns s key l2 ok) := hA
 have HO2 : Hid (Owns X2 w.heap.size 39 2 v2 (ptR l2)) := hO2.mono hb.size
 have HB2 : Hid (Below w.heap.size w X2) := hb.trans (hb2.mono hb.size)
 clear hA hO2 hb2 c2 hI hO hb hst he hs
 go_wp2_with fail
 refine bodyPost_ret (results_tmp2 rfl _ _ _) rfl ?_
 exact ⟨⟨_, l2, ok, rfl, HA.out, HO2.out⟩, HB2.out⟩
end Go.Proofs.YtnilgemgjlhibaaDoor
namespace Go.Proofs.YtnilgemgjlhibaaDoor
open Go.ChangeShapes Go.WideShapes Go.ChangeAt Go.RowKit Go.PlainAid
set_option linter.unusedVariables false
theorem conv_one (kn g cap : Nat) (w : World) (h : w.cell? ⟨g, 0, none⟩ = some (.int .u8 (kn : Int))) (hk : kn < 256) : (convert 22 9 (.slice (some ⟨g, 0, none⟩) 1 cap)).run Tryd.prog w = .ok (.string (txt [byt kn])) w := by
 refine run_convert_bytes_back (P := Tryd.prog) w 22 9 5 ⟨g, 0, none⟩ cap [byt kn] Tryd.underlying22 Tryd.underlying5 Tryd.underlying9 ?_
 intro j hj
 obtain rfl : j = 0 := by simp at hj; omega
 show w.cell? ⟨g, 0, none⟩ = _
 rw [h]
 have : (byt kn).toNat = kn := by rw [byt_toNat]; omega
 simp [this]
set_option maxRecDepth 10000 in
set_option maxHeartbeats 8000000 in
theorem law_fnFile (ao : Option Addr) (len cap : Nat) (cs : Nat → Nat) (w : World) (h : CodeIs w w.heap.size ao len cs) (hl : len ≤ 9223372036854775807) (ht : SumTab w) (a0 a1 a2 : Addr) (he : Errs w a0 a1 a2) : Calls Tryd.prog 3 #[.slice ao len cap] w fun e w' => e = .returned (.bool true) ∧ Below w.heap.size w w' := by
 have ST : Hid (SumTab w) := ht
 have ER : Hid (Errs w a0 a1 a2) := he
 have HC : Hid (CodeIs w w.heap.size ao len cs) := h
 clear ht he h
 by_cases hbig : 1048576 < len
 ·go_enter Tryd.func3, Tryd.ntmps3
  go_wp2_with fail
  refine (big_yes w ao len cap hbig hl).mono ?_
  rintro e w' ⟨rfl, rfl⟩
  go_wp2_with fail
  go_ret
  exact ⟨rfl, Below.refl _ _⟩
 have HL : Hid (len ≤ 1048576) := by unfold Hid; omega
 have q0 : (len : Int) ≤ 1048576 := by omega
 clear hbig hl
 go_enter Tryd.func3, Tryd.ntmps3
 go_wp2_with fail
 refine (big_no w ao len cap HL.out).mono ?_
 rintro e w' ⟨rfl, rfl⟩
 go_wp2_with fail
 refine (drawFileText w ao len cap cs HL.out HC.out).mono ?_
 rintro e w1 ⟨⟨v3, l, rfl, hV, hll, hld⟩, hb⟩
 obtain ⟨A3, c3, rfl, hlk⟩ := hV.look
 have B1 : Hid (Below w.heap.size w w1) := hb
 have V1 : Hid (SerV w1 w1.heap.size (.slice A3 l.length c3) l) := hV
 have HSh : Hid (SShort l) := ⟨by omega, fun x hx => by have := (hld x hx).1; omega⟩
 have HKy : Hid (∀ x ∈ l, x.key.size ≤ maxLen) := fun x hx => by have := (hld x hx).2.1; unfold maxLen; omega
 have HKo : Hid (∀ j, j < l.length → (sAt l j).key ≠ otherB) := fun j hj => (hld _ (getD_mem l j hj)).2.2
 have q1 : (l.length : Int) ≤ 6 := by omega
 have HLK : Hid (∀ j, j < l.length → ∃ g off v, A3 = some ⟨g, off, none⟩ ∧ g < w1.heap.size ∧ w1.cell? ⟨g, off + j * 2, none⟩ = some (.string (sAt l j).key) ∧ w1.cell? ⟨g, off + j * 2 + 1, none⟩ = some v ∧ Lies w1 w1.heap.size 2 v (ptR (sAt l j).pts)) := hlk
 clear hV hll hld hb hlk
 have hsz := fileT_size l
 go_wp2_with fail
 refine (implFileText l (.slice A3 l.length c3) w1 w1.heap.size V1.out HSh.out HKy.out (Nat.le_refl _) (ST.out.on B1.out)).mono ?_
 rintro e w2 ⟨rfl, hb⟩
 have B2 : Hid (Below w.heap.size w w2) := B1.out.trans (hb.mono B1.out.size)
 have C2 : Hid (Below w1.heap.size w1 w2) := hb
 have HZ : Hid ((fileT l).size ≤ 1048576) := by unfold Hid; omega
 have HSz : Hid ((fileT l).size ≤ 5004) := hsz
 clear hb hsz
 go_wp2_with fail
 refine (implReadFile (fileT l) w2 HZ.out (ST.out.on B2.out) a0 a1 a2 (ER.out.on B2.out)).mono ?_
 rintro e w3 ⟨⟨u5, L5, ok5, hR, rfl, hO⟩, hb⟩
 have B3 : Hid (Below w.heap.size w w3) := B2.out.trans (hb.mono B2.out.size)
 have C3 : Hid (Below w1.heap.size w1 w3) := C2.out.trans (hb.mono C2.out.size)
 have O3 : Hid (SerO w3 w2.heap.size u5 L5) := hO
 have R3 : Hid (RfAns (fileT l) (L5.map Prod.fst) ok5) := hR
 clear hb hO hR
 have cOk := specSeriesOk l (.slice A3 l.length c3) w3 w1.heap.size (V1.out.on C3.out) HSh.out HKy.out C3.out.size
 by_cases hg : 1 ≤ l.length ∧ SOk l
 ·have HG : Hid (GoodF (fileT l) l) := ⟨hg.1, hg.2, rfl⟩
  obtain ⟨eL, rfl⟩ := R3.out.one (.inl ⟨rfl, HG.out⟩)
  rw [decide_eq_true hg.2] at cOk
  have V5 : Hid (SerV w3 w3.heap.size u5 l) := ⟨L5, eL, O3.out.lies⟩
  have q2 : (0 : Int) < (l.length : Int) := by omega
  have q2n : 0 < l.length := by omega
  have q2d : decide (0 < l.length) = true := decide_eq_true q2n
  clear eL hg O3 R3
  go_wp2_with fail
  refine cOk.mono ?_
  rintro e w4 ⟨rfl, hLi⟩
  have hb := hLi.below
  have B4 : Hid (Below w.heap.size w w4) := B3.out.trans (hb.mono B3.out.size)
  have C4 : Hid (Below w1.heap.size w1 w4) := C3.out.trans (hb.mono C3.out.size)
  have E4 : Hid (Below w3.heap.size w3 w4) := hb
  clear hb hLi cOk
  go_wp2_with fail
  refine (implFileSpan (fileT l) w4 HZ.out (ST.out.on B4.out) a0 a1 a2 (ER.out.on B4.out)).mono ?_
  rintro e w5 ⟨⟨xa, xb, ok, rfl, hS⟩, hb⟩
  obtain ⟨rfl, rfl, rfl⟩ := hS.one (.inl ⟨rfl, l, HG.out, rfl, rfl⟩)
  have B5 : Hid (Below w.heap.size w w5) := B4.out.trans (hb.mono B4.out.size)
  have C5 : Hid (Below w1.heap.size w1 w5) := C4.out.trans (hb.mono C4.out.size)
  have E5 : Hid (Below w3.heap.size w3 w5) := E4.out.trans (hb.mono E4.out.size)
  clear hb hS
  have HLo : Hid (∀ j, j < l.length → loT l l.length ≤ fT l j ∧ lT l j ≤ hiT l l.length) := fun j hj => loT_min j _ hj
  have HTm : Hid (∀ j, j < l.length → (1 ≤ (sAt l j).pts.length ∧ (sAt l j).pts.length ≤ 60) ∧ tAt (sAt l j).pts 0 = (fT l j : Int) ∧ tAt (sAt l j).pts ((sAt l j).pts.length - 1) = (lT l j : Int) ∧ fT l j ≤ 1099511627776 ∧ lT l j ≤ 1099511627776) := fun j hj => by
   have h1 := (HG.out.2.1.2 j hj).2
   have h2 := HG.out.2.1.times j hj
   refine ⟨⟨h1.1, h1.2.1⟩, ?_, ?_, ?_, ?_⟩
   ·unfold fT; omega
   ·unfold lT; omega
   ·unfold fT; omega
   ·unfold lT; omega
  have HFd : Hid (∀ j, j < l.length → FfAns (fileT l) (sAt l j).key (sAt l j).pts true) := fun j hj => HG.out.found j hj
  have HOt : Hid (FfAns (fileT l) otherB [] false) := .inr ⟨rfl, rfl, fun m hm j hj => by
   obtain rfl := hm.one HG.out
   exact HKo.out j hj⟩
  have HTu : Hid (∀ k z, k < (fileT l).size → z < 256 → z ≠ bn (fileT l) k → ∀ m, ¬ GoodF (turnT (fileT l) k z) m) := fun k z hk hz hne => HG.out.turn k z hk hz hne
  have HS4 : Hid (4 ≤ (fileT l).size) := HG.out.sum.1
  have hbLE := loT_le HG.out.2.1 HG.out.1 l.length (Nat.le_refl _)
  clear HG HKo
  generalize hss : fileT l = s at *
  clear hss
  generalize loT l l.length = lo at *
  generalize hiT l l.length = hi at *
  generalize hn : l.length = n at *
  have HN : Hid (l.length = n) := hn
  clear hn
  go_wp2_with fail
  go_loopw [10] (fun v10 wr => ∃ k : Nat, k ≤ n ∧ v10 = .int .i64 (k : Int) ∧ Below w5.heap.size w5 wr) (fun i _ => n - (intOf i).toNat)
  case atStart => exact ⟨0, by omega, rfl, Below.refl _ _⟩
  case round =>
   obtain ⟨k, hk, rfl, hb⟩ := hrel
   have BR : Hid (Below w.heap.size w wr) := B5.out.trans (hb.mono B5.out.size)
   have CR : Hid (Below w1.heap.size w1 wr) := C5.out.trans (hb.mono C5.out.size)
   have ERr : Hid (Below w3.heap.size w3 wr) := E5.out.trans (hb.mono E5.out.size)
   have DR : Hid (Below w5.heap.size w5 wr) := hb
   clear hb
   by_cases hlt : k < n
   ·have q4 : (k : Int) < (n : Int) := by omega
    obtain ⟨g, off, us, rfl, hg, e1, e2, hu⟩ := HLK.out k hlt
    have f1 := (CR.out.cell (p := ⟨g, off + k * 2, none⟩) hg).trans e1
    have HE2 : Hid (w1.cell? ⟨g, off + k * 2 + 1, none⟩ = some us) := e2
    have HU : Hid (Lies w1 w1.heap.size 2 us (ptR (sAt l k).pts)) := hu
    have HGg : Hid (g < w1.heap.size) := hg
    have hfd := HFd.out k hlt
    have hlo := HLo.out k hlt
    obtain ⟨⟨p1, p2⟩, t1, t2, t3, t4⟩ := HTm.out k hlt
    have HFk : Hid (FfAns s (sAt l k).key (sAt l k).pts true) := hfd
    have cF := implFileFind s (sAt l k).key wr HZ.out (ST.out.on BR.out) a0 a1 a2 (ER.out.on BR.out)
    clear hu e1 e2 hg hfd
    generalize (sAt l k).key = xk at *
    go_wp2_with fail
    refine cF.mono ?_
    rintro e Y ⟨⟨v11, lf, okf, rfl, hF, hO⟩, hb⟩
    obtain ⟨rfl, rfl⟩ := hF.one HFk.out
    have BY : Hid (Below w.heap.size w Y) := BR.out.trans (hb.mono BR.out.size)
    have CY : Hid (Below w1.heap.size w1 Y) := CR.out.trans (hb.mono CR.out.size)
    have DY : Hid (Below w5.heap.size w5 Y) := DR.out.trans (hb.mono DR.out.size)
    have OY : Hid (Owns Y wr.heap.size 39 2 v11 (ptR (sAt l k).pts)) := hO
    have g2 := (CY.out.cell (p := ⟨g, off + k * 2 + 1, none⟩) HGg.out).trans HE2.out
    have cS := samePoints (sAt l k).pts v11 us Y Y.heap.size hO.lies ((HU.out.on CY.out).mono CY.out.size) (by omega)
    obtain ⟨A7, c7, rfl, hpl⟩ := pt_look hO.lies
    obtain ⟨gp, offp, rfl, _, hf0, _⟩ := hpl 0 (by omega)
    obtain ⟨gp', offp', e', _, hf1, _⟩ := hpl ((sAt l k).pts.length - 1) (by omega)
    cases e'
    rw [show offp + 0 * 2 = offp by omega] at hf0
    change Y.cell? ⟨gp, offp, none⟩ = some (.int .i64 (tAt (sAt l k).pts 0)) at hf0
    change Y.cell? ⟨gp, offp + ((sAt l k).pts.length - 1) * 2, none⟩ = some (.int .i64 (tAt (sAt l k).pts ((sAt l k).pts.length - 1))) at hf1
    rw [t1] at hf0
    rw [t2] at hf1
    have HF0 : Hid (Y.cell? ⟨gp, offp, none⟩ = some (.int .i64 (fT l k : Int))) := hf0
    have HF1 : Hid (Y.cell? ⟨gp, offp + ((sAt l k).pts.length - 1) * 2, none⟩ = some (.int .i64 (lT l k : Int))) := hf1
    obtain ⟨A8, c8, rfl, _⟩ := pt_look HU.out
    clear hO hb hF cF hpl t1 t2 hf0 hf1 f1
    generalize (sAt l k).pts.length = pn at *
    go_wp2_with fail
    refine cS.mono ?_
    rintro e Y2 ⟨rfl, hLi⟩
    have k0 : Y2.cell? ⟨gp, offp, none⟩ = some (.int .i64 (fT l k : Int)) := (cell?_heap hLi.1 _).trans HF0.out
    have k1 : Y2.cell? ⟨gp, offp + (pn - 1) * 2, none⟩ = some (.int .i64 (lT l k : Int)) := (cell?_heap hLi.1 _).trans HF1.out
    have DY2 : Hid (Below w5.heap.size w5 Y2) := DY.out.trans (hLi.below.mono DY.out.size)
    clear hLi cS g2
    generalize fT l k = ff at *
    generalize lT l k = la at *
    have d1 : decide ((ff : Int) < (lo : Int)) = false := decide_eq_false (by omega)
    have d2 : decide ((hi : Int) < (la : Int)) = false := decide_eq_false (by omega)
    have d3 : ¬ (ff : Int) < (lo : Int) := by omega
    have d4 : ¬ (hi : Int) < (la : Int) := by omega
    have r1 : (pn : Int) ≤ 60 := by omega
    have r2 : (1 : Int) ≤ (pn : Int) := by omega
    have r3 : ((pn : Int) - 1).toNat = pn - 1 := by omega
    have r5 : (0 : Int) < (pn : Int) := by omega
    have r6 : 0 < pn := by omega
    have r7 : pn - 1 < pn := by omega
    have r8 : (pn : Int) - 1 < (pn : Int) := by omega
    go_wp2_with fail
    go_roundw
    case rel => exact ⟨k + 1, by omega, by go_num, DY2.out⟩
    case measure => simp [intOf]; omega
   ·obtain rfl : k = n := by omega
    have cF := implFileFind s otherB wr HZ.out (ST.out.on BR.out) a0 a1 a2 (ER.out.on BR.out)
    unfold otherB at cF
    go_wp2_with fail
    refine cF.mono ?_
    rintro e Y ⟨⟨v13, lf, okf, rfl, hF, _⟩, hb⟩
    obtain ⟨rfl, rfl⟩ := hF.one HOt.out
    have BY : Hid (Below w.heap.size w Y) := BR.out.trans (hb.mono BR.out.size)
    have CY : Hid (Below w1.heap.size w1 Y) := CR.out.trans (hb.mono CR.out.size)
    have EY : Hid (Below w3.heap.size w3 Y) := ERr.out.trans (hb.mono ERr.out.size)
    clear hb hF cF
    have hCY := HC.out.on BY.out
    have x0 := at_any Y ao len cap cs 0 HL.out (by omega) hCY
    have x1 := at_any Y ao len cap cs 1 HL.out (by omega) hCY
    have x2 := fun wx (hx : CodeIs wx wx.heap.size ao len cs) => at_any wx ao len cap cs 2 HL.out (by omega) hx
    have y0 := atV_lt hCY 0
    have y1 := atV_lt hCY 1
    have y2 := atV_lt hCY 2
    generalize atV len cs 0 = b0 at *
    generalize atV len cs 1 = b1 at *
    generalize atV len cs 2 = b2 at *
    clear hCY
    go_wp2_with fail
    refine x0.mono ?_
    rintro e w' ⟨rfl, rfl⟩
    go_wp2_with fail
    refine x1.mono ?_
    rintro e w' ⟨rfl, rfl⟩
    have s4 := HS4.out
    have sz5 := HSz.out
    have hkl : (b0 * 256 + b1) % s.size < s.size := Nat.mod_lt _ (by omega)
    have em1 : ((b0 : Int) * 256 + (b1 : Int)).tmod (s.size : Int) = (((b0 * 256 + b1) % s.size : Nat) : Int) := by
     rw [Int.tmod_eq_emod_of_nonneg (by omega)]
     push_cast
     rfl
    have em2 : ((b0 : Int) * 256 + (b1 : Int)) % (s.size : Int) = (((b0 * 256 + b1) % s.size : Nat) : Int) := by
     push_cast
     rfl
    have sne : (s.size : Int) ≠ 0 := by omega
    have sn0 : ¬ (s.size : Int) = 0 := sne
    have sn1 : s.size ≠ 0 := by omega
    have sqz : (s.size : Int) ≤ 5004 := by omega
    have bq0 : (b0 : Int) < 256 := by omega
    have bq1 : (b1 : Int) < 256 := by omega
    have HHk : Hid ((b0 * 256 + b1) % s.size < s.size) := hkl
    generalize hkd : (b0 * 256 + b1) % s.size = kt at *
    clear hkd
    go_wp2_with fail
    have hbt := get_bn s
    have xk := bn_lt s kt
    have hxor := xor_i64 (bn s kt) (1 + b2 % 255) (by omega) (by omega)
    have hz256 : bn s kt ^^^ (1 + b2 % 255) < 256 := Nat.xor_lt_two_pow (n := 8) xk (by omega)
    have hzne : bn s kt ^^^ (1 + b2 % 255) ≠ bn s kt := xor_ne _ _ (by omega)
    have er1 : (b2 : Int).tmod 255 = ((b2 % 255 : Nat) : Int) := by
     rw [Int.tmod_eq_emod_of_nonneg (by omega)]
     push_cast
     rfl
    have er2 : (b2 : Int) % 255 = ((b2 % 255 : Nat) : Int) := by
     push_cast
     rfl
    have er3 : (1 : Int) + ((b2 % 255 : Nat) : Int) = ((1 + b2 % 255 : Nat) : Int) := by omega
    have er4 : IntKind.i64.wrap ((1 : Int) + ((b2 % 255 : Nat) : Int)) = ((1 + b2 % 255 : Nat) : Int) := by rw [IntKind.wrap_i64]; omega
    have HTk : Hid (∀ m, ¬ GoodF (turnT s kt (bn s kt ^^^ (1 + b2 % 255))) m) := HTu.out kt _ HHk.out hz256 hzne
    generalize b2 % 255 = b3 at *
    have ew : IntKind.u8.wrap ((bn s kt ^^^ (1 + b3) : Nat) : Int) = ((bn s kt ^^^ (1 + b3) : Nat) : Int) := by rw [IntKind.wrap_u8']; omega
    generalize hzz : bn s kt ^^^ (1 + b3) = z at *
    generalize hyy : 1 + b3 = y at *
    clear hzz hzne er3 em1 em2 hyy
    have HTT : Hid (turnT s kt z = s.extract 0 kt ++ txt [byt z] ++ s.extract (kt + 1) s.size) := rfl
    have ew2 : IntKind.i64.wrap (bn s kt : Int) = (bn s kt : Int) := by rw [IntKind.wrap_i64]; omega
    have ks1 : (kt : Int) < (s.size : Int) := by have := HHk.out; omega
    have ks2 : (kt : Int) + 1 ≤ (s.size : Int) := by omega
    have ks3 : ((kt : Int) + 1).toNat = kt + 1 := by omega
    have ks4 : IntKind.i64.wrap ((kt : Int) + 1) = (kt : Int) + 1 := by rw [IntKind.wrap_i64]; omega
    have ks5 : (kt : Int) ≤ (s.size : Int) := by omega
    have ks6 : (0 : Int) ≤ (kt : Int) + 1 := by omega
    have zA : (s.extract 0 kt).size = kt := by rw [ByteArray.size_extract]; omega
    have zB : (s.extract (kt + 1) s.size).size = s.size - (kt + 1) := by rw [ByteArray.size_extract]; omega
    have zC : (txt [byt z]).size = 1 := rfl
    generalize hta : s.extract 0 kt = ta at *
    generalize htb : s.extract (kt + 1) s.size = tb at *
    generalize htz : txt [byt z] = tz at *
    have n1 : ¬ 9223372036854775807 < ta.size + tz.size := by omega
    have n2 : ¬ 9223372036854775807 < ta.size + tz.size + tb.size := by omega
    have BYd : Hid (Below w.heap.size w Y.drew) := BY.out.drew
    have x3 := x2 Y.drew (HC.out.on BYd.out)
    clear zA zB zC x2 HTu
    refine wp_region_until (fun _ => True) (fun _ => false) 22 (by rfl) (by kernel_rfl) ?_
    refine until_pure 0 (v := ?_) (by rfl) (by kernel_rfl) (by exact fun _ _ _ h => h) (by rfl) ?_ ?_
    rotate_left
    ·intro w
     go_simp
     try with_reducible rfl
    try simp only [Act.put, setIfInBounds_toArray, set_cons_zero, set_cons_succ]
    refine until_pure 1 (v := ?_) (by rfl) (by kernel_rfl) (by exact fun _ _ _ h => h) (by rfl) ?_ ?_
    rotate_left
    ·intro w
     go_simp
     try with_reducible rfl
    try simp only [Act.put, setIfInBounds_toArray, set_cons_zero, set_cons_succ]
    refine until_pure 2 (v := ?_) (by rfl) (by kernel_rfl) (by exact fun _ _ _ h => h) (by rfl) ?_ ?_
    rotate_left
    ·intro w
     go_simp
     try with_reducible rfl
    try simp only [Act.put, setIfInBounds_toArray, set_cons_zero, set_cons_succ]
    refine until_pure 3 (v := ?_) (by rfl) (by kernel_rfl) (by exact fun _ _ _ h => h) (by rfl) ?_ ?_
    rotate_left
    ·intro w
     go_simp
     try with_reducible rfl
    try simp only [Act.put, setIfInBounds_toArray, set_cons_zero, set_cons_succ]
    refine until_pure 4 (v := ?_) (by rfl) (by kernel_rfl) (by exact fun _ _ _ h => h) (by rfl) ?_ ?_
    rotate_left
    ·intro w
     go_simp
     try with_reducible rfl
    try simp only [Act.put, setIfInBounds_toArray, set_cons_zero, set_cons_succ]
    refine until_pure 5 (v := ?_) (by rfl) (by kernel_rfl) (by exact fun _ _ _ h => h) (by rfl) ?_ ?_
    rotate_left
    ·intro w
     go_simp
     try with_reducible rfl
    try simp only [Act.put, setIfInBounds_toArray, set_cons_zero, set_cons_succ]
    refine until_pure 6 (v := .int .i64 (bn s kt : Int)) (by rfl) (by kernel_rfl) (by exact fun _ _ _ h => h) (by rfl) ?_ ?_
    ·intro w
     go_simp
     try rw [ew2]
    try simp only [Act.put, setIfInBounds_toArray, set_cons_zero, set_cons_succ]
    refine until_pure 7 (v := ?_) (by rfl) (by kernel_rfl) (by exact fun _ _ _ h => h) (by rfl) ?_ ?_
    rotate_left
    ·intro w
     go_simp
     try with_reducible rfl
    try simp only [Act.put, setIfInBounds_toArray, set_cons_zero, set_cons_succ]
    refine until_pure 16 (v := ?_) (by rfl) (by kernel_rfl) (by exact fun _ _ _ h => h) (by rfl) ?_ ?_
    rotate_left
    ·intro w
     go_simp
     try with_reducible rfl
    try simp only [Act.put, setIfInBounds_toArray, set_cons_zero, set_cons_succ]
    refine until_pure 17 (v := ?_) (by rfl) (by kernel_rfl) (by exact fun _ _ _ h => h) (by rfl) ?_ ?_
    rotate_left
    ·intro w
     go_simp
     try with_reducible rfl
    try simp only [Act.put, setIfInBounds_toArray, set_cons_zero, set_cons_succ]
    refine until_pure 18 (v := .int .i64 ((kt : Int) + 1)) (by rfl) (by kernel_rfl) (by exact fun _ _ _ h => h) (by rfl) ?_ ?_
    ·intro w
     go_simp
     try rw [ks4]
    try simp only [Act.put, setIfInBounds_toArray, set_cons_zero, set_cons_succ]
    refine until_pure 19 (v := ?_) (by rfl) (by kernel_rfl) (by exact fun _ _ _ h => h) (by rfl) ?_ ?_
    rotate_left
    ·intro w
     go_simp
     try with_reducible rfl
    try simp only [Act.put, setIfInBounds_toArray, set_cons_zero, set_cons_succ]
    refine until_one 8 (by rfl) (by kernel_rfl) (fun K hK => ?_)
    go_simp
    refine x3.mono ?_
    rintro e w' ⟨rfl, rfl⟩
    go_wp2_with fail
    refine hK.out _ _ (fun _ _ => trivial) ?_
    clear hK K
    try simp only [Act.put, setIfInBounds_toArray, set_cons_zero, set_cons_succ]
    refine until_pure 9 (v := ?_) (by rfl) (by kernel_rfl) (by exact fun _ _ _ h => h) (by rfl) ?_ ?_
    rotate_left
    ·intro w
     go_simp
     try with_reducible rfl
    try simp only [Act.put, setIfInBounds_toArray, set_cons_zero, set_cons_succ]
    refine until_pure 10 (v := .int .i64 (y : Int)) (by rfl) (by kernel_rfl) (by exact fun _ _ _ h => h) (by rfl) ?_ ?_
    ·intro w
     go_simp
     try rw [er4]
    try simp only [Act.put, setIfInBounds_toArray, set_cons_zero, set_cons_succ]
    refine until_pure 11 (v := .int .i64 (z : Int)) (by rfl) (by kernel_rfl) (by exact fun _ _ _ h => h) (by rfl) ?_ ?_
    ·intro w
     go_simp
     try rw [hxor]
    try simp only [Act.put, setIfInBounds_toArray, set_cons_zero, set_cons_succ]
    refine until_pure 12 (v := .int .u8 (z : Int)) (by rfl) (by kernel_rfl) (by exact fun _ _ _ h => h) (by rfl) ?_ ?_
    ·intro w
     go_simp
     try rw [ew]
    try simp only [Act.put, setIfInBounds_toArray, set_cons_zero, set_cons_succ]
    refine until_one 13 (by rfl) (by kernel_rfl) (fun K hK => ?_)
    go_simp
    refine hK.out _ _ (fun _ _ => trivial) ?_
    clear hK K
    try simp only [Act.put, setIfInBounds_toArray, set_cons_zero, set_cons_succ]
    refine until_one 14 (by rfl) (by kernel_rfl) (fun K hK => ?_)
    have hcv := conv_one z Y.heap.size 1 (Y.drew.alloc (.cells #[.int .u8 (z : Int)] 5)) ((Blk.new Y.drew #[.int .u8 (z : Int)] 5).cell 0 _ rfl) hz256
    have hcv2 := conv_one z Y.heap.size 1 (Y.alloc (.cells #[.int .u8 (z : Int)] 5)).drew ((Blk.new Y #[.int .u8 (z : Int)] 5).cell 0 _ rfl) hz256
    rw [htz] at hcv hcv2
    go_simp
    refine hK.out _ _ (fun _ _ => trivial) ?_
    clear hK K hcv hcv2 hta htb htz
    try simp only [Act.put, setIfInBounds_toArray, set_cons_zero, set_cons_succ]
    refine until_pure 15 (v := ?_) (by rfl) (by kernel_rfl) (by exact fun _ _ _ h => h) (by rfl) ?_ ?_
    rotate_left
    ·intro w
     go_simp
     try with_reducible rfl
    try simp only [Act.put, setIfInBounds_toArray, set_cons_zero, set_cons_succ]
    refine until_pure 20 (v := ?_) (by rfl) (by kernel_rfl) (by exact fun _ _ _ h => h) (by rfl) ?_ ?_
    rotate_left
    ·intro w
     go_simp
     try with_reducible rfl
    try simp only [Act.put, setIfInBounds_toArray, set_cons_zero, set_cons_succ]
    refine until_pure 21 (v := ?_) (by rfl) (by kernel_rfl) (by exact fun _ _ _ h => h) (by rfl) ?_ ?_
    rotate_left
    ·intro w
     go_simp
     try with_reducible rfl
    try simp only [Act.put, setIfInBounds_toArray, set_cons_zero, set_cons_succ]
    refine until_done (by kernel_rfl) ?_ _
    have cT := fun wx (hB : Below w.heap.size w wx) => implReadFile (turnT s kt z) wx (by rw [(turn_facts s kt z HHk.out hz256).1]; exact HZ.out) (ST.out.on hB) a0 a1 a2 (ER.out.on hB)
    rw [HTT.out] at cT
    have BYe : Hid (∀ cs, Below w.heap.size w (Y.alloc (.cells cs 5)).drew) := fun cs => (BY.out.alloc BY.out.size _).drew
    have CYe : Hid (∀ cs, Below w1.heap.size w1 (Y.alloc (.cells cs 5)).drew) := fun cs => (CY.out.alloc CY.out.size _).drew
    have EYe : Hid (∀ cs, Below w3.heap.size w3 (Y.alloc (.cells cs 5)).drew) := fun cs => (EY.out.alloc EY.out.size _).drew
    go_wp2_with fail
    refine (cT _ (BYe.out _)).mono ?_
    rintro e Y2 ⟨⟨v17, L7, ok7, hR7, rfl, _⟩, hb⟩
    have hok7 : ok7 = false := by
     rcases hR7 with ⟨_, h⟩ | ⟨h, _⟩
     ·rw [← HTT.out] at h
      exact absurd h (HTk.out _)
     ·exact h
    subst hok7
    have BZ : Hid (Below w.heap.size w Y2) := (BYe.out _).trans (hb.mono (BYe.out _).size)
    have CZ : Hid (Below w1.heap.size w1 Y2) := (CYe.out _).trans (hb.mono (CYe.out _).size)
    have EZ : Hid (Below w3.heap.size w3 Y2) := (EYe.out _).trans (hb.mono (EYe.out _).size)
    clear hb hR7 cT
    have cS := sameSeries l u5 (.slice A3 k c3) Y2 Y2.heap.size ((V5.out.on EZ.out).mono EZ.out.size) ((V1.out.on CZ.out).mono CZ.out.size) HSh.out
    go_wp2_with fail
    refine cS.mono ?_
    rintro e Y3 ⟨rfl, hLi⟩
    have BF : Hid (Below w.heap.size w Y3) := BZ.out.trans (hLi.below.mono BZ.out.size)
    clear hLi cS
    go_wp2_with fail
    go_ret
    exact ⟨rfl, BF.out⟩
 ·have hE : fileT l = ⟨#[]⟩ := fileT_no hg
  rw [hE] at R3 HZ HSz
  obtain ⟨eL, rfl⟩ := R3.out.one (m := []) (y := false) (.inr ⟨rfl, rfl, fun m hm => GoodF.empty hm⟩)
  rw [hE]
  by_cases hok : SOk l
  ·rw [decide_eq_true hok] at cOk
   have h0 : l.length = 0 := by
    rcases Nat.eq_zero_or_pos l.length with h | h
    ·exact h
    ·exact absurd ⟨h, hok⟩ hg
   rw [h0] at cOk ⊢
   clear hg hok h0 eL R3 O3 hE
   go_wp2_with fail
   refine cOk.mono ?_
   rintro e w4 ⟨rfl, hLi⟩
   have B4 : Hid (Below w.heap.size w w4) := B3.out.trans (hLi.below.mono B3.out.size)
   clear hLi cOk
   go_wp2_with fail
   go_ret
   exact ⟨rfl, B4.out⟩
  ·rw [decide_eq_false hok] at cOk
   clear hg hok eL R3 O3 hE
   go_wp2_with fail
   refine cOk.mono ?_
   rintro e w4 ⟨rfl, hLi⟩
   have B4 : Hid (Below w.heap.size w w4) := B3.out.trans (hLi.below.mono B3.out.size)
   clear hLi cOk
   go_wp2_with fail
   go_ret
   exact ⟨rfl, B4.out⟩
end Go.Proofs.YtnilgemgjlhibaaDoor
