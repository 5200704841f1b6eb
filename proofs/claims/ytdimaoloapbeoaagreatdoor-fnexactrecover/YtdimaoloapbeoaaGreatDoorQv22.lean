/- SnShow BodyAt BodyFit Unframe -/
import Derived.Test.YtdimaoloapbeoaaGreatDoorRows
import Derived.Test.YtdimaoloapbeoaaGreatDoorQv21
import Derived.Test.YtdimaoloapbeoaaGreatDoorQv0
import Derived.Test.YtdimaoloapbeoaaGreatDoorQv12
import Derived.Deep.RegionHeld3
import Derived.Handy
import Derived.Test.YtdimaoloapbeoaaGreatDoorQv10
import Derived.Test.YtdimaoloapbeoaaGreatDoorQv1
import Derived.WalkKit
import Derived.ProofKit
import Derived.OpenShut
import Derived.Below
import Derived.WalkSmall
import Derived.WalkLawsBesides
import Derived.Outline
import Derived.BigQuiet
import Derived.Deep.QuietTactic
import Derived.Deep.RegionWith
import Derived.Laws.DeepStrings4
import Derived.OwnWalk
open List (setIfInBounds_toArray set_cons_zero set_cons_succ)
namespace Go.Proofs.YtdimaoloapbeoaaGreatDoor
open Go.ChangeShapes Go.WideShapes Go.ChangeAt Go.RowKit Go.PlainAid
set_option linter.unusedVariables false
def isSn (x : Snp) : Bool := snapOk x && decide (x.index ≠ 0)
def headS (j t : Nat) (d : ByteArray) : ByteArray := four j ++ four t ++ four d.size ++ four (crc d)
def showSn (x : Snp) : ByteArray := if isSn x = true then frame (headS x.index.toNat x.term.toNat x.data) ++ x.data else ⟨#[]⟩
theorem isSn_in (x : Snp) (h : isSn x = true) : snapOk x = true ∧ x.index ≠ 0 ∧ (1 ≤ x.index ∧ x.index ≤ 100000) ∧ (1 ≤ x.term ∧ x.term ≤ 100000) ∧ x.data.size ≤ 30000 := by
 unfold isSn at h
 rw [Bool.and_eq_true] at h
 obtain ⟨h1, h2⟩ := h
 have h2 := of_decide_eq_true h2
 refine ⟨h1, h2, ?_⟩
 unfold snapOk inIt at h1
 rw [if_neg h2] at h1
 simpa [and_assoc] using h1
theorem isSn_zero (x : Snp) (h : isSn x = false) (ho : snapOk x = true) : x.index = 0 ∧ x.term = 0 ∧ x.data = ByteArray.empty := by
 unfold isSn at h
 rw [ho] at h
 have h0 : x.index = 0 := by simpa using h
 unfold snapOk at ho
 rw [if_pos h0] at ho
 simp at ho
 exact ⟨h0, ho⟩
theorem headS_size (j t : Nat) (d : ByteArray) : (headS j t d).size = 16 := by
 unfold headS
 simp only [ByteArray.size_append, four_size]
set_option maxHeartbeats 2000000 in
theorem isSnapV (x : Snp) (w : World) (hd : x.data.size ≤ maxLen) : Calls Tryz.prog 116 #[vSnp x] w fun e w' => e = .returned (.bool (isSn x)) ∧ Below w.heap.size w w' := by
 have c1 := fun wx => implSnapOk x wx hd
 have HE : Hid (isSn x = (snapOk x && decide (x.index ≠ 0))) := rfl
 have hb0 := below_one w (.cells #[.int .i64 x.index, .int .i64 x.term, .string x.data] 32)
 have k0 := Cell3.new w x 32
 unfold vSnp at *
 cases ho : snapOk x <;> rw [ho] at c1 HE
 ·clear ho
  go_enter Tryz.func116, Tryz.ntmps116
  go_wp2_with fail
  generalize w.alloc (.cells #[.int .i64 x.index, .int .i64 x.term, .string x.data] 32) = W at *
  refine (c1 _).mono ?_
  rintro e w1 ⟨rfl, hb1⟩
  have B1 : Hid (Below w.heap.size w w1) := hb0.trans (hb1.mono hb0.size)
  clear hb0 hb1 c1 k0
  go_wp2_with fail
  go_ret
  exact ⟨by rw [HE.out]; rfl, B1.out⟩
 ·by_cases hz : x.index = 0
  ·have hs := isSn_zero x (by rw [HE.out, decide_eq_false (by simpa using hz)]; rfl) ho
   obtain ⟨i, t, d⟩ := x
   obtain ⟨rfl, rfl, rfl⟩ := hs
   clear ho hz
   have hq : ByteArray.empty.toList = [] := by rw [Lib.toList_data]; rfl
   go_enter Tryz.func116, Tryz.ntmps116
   go_wp2_with fail
   generalize w.alloc (.cells #[.int .i64 0, .int .i64 0, .string ByteArray.empty] 32) = W at *
   refine (c1 _).mono ?_
   rintro e w1 ⟨rfl, hb1⟩
   have B1 : Hid (Below w.heap.size w w1) := hb0.trans (hb1.mono hb0.size)
   obtain ⟨e0, e1, e2, _⟩ := k0.on hb1 k0.2.2.2 (Nat.le_refl _)
   clear hb0 hb1 c1 k0
   go_wp2_with fail
   go_ret
   exact ⟨by rw [HE.out]; rfl, B1.out⟩
  ·have z : (x.index == 0) = false := by simpa using hz
   have HF : Hid (decide (x.index ≠ 0) = true) := decide_eq_true hz
   clear ho hz
   go_enter Tryz.func116, Tryz.ntmps116
   go_wp2_with fail
   generalize w.alloc (.cells #[.int .i64 x.index, .int .i64 x.term, .string x.data] 32) = W at *
   refine (c1 _).mono ?_
   rintro e w1 ⟨rfl, hb1⟩
   have B1 : Hid (Below w.heap.size w w1) := hb0.trans (hb1.mono hb0.size)
   obtain ⟨e0, e1, e2, _⟩ := k0.on hb1 k0.2.2.2 (Nat.le_refl _)
   clear hb0 hb1 c1 k0
   go_wp2_with fail
   go_ret
   exact ⟨by rw [HE.out, HF.out]; rfl, B1.out⟩
set_option maxHeartbeats 4000000 in
theorem implShowSnap (x : Snp) (w : World) (hd : x.data.size ≤ maxLen) (ht : SumTab w) : Calls Tryz.prog 106 #[vSnp x] w fun e w' => e = .returned (.string (showSn x)) ∧ Below w.heap.size w w' := by
 have c1 := fun wx => isSnapV x wx hd
 have hb0 := below_one w (.cells #[.int .i64 x.index, .int .i64 x.term, .string x.data] 32)
 have k0 := Cell3.new w x 32
 have HE : Hid (showSn x = if isSn x = true then frame (headS x.index.toNat x.term.toNat x.data) ++ x.data else ⟨#[]⟩) := rfl
 have HT : Hid (SumTab w) := ht
 clear ht
 unfold vSnp at *
 cases ho : isSn x <;> rw [ho] at HE
 ·rw [ho] at c1
  clear ho
  go_enter Tryz.func106, Tryz.ntmps106
  go_wp2_with fail
  generalize w.alloc (.cells #[.int .i64 x.index, .int .i64 x.term, .string x.data] 32) = W at *
  refine (c1 _).mono ?_
  rintro e w1 ⟨rfl, hb1⟩
  have B1 : Hid (Below w.heap.size w w1) := hb0.trans (hb1.mono hb0.size)
  obtain ⟨e0, e1, e2, _⟩ := k0.on hb1 k0.2.2.2 (Nat.le_refl _)
  clear hb0 hb1 c1 k0
  go_wp2_with fail
  go_ret
  exact ⟨by rw [HE.out]; rfl, B1.out⟩
 ·obtain ⟨hs, hz, ⟨i1, i2⟩, ⟨t1, t2⟩, d1⟩ := isSn_in x ho
  rw [ho] at c1
  obtain ⟨i, t, d⟩ := x
  simp only at *
  clear ho hs
  have HE : Hid (showSn ⟨i, t, d⟩ = frame (headS i.toNat t.toNat d) ++ d) := by unfold Hid; rw [HE.out]; rfl
  obtain ⟨jn, rfl⟩ : ∃ n : Nat, i = (n : Int) := ⟨i.toNat, by omega⟩
  obtain ⟨tn, rfl⟩ : ∃ n : Nat, t = (n : Int) := ⟨t.toNat, by omega⟩
  have z : ((jn : Int) == 0) = false := by simpa using hz
  rw [Int.toNat_natCast, Int.toNat_natCast] at HE
  have cF : ∀ (n : Nat) wx, n < 4294967296 → Calls Tryz.prog 117 #[.int .i64 (n : Int), .int .i64 4] wx fun e w' => e = .returned (.string (four n)) ∧ Below wx.heap.size wx w' := fun n wx hn => by
   have h := impl_fixed n 4 wx (by omega) (by omega) (by omega)
   rw [fixed_four n hn] at h
   exact h
  have cJ := fun wx => cF jn wx (by omega)
  have cT := fun wx => cF tn wx (by omega)
  have cN := fun wx => cF d.size wx (by omega)
  have cK := fun wx => cF (crc d) wx (crc_lt d)
  have cC := fun wx (h : SumTab wx) => impl_crc d wx (by omega) h
  have cR := fun wx (h : SumTab wx) => impl_frame (headS jn tn d) wx (by rw [headS_size]; omega) h
  have s5 : (frame (headS jn tn d)).size ≤ 24 := by
   unfold frame
   have := headS_size jn tn d
   rw [if_neg (by omega), frameOf_size]
   omega
  have HH : Hid (headS jn tn d = four jn ++ four tn ++ four d.size ++ four (crc d)) := rfl
  have HS : Hid (d.size ≤ 30000) := d1
  have s1 := four_size jn
  have s2 := four_size tn
  have s3 := four_size d.size
  have s4 := four_size (crc d)
  clear cF i1 i2 t1 t2 hz
  generalize four jn = a1 at *
  generalize four tn = a2 at *
  generalize four (crc d) = a4 at *
  generalize hcrc : crc d = cd at *
  generalize four d.size = a3 at *
  have g1 : ¬ 9223372036854775807 < a1.size + a2.size := by omega
  have g2 : ¬ 9223372036854775807 < (a1 ++ a2).size + a3.size := by rw [ByteArray.size_append]; omega
  have g2' : ¬ 9223372036854775807 < a1.size + a2.size + a3.size := by omega
  have g3 : ¬ 9223372036854775807 < (a1 ++ a2 ++ a3).size + a4.size := by rw [ByteArray.size_append, ByteArray.size_append]; omega
  have g3' : ¬ 9223372036854775807 < a1.size + a2.size + a3.size + a4.size := by omega
  generalize headS jn tn d = hh at *
  generalize frame hh = fr at *
  have g4 : ¬ 9223372036854775807 < fr.size + d.size := by omega
  have q0 : (d.size : Int) ≤ 9223372036854775807 := by omega
  go_enter Tryz.func106, Tryz.ntmps106
  go_wp2_with fail
  generalize w.alloc (.cells #[.int .i64 (jn : Int), .int .i64 (tn : Int), .string d] 32) = W at *
  refine (c1 _).mono ?_
  rintro e w1 ⟨rfl, hb1⟩
  have B1 : Hid (Below w.heap.size w w1) := hb0.trans (hb1.mono hb0.size)
  have K1 : Hid (Cell3 w1 w.heap.size ⟨(jn : Int), (tn : Int), d⟩) := k0.on hb1 k0.2.2.2 (Nat.le_refl _)
  clear hb0 hb1 c1 k0
  have S0 : Hid (w1.drew.cell? ⟨w.heap.size, 0, none⟩ = some (.int .i64 (jn : Int)) ∧ w1.drew.cell? ⟨w.heap.size, 1, none⟩ = some (.int .i64 (tn : Int)) ∧ w1.drew.cell? ⟨w.heap.size, 2, none⟩ = some (.string d)) := ⟨K1.out.1, K1.out.2.1, K1.out.2.2.1⟩
  have D0 : Hid (Below w.heap.size w w1.drew) := B1.out.drew
  have K0 : Hid (Cell3 w1.drew w.heap.size ⟨(jn : Int), (tn : Int), d⟩) := K1.out
  clear K1 B1
  go_wp2_with fail
  refine wp_region_until (fun w' => w'.cell? ⟨w.heap.size, 0, none⟩ = some (.int .i64 (jn : Int)) ∧ w'.cell? ⟨w.heap.size, 1, none⟩ = some (.int .i64 (tn : Int)) ∧ w'.cell? ⟨w.heap.size, 2, none⟩ = some (.string d)) (fun i => false) 18 (by rfl) (by kernel_rfl) ?_
  generalize w1.drew = raX at *
  refine until_take 0 (v := ?_) (by rfl) (by kernel_rfl) (by exact fun _ _ _ h => h) (by rfl) ?_ S0.out ?_
  rotate_left
  ·intro w hSw
   try dsimp only at hSw
   go_simp
   try with_reducible rfl
  try simp only [Act.put, setIfInBounds_toArray, set_cons_zero, set_cons_succ]
  refine until_take 1 (v := ?_) (by rfl) (by kernel_rfl) (by exact fun _ _ _ h => h) (by rfl) ?_ S0.out ?_
  rotate_left
  ·intro w hSw
   try dsimp only at hSw
   go_simp
   try with_reducible rfl
  try simp only [Act.put, setIfInBounds_toArray, set_cons_zero, set_cons_succ]
  refine until_take 3 (v := ?_) (by rfl) (by kernel_rfl) (by exact fun _ _ _ h => h) (by rfl) ?_ S0.out ?_
  rotate_left
  ·intro w hSw
   try dsimp only at hSw
   go_simp
   try with_reducible rfl
  try simp only [Act.put, setIfInBounds_toArray, set_cons_zero, set_cons_succ]
  refine until_take 4 (v := ?_) (by rfl) (by kernel_rfl) (by exact fun _ _ _ h => h) (by rfl) ?_ S0.out ?_
  rotate_left
  ·intro w hSw
   try dsimp only at hSw
   go_simp
   try with_reducible rfl
  try simp only [Act.put, setIfInBounds_toArray, set_cons_zero, set_cons_succ]
  refine until_take 7 (v := ?_) (by rfl) (by kernel_rfl) (by exact fun _ _ _ h => h) (by rfl) ?_ S0.out ?_
  rotate_left
  ·intro w hSw
   try dsimp only at hSw
   go_simp
   try with_reducible rfl
  try simp only [Act.put, setIfInBounds_toArray, set_cons_zero, set_cons_succ]
  refine until_take 8 (v := ?_) (by rfl) (by kernel_rfl) (by exact fun _ _ _ h => h) (by rfl) ?_ S0.out ?_
  rotate_left
  ·intro w hSw
   try dsimp only at hSw
   go_simp
   try with_reducible rfl
  try simp only [Act.put, setIfInBounds_toArray, set_cons_zero, set_cons_succ]
  refine until_pure 9 (v := ?_) (by rfl) (by kernel_rfl) (by exact fun _ _ _ h => h) (by rfl) ?_ ?_
  rotate_left
  ·intro w
   go_simp
   try with_reducible rfl
  try simp only [Act.put, setIfInBounds_toArray, set_cons_zero, set_cons_succ]
  refine until_take 12 (v := ?_) (by rfl) (by kernel_rfl) (by exact fun _ _ _ h => h) (by rfl) ?_ S0.out ?_
  rotate_left
  ·intro w hSw
   try dsimp only at hSw
   go_simp
   try with_reducible rfl
  try simp only [Act.put, setIfInBounds_toArray, set_cons_zero, set_cons_succ]
  refine until_take 13 (v := ?_) (by rfl) (by kernel_rfl) (by exact fun _ _ _ h => h) (by rfl) ?_ S0.out ?_
  rotate_left
  ·intro w hSw
   try dsimp only at hSw
   go_simp
   try with_reducible rfl
  try simp only [Act.put, setIfInBounds_toArray, set_cons_zero, set_cons_succ]
  refine until_one 2 (by rfl) (by kernel_rfl) (fun K hK => ?_)
  go_simp
  refine (cJ _).mono ?_
  rintro e ra1 ⟨rfl, hb1⟩
  have Kra1 : Hid (Cell3 ra1 w.heap.size ⟨(jn : Int), (tn : Int), d⟩) := K0.out.on hb1 K0.out.2.2.2 (Nat.le_refl _)
  have Dra1 : Hid (Below w.heap.size w ra1) := D0.out.trans (hb1.mono D0.out.size)
  clear hb1 K0 D0
  go_wp2_with fail
  refine hK.out _ _ (fun _ _ => ⟨Kra1.out.1, Kra1.out.2.1, Kra1.out.2.2.1⟩) ?_
  clear hK K
  try simp only [Act.put, setIfInBounds_toArray, set_cons_zero, set_cons_succ]
  refine until_one 5 (by rfl) (by kernel_rfl) (fun K hK => ?_)
  go_simp
  refine (cT _).mono ?_
  rintro e ra2 ⟨rfl, hb2⟩
  have Kra2 : Hid (Cell3 ra2 w.heap.size ⟨(jn : Int), (tn : Int), d⟩) := Kra1.out.on hb2 Kra1.out.2.2.2 (Nat.le_refl _)
  have Dra2 : Hid (Below w.heap.size w ra2) := Dra1.out.trans (hb2.mono Dra1.out.size)
  clear hb2 Kra1 Dra1
  go_wp2_with fail
  refine hK.out _ _ (fun _ _ => ⟨Kra2.out.1, Kra2.out.2.1, Kra2.out.2.2.1⟩) ?_
  clear hK K
  try simp only [Act.put, setIfInBounds_toArray, set_cons_zero, set_cons_succ]
  refine until_pure 6 (v := ?_) (by rfl) (by kernel_rfl) (by exact fun _ _ _ h => h) (by rfl) ?_ ?_
  rotate_left
  ·intro w
   go_simp
   try with_reducible rfl
  try simp only [Act.put, setIfInBounds_toArray, set_cons_zero, set_cons_succ]
  refine until_one 10 (by rfl) (by kernel_rfl) (fun K hK => ?_)
  go_simp
  refine (cN _).mono ?_
  rintro e ra3 ⟨rfl, hb3⟩
  have Kra3 : Hid (Cell3 ra3 w.heap.size ⟨(jn : Int), (tn : Int), d⟩) := Kra2.out.on hb3 Kra2.out.2.2.2 (Nat.le_refl _)
  have Dra3 : Hid (Below w.heap.size w ra3) := Dra2.out.trans (hb3.mono Dra2.out.size)
  clear hb3 Kra2 Dra2
  go_wp2_with fail
  refine hK.out _ _ (fun _ _ => ⟨Kra3.out.1, Kra3.out.2.1, Kra3.out.2.2.1⟩) ?_
  clear hK K
  try simp only [Act.put, setIfInBounds_toArray, set_cons_zero, set_cons_succ]
  refine until_pure 11 (v := ?_) (by rfl) (by kernel_rfl) (by exact fun _ _ _ h => h) (by rfl) ?_ ?_
  rotate_left
  ·intro w
   go_simp
   try with_reducible rfl
  try simp only [Act.put, setIfInBounds_toArray, set_cons_zero, set_cons_succ]
  refine until_one 14 (by rfl) (by kernel_rfl) (fun K hK => ?_)
  go_simp
  refine (cC _ (HT.out.on Dra3.out)).mono ?_
  rintro e ra4 ⟨rfl, rfl⟩
  go_wp2_with fail
  refine hK.out _ _ (fun _ h => h) ?_
  clear hK K
  try simp only [Act.put, setIfInBounds_toArray, set_cons_zero, set_cons_succ]
  refine until_one 15 (by rfl) (by kernel_rfl) (fun K hK => ?_)
  go_simp
  refine (cK _).mono ?_
  rintro e ra5 ⟨rfl, hb5⟩
  have Kra5 : Hid (Cell3 ra5 w.heap.size ⟨(jn : Int), (tn : Int), d⟩) := Kra3.out.on hb5 Kra3.out.2.2.2 (Nat.le_refl _)
  have Dra5 : Hid (Below w.heap.size w ra5) := Dra3.out.trans (hb5.mono Dra3.out.size)
  clear hb5 Kra3 Dra3
  go_wp2_with fail
  refine hK.out _ _ (fun _ _ => ⟨Kra5.out.1, Kra5.out.2.1, Kra5.out.2.2.1⟩) ?_
  clear hK K
  try simp only [Act.put, setIfInBounds_toArray, set_cons_zero, set_cons_succ]
  refine until_pure 16 (v := ?_) (by rfl) (by kernel_rfl) (by exact fun _ _ _ h => h) (by rfl) ?_ ?_
  rotate_left
  ·intro w
   go_simp
   try with_reducible rfl
  try simp only [Act.put, setIfInBounds_toArray, set_cons_zero, set_cons_succ]
  refine until_pure 17 (v := ?_) (by rfl) (by kernel_rfl) (by exact fun _ _ _ h => h) (by rfl) ?_ ?_
  rotate_left
  ·intro w
   go_simp
   try with_reducible rfl
  try simp only [Act.put, setIfInBounds_toArray, set_cons_zero, set_cons_succ]
  refine until_done (by kernel_rfl) ?_ _
  clear S0
  rw [← HH.out]
  have S0 : Hid (ra5.drew.cell? ⟨w.heap.size, 0, none⟩ = some (.int .i64 (jn : Int)) ∧ ra5.drew.cell? ⟨w.heap.size, 1, none⟩ = some (.int .i64 (tn : Int)) ∧ ra5.drew.cell? ⟨w.heap.size, 2, none⟩ = some (.string d)) := ⟨Kra5.out.1, Kra5.out.2.1, Kra5.out.2.2.1⟩
  have D0 : Hid (Below w.heap.size w ra5.drew) := Dra5.out.drew
  have K0 : Hid (Cell3 ra5.drew w.heap.size ⟨(jn : Int), (tn : Int), d⟩) := Kra5.out
  clear Kra5 Dra5
  go_wp2_with fail
  refine wp_region_until (fun w' => w'.cell? ⟨w.heap.size, 0, none⟩ = some (.int .i64 (jn : Int)) ∧ w'.cell? ⟨w.heap.size, 1, none⟩ = some (.int .i64 (tn : Int)) ∧ w'.cell? ⟨w.heap.size, 2, none⟩ = some (.string d)) (fun i => false) 6 (by rfl) (by kernel_rfl) ?_
  generalize ra5.drew = rbX at *
  refine until_pure 0 (v := ?_) (by rfl) (by kernel_rfl) (by exact fun _ _ _ h => h) (by rfl) ?_ ?_
  rotate_left
  ·intro w
   go_simp
   try with_reducible rfl
  try simp only [Act.put, setIfInBounds_toArray, set_cons_zero, set_cons_succ]
  refine until_take 2 (v := ?_) (by rfl) (by kernel_rfl) (by exact fun _ _ _ h => h) (by rfl) ?_ S0.out ?_
  rotate_left
  ·intro w hSw
   try dsimp only at hSw
   go_simp
   try with_reducible rfl
  try simp only [Act.put, setIfInBounds_toArray, set_cons_zero, set_cons_succ]
  refine until_take 3 (v := ?_) (by rfl) (by kernel_rfl) (by exact fun _ _ _ h => h) (by rfl) ?_ S0.out ?_
  rotate_left
  ·intro w hSw
   try dsimp only at hSw
   go_simp
   try with_reducible rfl
  try simp only [Act.put, setIfInBounds_toArray, set_cons_zero, set_cons_succ]
  refine until_one 1 (by rfl) (by kernel_rfl) (fun K hK => ?_)
  go_simp
  refine (cR _ (HT.out.on D0.out)).mono ?_
  rintro e rb1 ⟨rfl, hb1⟩
  have Krb1 : Hid (Cell3 rb1 w.heap.size ⟨(jn : Int), (tn : Int), d⟩) := K0.out.on hb1 K0.out.2.2.2 (Nat.le_refl _)
  have Drb1 : Hid (Below w.heap.size w rb1) := D0.out.trans (hb1.mono D0.out.size)
  clear hb1 K0 D0
  go_wp2_with fail
  refine hK.out _ _ (fun _ _ => ⟨Krb1.out.1, Krb1.out.2.1, Krb1.out.2.2.1⟩) ?_
  clear hK K
  try simp only [Act.put, setIfInBounds_toArray, set_cons_zero, set_cons_succ]
  refine until_pure 4 (v := ?_) (by rfl) (by kernel_rfl) (by exact fun _ _ _ h => h) (by rfl) ?_ ?_
  rotate_left
  ·intro w
   go_simp
   try with_reducible rfl
  try simp only [Act.put, setIfInBounds_toArray, set_cons_zero, set_cons_succ]
  refine until_pure 5 (v := ?_) (by rfl) (by kernel_rfl) (by exact fun _ _ _ h => h) (by rfl) ?_ ?_
  rotate_left
  ·intro w
   go_simp
   try with_reducible rfl
  try simp only [Act.put, setIfInBounds_toArray, set_cons_zero, set_cons_succ]
  refine until_done (by kernel_rfl) ?_ _
  clear S0
  go_wp2_with fail
  go_ret
  exact ⟨by rw [HE.out]; rfl, Drb1.out⟩
set_option maxHeartbeats 4000000 in
theorem specShowSnap (x : Snp) (w : World) (hd : x.data.size ≤ maxLen) : Calls Tryz.prog 56 #[vSnp x] w fun e w' => e = .returned (.string (showSn x)) ∧ Below w.heap.size w w' := by
 have c1 := fun wx => specSnapOk x wx hd
 have hb0 := below_one w (.cells #[.int .i64 x.index, .int .i64 x.term, .string x.data] 32)
 have k0 := Cell3.new w x 32
 have HE : Hid (showSn x = if isSn x = true then frame (headS x.index.toNat x.term.toNat x.data) ++ x.data else ⟨#[]⟩) := rfl
 unfold vSnp at *
 cases ho : isSn x <;> rw [ho] at HE
 ·cases hs : snapOk x
  ·rw [hs] at c1
   clear ho hs
   go_enter Tryz.func56, Tryz.ntmps56
   go_wp2_with fail
   generalize w.alloc (.cells #[.int .i64 x.index, .int .i64 x.term, .string x.data] 32) = W at *
   refine (c1 _).mono ?_
   rintro e w1 ⟨rfl, hb1⟩
   have B1 : Hid (Below w.heap.size w w1) := hb0.trans (hb1.mono hb0.size)
   obtain ⟨e0, e1, e2, _⟩ := k0.on hb1 k0.2.2.2 (Nat.le_refl _)
   clear hb0 hb1 c1 k0
   go_wp2_with fail
   go_ret
   exact ⟨by rw [HE.out]; rfl, B1.out⟩
  ·have hz := (isSn_zero x ho hs).1
   rw [hs] at c1
   rw [hz] at c1 hb0 k0 ⊢
   have hz0 : x.index = 0 := hz
   clear ho hs hz
   go_enter Tryz.func56, Tryz.ntmps56
   go_wp2_with fail
   generalize w.alloc (.cells #[.int .i64 0, .int .i64 x.term, .string x.data] 32) = W at *
   refine (c1 _).mono ?_
   rintro e w1 ⟨rfl, hb1⟩
   have B1 : Hid (Below w.heap.size w w1) := hb0.trans (hb1.mono hb0.size)
   obtain ⟨e0, e1, e2, _⟩ := k0.on hb1 k0.2.2.2 (Nat.le_refl _)
   rw [hz0] at e0
   clear hz0
   clear hb0 hb1 c1 k0
   go_wp2_with fail
   go_ret
   exact ⟨by rw [HE.out]; rfl, B1.out⟩
 ·obtain ⟨hs, hz, ⟨i1, i2⟩, ⟨t1, t2⟩, d1⟩ := isSn_in x ho
  rw [hs] at c1
  obtain ⟨i, t, d⟩ := x
  simp only at *
  clear ho hs
  have HE : Hid (showSn ⟨i, t, d⟩ = frame (headS i.toNat t.toNat d) ++ d) := by unfold Hid; rw [HE.out]; rfl
  obtain ⟨jn, rfl⟩ : ∃ n : Nat, i = (n : Int) := ⟨i.toNat, by omega⟩
  obtain ⟨tn, rfl⟩ : ∃ n : Nat, t = (n : Int) := ⟨t.toNat, by omega⟩
  have z : ((jn : Int) == 0) = false := by simpa using hz
  rw [Int.toNat_natCast, Int.toNat_natCast] at HE
  have cF : ∀ (n : Nat) wx, n < 4294967296 → Calls Tryz.prog 89 #[.int .i64 (n : Int), .int .i64 4] wx fun e w' => e = .returned (.string (four n)) ∧ Below wx.heap.size wx w' := fun n wx hn => by
   have h := spec_fixed n 4 wx (by omega) (by omega) (by omega)
   rw [fixed_four n hn] at h
   exact h
  have cJ := fun wx => cF jn wx (by omega)
  have cT := fun wx => cF tn wx (by omega)
  have cN := fun wx => cF d.size wx (by omega)
  have cK := fun wx => cF (crc d) wx (crc_lt d)
  have cC := fun wx => spec_crc d wx (by omega)
  have cR := fun wx => spec_frame (headS jn tn d) wx (by rw [headS_size]; omega)
  have s5 : (frame (headS jn tn d)).size ≤ 24 := by
   unfold frame
   have := headS_size jn tn d
   rw [if_neg (by omega), frameOf_size]
   omega
  have HH : Hid (headS jn tn d = four jn ++ four tn ++ four d.size ++ four (crc d)) := rfl
  have HS : Hid (d.size ≤ 30000) := d1
  have s1 := four_size jn
  have s2 := four_size tn
  have s3 := four_size d.size
  have s4 := four_size (crc d)
  clear cF i1 i2 t1 t2 hz
  generalize four jn = a1 at *
  generalize four tn = a2 at *
  generalize four (crc d) = a4 at *
  generalize hcrc : crc d = cd at *
  generalize four d.size = a3 at *
  have g1 : ¬ 9223372036854775807 < a1.size + a2.size := by omega
  have g2 : ¬ 9223372036854775807 < (a1 ++ a2).size + a3.size := by rw [ByteArray.size_append]; omega
  have g2' : ¬ 9223372036854775807 < a1.size + a2.size + a3.size := by omega
  have g3 : ¬ 9223372036854775807 < (a1 ++ a2 ++ a3).size + a4.size := by rw [ByteArray.size_append, ByteArray.size_append]; omega
  have g3' : ¬ 9223372036854775807 < a1.size + a2.size + a3.size + a4.size := by omega
  generalize headS jn tn d = hh at *
  generalize frame hh = fr at *
  have g4 : ¬ 9223372036854775807 < fr.size + d.size := by omega
  have q0 : (d.size : Int) ≤ 9223372036854775807 := by omega
  go_enter Tryz.func56, Tryz.ntmps56
  go_wp2_with fail
  generalize w.alloc (.cells #[.int .i64 (jn : Int), .int .i64 (tn : Int), .string d] 32) = W at *
  refine (c1 _).mono ?_
  rintro e w1 ⟨rfl, hb1⟩
  have B1 : Hid (Below w.heap.size w w1) := hb0.trans (hb1.mono hb0.size)
  have K1 : Hid (Cell3 w1 w.heap.size ⟨(jn : Int), (tn : Int), d⟩) := k0.on hb1 k0.2.2.2 (Nat.le_refl _)
  clear hb0 hb1 c1 k0
  have e0 := K1.out.1
  have S0 : Hid (w1.drew.cell? ⟨w.heap.size, 0, none⟩ = some (.int .i64 (jn : Int)) ∧ w1.drew.cell? ⟨w.heap.size, 1, none⟩ = some (.int .i64 (tn : Int)) ∧ w1.drew.cell? ⟨w.heap.size, 2, none⟩ = some (.string d)) := ⟨K1.out.1, K1.out.2.1, K1.out.2.2.1⟩
  have D0 : Hid (Below w.heap.size w w1.drew) := B1.out.drew
  have K0 : Hid (Cell3 w1.drew w.heap.size ⟨(jn : Int), (tn : Int), d⟩) := K1.out
  clear K1 B1
  go_wp2_with fail
  refine wp_region_until (fun w' => w'.cell? ⟨w.heap.size, 0, none⟩ = some (.int .i64 (jn : Int)) ∧ w'.cell? ⟨w.heap.size, 1, none⟩ = some (.int .i64 (tn : Int)) ∧ w'.cell? ⟨w.heap.size, 2, none⟩ = some (.string d)) (fun i => false) 22 (by rfl) (by kernel_rfl) ?_
  generalize w1.drew = raX at *
  refine until_take 0 (v := ?_) (by rfl) (by kernel_rfl) (by exact fun _ _ _ h => h) (by rfl) ?_ S0.out ?_
  rotate_left
  ·intro w hSw
   try dsimp only at hSw
   go_simp
   try with_reducible rfl
  try simp only [Act.put, setIfInBounds_toArray, set_cons_zero, set_cons_succ]
  refine until_take 1 (v := ?_) (by rfl) (by kernel_rfl) (by exact fun _ _ _ h => h) (by rfl) ?_ S0.out ?_
  rotate_left
  ·intro w hSw
   try dsimp only at hSw
   go_simp
   try with_reducible rfl
  try simp only [Act.put, setIfInBounds_toArray, set_cons_zero, set_cons_succ]
  refine until_take 3 (v := ?_) (by rfl) (by kernel_rfl) (by exact fun _ _ _ h => h) (by rfl) ?_ S0.out ?_
  rotate_left
  ·intro w hSw
   try dsimp only at hSw
   go_simp
   try with_reducible rfl
  try simp only [Act.put, setIfInBounds_toArray, set_cons_zero, set_cons_succ]
  refine until_take 4 (v := ?_) (by rfl) (by kernel_rfl) (by exact fun _ _ _ h => h) (by rfl) ?_ S0.out ?_
  rotate_left
  ·intro w hSw
   try dsimp only at hSw
   go_simp
   try with_reducible rfl
  try simp only [Act.put, setIfInBounds_toArray, set_cons_zero, set_cons_succ]
  refine until_take 7 (v := ?_) (by rfl) (by kernel_rfl) (by exact fun _ _ _ h => h) (by rfl) ?_ S0.out ?_
  rotate_left
  ·intro w hSw
   try dsimp only at hSw
   go_simp
   try with_reducible rfl
  try simp only [Act.put, setIfInBounds_toArray, set_cons_zero, set_cons_succ]
  refine until_take 8 (v := ?_) (by rfl) (by kernel_rfl) (by exact fun _ _ _ h => h) (by rfl) ?_ S0.out ?_
  rotate_left
  ·intro w hSw
   try dsimp only at hSw
   go_simp
   try with_reducible rfl
  try simp only [Act.put, setIfInBounds_toArray, set_cons_zero, set_cons_succ]
  refine until_pure 9 (v := ?_) (by rfl) (by kernel_rfl) (by exact fun _ _ _ h => h) (by rfl) ?_ ?_
  rotate_left
  ·intro w
   go_simp
   try with_reducible rfl
  try simp only [Act.put, setIfInBounds_toArray, set_cons_zero, set_cons_succ]
  refine until_take 12 (v := ?_) (by rfl) (by kernel_rfl) (by exact fun _ _ _ h => h) (by rfl) ?_ S0.out ?_
  rotate_left
  ·intro w hSw
   try dsimp only at hSw
   go_simp
   try with_reducible rfl
  try simp only [Act.put, setIfInBounds_toArray, set_cons_zero, set_cons_succ]
  refine until_take 13 (v := ?_) (by rfl) (by kernel_rfl) (by exact fun _ _ _ h => h) (by rfl) ?_ S0.out ?_
  rotate_left
  ·intro w hSw
   try dsimp only at hSw
   go_simp
   try with_reducible rfl
  try simp only [Act.put, setIfInBounds_toArray, set_cons_zero, set_cons_succ]
  refine until_take 18 (v := ?_) (by rfl) (by kernel_rfl) (by exact fun _ _ _ h => h) (by rfl) ?_ S0.out ?_
  rotate_left
  ·intro w hSw
   try dsimp only at hSw
   go_simp
   try with_reducible rfl
  try simp only [Act.put, setIfInBounds_toArray, set_cons_zero, set_cons_succ]
  refine until_take 19 (v := ?_) (by rfl) (by kernel_rfl) (by exact fun _ _ _ h => h) (by rfl) ?_ S0.out ?_
  rotate_left
  ·intro w hSw
   try dsimp only at hSw
   go_simp
   try with_reducible rfl
  try simp only [Act.put, setIfInBounds_toArray, set_cons_zero, set_cons_succ]
  refine until_one 2 (by rfl) (by kernel_rfl) (fun K hK => ?_)
  go_simp
  refine (cJ _).mono ?_
  rintro e ra1 ⟨rfl, hb1⟩
  have Kra1 : Hid (Cell3 ra1 w.heap.size ⟨(jn : Int), (tn : Int), d⟩) := K0.out.on hb1 K0.out.2.2.2 (Nat.le_refl _)
  have Dra1 : Hid (Below w.heap.size w ra1) := D0.out.trans (hb1.mono D0.out.size)
  clear hb1 K0 D0
  go_wp2_with fail
  refine hK.out _ _ (fun _ _ => ⟨Kra1.out.1, Kra1.out.2.1, Kra1.out.2.2.1⟩) ?_
  clear hK K
  try simp only [Act.put, setIfInBounds_toArray, set_cons_zero, set_cons_succ]
  refine until_one 5 (by rfl) (by kernel_rfl) (fun K hK => ?_)
  go_simp
  refine (cT _).mono ?_
  rintro e ra2 ⟨rfl, hb2⟩
  have Kra2 : Hid (Cell3 ra2 w.heap.size ⟨(jn : Int), (tn : Int), d⟩) := Kra1.out.on hb2 Kra1.out.2.2.2 (Nat.le_refl _)
  have Dra2 : Hid (Below w.heap.size w ra2) := Dra1.out.trans (hb2.mono Dra1.out.size)
  clear hb2 Kra1 Dra1
  go_wp2_with fail
  refine hK.out _ _ (fun _ _ => ⟨Kra2.out.1, Kra2.out.2.1, Kra2.out.2.2.1⟩) ?_
  clear hK K
  try simp only [Act.put, setIfInBounds_toArray, set_cons_zero, set_cons_succ]
  refine until_pure 6 (v := ?_) (by rfl) (by kernel_rfl) (by exact fun _ _ _ h => h) (by rfl) ?_ ?_
  rotate_left
  ·intro w
   go_simp
   try with_reducible rfl
  try simp only [Act.put, setIfInBounds_toArray, set_cons_zero, set_cons_succ]
  refine until_one 10 (by rfl) (by kernel_rfl) (fun K hK => ?_)
  go_simp
  refine (cN _).mono ?_
  rintro e ra3 ⟨rfl, hb3⟩
  have Kra3 : Hid (Cell3 ra3 w.heap.size ⟨(jn : Int), (tn : Int), d⟩) := Kra2.out.on hb3 Kra2.out.2.2.2 (Nat.le_refl _)
  have Dra3 : Hid (Below w.heap.size w ra3) := Dra2.out.trans (hb3.mono Dra2.out.size)
  clear hb3 Kra2 Dra2
  go_wp2_with fail
  refine hK.out _ _ (fun _ _ => ⟨Kra3.out.1, Kra3.out.2.1, Kra3.out.2.2.1⟩) ?_
  clear hK K
  try simp only [Act.put, setIfInBounds_toArray, set_cons_zero, set_cons_succ]
  refine until_pure 11 (v := ?_) (by rfl) (by kernel_rfl) (by exact fun _ _ _ h => h) (by rfl) ?_ ?_
  rotate_left
  ·intro w
   go_simp
   try with_reducible rfl
  try simp only [Act.put, setIfInBounds_toArray, set_cons_zero, set_cons_succ]
  refine until_one 14 (by rfl) (by kernel_rfl) (fun K hK => ?_)
  go_simp
  refine (cC _).mono ?_
  rintro e ra4 ⟨rfl, rfl⟩
  go_wp2_with fail
  refine hK.out _ _ (fun _ h => h) ?_
  clear hK K
  try simp only [Act.put, setIfInBounds_toArray, set_cons_zero, set_cons_succ]
  refine until_one 15 (by rfl) (by kernel_rfl) (fun K hK => ?_)
  go_simp
  refine (cK _).mono ?_
  rintro e ra5 ⟨rfl, hb5⟩
  have Kra5 : Hid (Cell3 ra5 w.heap.size ⟨(jn : Int), (tn : Int), d⟩) := Kra3.out.on hb5 Kra3.out.2.2.2 (Nat.le_refl _)
  have Dra5 : Hid (Below w.heap.size w ra5) := Dra3.out.trans (hb5.mono Dra3.out.size)
  clear hb5 Kra3 Dra3
  go_wp2_with fail
  refine hK.out _ _ (fun _ _ => ⟨Kra5.out.1, Kra5.out.2.1, Kra5.out.2.2.1⟩) ?_
  clear hK K
  try simp only [Act.put, setIfInBounds_toArray, set_cons_zero, set_cons_succ]
  refine until_pure 16 (v := ?_) (by rfl) (by kernel_rfl) (by exact fun _ _ _ h => h) (by rfl) ?_ ?_
  rotate_left
  ·intro w
   go_simp
   try with_reducible rfl
  try simp only [Act.put, setIfInBounds_toArray, set_cons_zero, set_cons_succ]
  refine until_one 17 (by rfl) (by kernel_rfl) (fun K hK => ?_)
  go_simp
  rw [← HH.out]
  refine (cR _).mono ?_
  rintro e ra6 ⟨rfl, hb6⟩
  have Kra6 : Hid (Cell3 ra6 w.heap.size ⟨(jn : Int), (tn : Int), d⟩) := Kra5.out.on hb6 Kra5.out.2.2.2 (Nat.le_refl _)
  have Dra6 : Hid (Below w.heap.size w ra6) := Dra5.out.trans (hb6.mono Dra5.out.size)
  clear hb6 Kra5 Dra5
  go_wp2_with fail
  refine hK.out _ _ (fun _ _ => ⟨Kra6.out.1, Kra6.out.2.1, Kra6.out.2.2.1⟩) ?_
  clear hK K
  try simp only [Act.put, setIfInBounds_toArray, set_cons_zero, set_cons_succ]
  refine until_pure 20 (v := ?_) (by rfl) (by kernel_rfl) (by exact fun _ _ _ h => h) (by rfl) ?_ ?_
  rotate_left
  ·intro w
   go_simp
   try with_reducible rfl
  try simp only [Act.put, setIfInBounds_toArray, set_cons_zero, set_cons_succ]
  refine until_pure 21 (v := ?_) (by rfl) (by kernel_rfl) (by exact fun _ _ _ h => h) (by rfl) ?_ ?_
  rotate_left
  ·intro w
   go_simp
   try with_reducible rfl
  try simp only [Act.put, setIfInBounds_toArray, set_cons_zero, set_cons_succ]
  refine until_done (by kernel_rfl) ?_ _
  clear S0
  go_wp2_with fail
  go_ret
  exact ⟨by rw [HE.out]; rfl, Dra6.out⟩
end Go.Proofs.YtdimaoloapbeoaaGreatDoor
namespace Go.Proofs.YtdimaoloapbeoaaGreatDoor
open Go.ChangeShapes Go.WideShapes Go.ChangeAt Go.RowKit Go.PlainAid
set_option linter.unusedVariables false
theorem below_drewN (w : World) (n : Nat) : Below w.heap.size w (w.drewN n) := ⟨rfl, rfl, rfl, Nat.le_refl _, fun _ _ => rfl⟩
theorem below_drew (w : World) : Below w.heap.size w w.drew := ⟨rfl, rfl, rfl, Nat.le_refl _, fun _ _ => rfl⟩
def badBody (p : Int) (a : Addr) : Ending := .returned (.tuple #[.string ⟨#[]⟩, wrapped p a])
set_option maxHeartbeats 400000 in
theorem body_short4 (s : ByteArray) (i : Nat) (w : World) (hi : i ≤ s.size) (hs : s.size ≤ 1048576) (a0 a1 a2 : Addr) (he : Errs w a0 a1 a2) (h4 : (rest s i).size < 4) :
  Calls Tryz.prog 96 #[.string s, .int .i64 (i : Int)] w fun e w' => (∃ p, e = badBody p a0) ∧ Below w.heap.size w w' := by
 have c1 := impl_readFixed_no (rest s i) 4 w (by unfold maxLen; omega) (by omega)
 have hc := he.c0
 have hr : s.extract i s.size = rest s i := rfl
 have q1 : (i : Int) ≤ (s.size : Int) := by omega
 have q2 : (s.size : Int) ≤ 1048576 := by omega
 clear he h4 hs
 generalize rest s i = r at *
 go_enter Tryz.func96, Tryz.ntmps96
 go_wp2_with fail
 refine c1.mono ?_
 rintro e w1 ⟨rfl, rfl⟩
 go_wp2_with fail
 go_quiet (fail)
 go_wp2_with fail
 go_ret2
 exact ⟨⟨_, rfl⟩, below_drewN w nq⟩
set_option maxHeartbeats 400000 in
theorem body_len (s : ByteArray) (i : Nat) (w : World) (hi : i ≤ s.size) (hs : s.size ≤ 1048576) (a0 a1 a2 : Addr) (he : Errs w a0 a1 a2) (h4 : 4 ≤ (rest s i).size) (hl : rdv (rest s i) 4 = 0 ∨ 2000 < rdv (rest s i) 4) :
  Calls Tryz.prog 96 #[.string s, .int .i64 (i : Int)] w fun e w' => (∃ p, e = badBody p a1) ∧ Below w.heap.size w w' := by
 have hz := rest_size s i
 have c1 := impl_readFixed (rest s i) 4 w (by unfold maxLen; omega) (by omega) (by omega) h4
 have hc := he.c1
 have hr : s.extract i s.size = rest s i := rfl
 have q1 : (i : Int) ≤ (s.size : Int) := by omega
 have q2 : (s.size : Int) ≤ 1048576 := by omega
 clear he h4 hs hz
 generalize rdv (rest s i) 4 = n at *
 generalize rest s i = r at *
 rcases hl with rfl | hl
 ·go_enter Tryz.func96, Tryz.ntmps96
  go_wp2_with fail
  refine c1.mono ?_
  rintro e w1 ⟨rfl, rfl⟩
  go_wp2_with fail
  go_quiet (fail)
  go_wp2_with fail
  go_ret2
  exact ⟨⟨_, rfl⟩, below_drewN w nq⟩
 ·have q3 : (2000 : Int) < (n : Int) := by omega
  have q4 : ((n : Int) == 0) = false := by simp only [beq_eq_false_iff_ne, ne_eq]; omega
  have q5 : decide ((2000 : Int) < (n : Int)) = true := decide_eq_true q3
  have q6 : ¬ (n : Int) = 0 := by omega
  go_enter Tryz.func96, Tryz.ntmps96
  go_wp2_with fail
  refine c1.mono ?_
  rintro e w1 ⟨rfl, rfl⟩
  go_wp2_with fail
  go_quiet (fail)
  go_wp2_with fail
  go_ret2
  exact ⟨⟨_, rfl⟩, below_drewN w nq⟩
set_option maxHeartbeats 400000 in
theorem body_short8 (s : ByteArray) (i : Nat) (w : World) (hi : i ≤ s.size) (hs : s.size ≤ 1048576) (a0 a1 a2 : Addr) (he : Errs w a0 a1 a2) (h4 : 4 ≤ (rest s i).size) (h1 : 1 ≤ rdv (rest s i) 4) (h2 : rdv (rest s i) 4 ≤ 2000) (h8 : (rest s i).size < 8 + rdv (rest s i) 4) :
  Calls Tryz.prog 96 #[.string s, .int .i64 (i : Int)] w fun e w' => (∃ p, e = badBody p a0) ∧ Below w.heap.size w w' := by
 have hz := rest_size s i
 have c1 := impl_readFixed (rest s i) 4 w (by unfold maxLen; omega) (by omega) (by omega) h4
 have hc := he.c0
 have hr : s.extract i s.size = rest s i := rfl
 have q1 : (i : Int) ≤ (s.size : Int) := by omega
 have q2 : (s.size : Int) ≤ 1048576 := by omega
 clear he h4 hs hz
 generalize rdv (rest s i) 4 = n at *
 generalize rest s i = r at *
 have q3 : (n : Int) ≤ 2000 := by omega
 have q4 : ((n : Int) == 0) = false := by simp only [beq_eq_false_iff_ne, ne_eq]; omega
 have q5 : decide ((2000 : Int) < (n : Int)) = false := decide_eq_false (by omega)
 have q6 : ¬ (n : Int) = 0 := by omega
 have q7 : (r.size : Int) < 8 + (n : Int) := by omega
 go_enter Tryz.func96, Tryz.ntmps96
 go_wp2_with fail
 refine c1.mono ?_
 rintro e w1 ⟨rfl, rfl⟩
 go_wp2_with fail
 go_quiet (fail)
 go_wp2_with fail
 go_ret2
 exact ⟨⟨_, rfl⟩, below_drewN w nq⟩
end Go.Proofs.YtdimaoloapbeoaaGreatDoor
namespace Go.Proofs.YtdimaoloapbeoaaGreatDoor
open Go.ChangeShapes Go.WideShapes Go.ChangeAt Go.RowKit Go.PlainAid
set_option linter.unusedVariables false
set_option maxRecDepth 20000 in
set_option maxHeartbeats 1000000 in
theorem body_ok (s : ByteArray) (i : Nat) (w : World) (hi : i ≤ s.size) (hs : s.size ≤ 1048576) (ht : SumTab w) (hcode : code (rest s i) = 0) :
  Calls Tryz.prog 96 #[.string s, .int .i64 (i : Int)] w fun e w' => e = .returned (.tuple #[.string (bodyOf (rest s i)), .nilIface]) ∧ Below w.heap.size w w' := by
 obtain ⟨h4, h1, h2, h8, hsum⟩ := (code_zero _).1 hcode
 have hz := rest_size s i
 have c1 := impl_readFixed (rest s i) 4 w (by unfold maxLen; omega) (by omega) (by omega) h4
 have hr : s.extract i s.size = rest s i := rfl
 have q1 : (i : Int) ≤ (s.size : Int) := by omega
 have q2 : (s.size : Int) ≤ 1048576 := by omega
 have q8 : (rest s i).size ≤ 1048576 := by omega
 unfold bodyOf at hsum ⊢
 clear hcode hs hz
 generalize rdv (rest s i) 4 = n at *
 generalize rest s i = r at *
 have q3 : (n : Int) ≤ 2000 := by omega
 have q4 : ((n : Int) == 0) = false := by simp only [beq_eq_false_iff_ne, ne_eq]; omega
 have q5 : decide ((2000 : Int) < (n : Int)) = false := decide_eq_false (by omega)
 have q6 : ¬ (n : Int) = 0 := by omega
 have q7 : 8 + (n : Int) ≤ (r.size : Int) := by omega
 have q9 : (8 : Int) ≤ (r.size : Int) := by omega
 have HT : Hid (SumTab w) := ht
 have hm : (8 + (n : Int)).toNat = 8 + n := by omega
 have HB : Hid ((r.extract 0 4).size + (r.extract 8 (8 + n)).size ≤ 2097152) := by unfold Hid; rw [ByteArray.size_extract, ByteArray.size_extract]; omega
 have HC : Hid ((r.extract 8 (8 + n)).size ≤ 281474976710656) := by unfold Hid; rw [ByteArray.size_extract]; omega
 have HS : Hid (sumOf (r.extract 0 4) (r.extract 8 (8 + n)) = r.extract 4 8) := hsum
 clear ht hsum q8 h1 h2 h4
 go_enter Tryz.func96, Tryz.ntmps96
 go_wp2_with fail
 refine c1.mono ?_
 rintro e w1 ⟨rfl, rfl⟩
 go_wp2_with fail
 go_region_with (go_at_call 111; refine (impl_frameSum (r.extract 0 4) (r.extract 8 (8 + n)) _ HB.out ?_).mono ?_; exact HT.out; rintro e w1 ⟨rfl, hb1⟩; rw [HS.out])
 all_goals go_wp2_with fail
 all_goals (refine (clone _ _ HC.out).mono ?_; rintro e w2 ⟨rfl, hb2⟩; go_wp2_with fail; go_ret2; exact ⟨rfl, ((below_drew w).trans hb1).trans (hb2.mono hb1.size)⟩)
set_option maxRecDepth 20000 in
set_option maxHeartbeats 1000000 in
theorem body_sum (s : ByteArray) (i : Nat) (w : World) (hi : i ≤ s.size) (hs : s.size ≤ 1048576) (ht : SumTab w) (a0 a1 a2 : Addr) (he : Errs w a0 a1 a2) (h4 : 4 ≤ (rest s i).size) (h1 : 1 ≤ rdv (rest s i) 4) (h2 : rdv (rest s i) 4 ≤ 2000) (h8 : 8 + rdv (rest s i) 4 ≤ (rest s i).size) (hsum : sumOf ((rest s i).extract 0 4) (bodyOf (rest s i)) ≠ (rest s i).extract 4 8) :
  Calls Tryz.prog 96 #[.string s, .int .i64 (i : Int)] w fun e w' => (∃ p, e = badBody p a2) ∧ Below w.heap.size w w' := by
 have hz := rest_size s i
 have c1 := impl_readFixed (rest s i) 4 w (by unfold maxLen; omega) (by omega) (by omega) h4
 have hr : s.extract i s.size = rest s i := rfl
 have q1 : (i : Int) ≤ (s.size : Int) := by omega
 have q2 : (s.size : Int) ≤ 1048576 := by omega
 have q8 : (rest s i).size ≤ 1048576 := by omega
 unfold bodyOf at hsum
 have HE : Hid (Errs w a0 a1 a2) := he
 clear he hs hz
 generalize rdv (rest s i) 4 = n at *
 generalize rest s i = r at *
 have q3 : (n : Int) ≤ 2000 := by omega
 have q4 : ((n : Int) == 0) = false := by simp only [beq_eq_false_iff_ne, ne_eq]; omega
 have q5 : decide ((2000 : Int) < (n : Int)) = false := decide_eq_false (by omega)
 have q6 : ¬ (n : Int) = 0 := by omega
 have q7 : 8 + (n : Int) ≤ (r.size : Int) := by omega
 have q9 : (8 : Int) ≤ (r.size : Int) := by omega
 have HT : Hid (SumTab w) := ht
 have hm : (8 + (n : Int)).toNat = 8 + n := by omega
 have HB : Hid ((r.extract 0 4).size + (r.extract 8 (8 + n)).size ≤ 2097152) := by unfold Hid; rw [ByteArray.size_extract, ByteArray.size_extract]; omega
 have HC : Hid ((r.extract 8 (8 + n)).size ≤ 281474976710656) := by unfold Hid; rw [ByteArray.size_extract]; omega
 have e1 : ((sumOf (r.extract 0 4) (r.extract 8 (8 + n))).toList == (r.extract 4 8).toList) = false := by
  rw [beq_eq_false_iff_ne, Lib.toList_data, Lib.toList_data]
  intro h
  exact hsum (ByteArray.ext (Array.toList_inj.1 h))
 have q10 : wrap64 ((i : Int) + 4) = (i : Int) + 4 := by unfold wrap64; omega
 clear ht hsum q8 h1 h2 h4
 go_enter Tryz.func96, Tryz.ntmps96
 go_wp2_with fail
 refine c1.mono ?_
 rintro e w1 ⟨rfl, rfl⟩
 go_wp2_with fail
 go_region_with (go_at_call 111; refine (impl_frameSum (r.extract 0 4) (r.extract 8 (8 + n)) _ HB.out ?_).mono ?_; exact HT.out; rintro e w1 ⟨rfl, hb1⟩)
 all_goals go_wp2_with fail
 have hb : Below w.heap.size w w1 := (below_drew w).trans hb1
 have hc := (HE.out.on hb).c2
 go_quiet (fail)
 go_wp2_with fail
 go_ret2
 exact ⟨⟨_, rfl⟩, hb.trans ((below_drewN w1 nq).mono hb.size)⟩
end Go.Proofs.YtdimaoloapbeoaaGreatDoor
namespace Go.Proofs.YtdimaoloapbeoaaGreatDoor
open Go.ChangeShapes Go.WideShapes Go.ChangeAt Go.RowKit Go.PlainAid
set_option linter.unusedVariables false
theorem body_bad (s : ByteArray) (i : Nat) (w : World) (hi : i ≤ s.size) (hs : s.size ≤ 1048576) (ht : SumTab w) (a0 a1 a2 : Addr) (he : Errs w a0 a1 a2) (hcode : code (rest s i) ≠ 0) :
  Calls Tryz.prog 96 #[.string s, .int .i64 (i : Int)] w fun e w' => (∃ p a, e = badBody p a ∧ (code (rest s i) = 1 ∧ a = a0 ∨ code (rest s i) = 2 ∧ (a = a1 ∨ a = a2))) ∧ Below w.heap.size w w' := by
 by_cases h4 : (rest s i).size < 4
 ·refine (body_short4 s i w hi hs a0 a1 a2 he h4).mono ?_
  rintro e w' ⟨⟨p, rfl⟩, hb⟩
  exact ⟨⟨p, a0, rfl, .inl ⟨by rw [code, if_pos h4], rfl⟩⟩, hb⟩
 by_cases hl : rdv (rest s i) 4 = 0 ∨ 2000 < rdv (rest s i) 4
 ·refine (body_len s i w hi hs a0 a1 a2 he (by omega) hl).mono ?_
  rintro e w' ⟨⟨p, rfl⟩, hb⟩
  exact ⟨⟨p, a1, rfl, .inr ⟨by rw [code, if_neg h4, if_pos hl], .inl rfl⟩⟩, hb⟩
 by_cases h8 : (rest s i).size < 8 + rdv (rest s i) 4
 ·refine (body_short8 s i w hi hs a0 a1 a2 he (by omega) (by omega) (by omega) h8).mono ?_
  rintro e w' ⟨⟨p, rfl⟩, hb⟩
  exact ⟨⟨p, a0, rfl, .inl ⟨by rw [code, if_neg h4, if_neg hl, if_pos h8], rfl⟩⟩, hb⟩
 have hsum : sumOf ((rest s i).extract 0 4) (bodyOf (rest s i)) ≠ (rest s i).extract 4 8 := fun h => hcode (by rw [code, if_neg h4, if_neg hl, if_neg h8, if_pos h])
 refine (body_sum s i w hi hs ht a0 a1 a2 he (by omega) (by omega) (by omega) (by omega) hsum).mono ?_
 rintro e w' ⟨⟨p, rfl⟩, hb⟩
 exact ⟨⟨p, a2, rfl, .inr ⟨by rw [code, if_neg h4, if_neg hl, if_neg h8, if_neg hsum], .inr rfl⟩⟩, hb⟩
def unf (s : ByteArray) : Array Value := if code s = 0 then #[.string (bodyOf s), .int .i64 ((8 + rdv s 4 : Nat) : Int), .int .i64 0] else #[.string ⟨#[]⟩, .int .i64 0, .int .i64 (code s : Int)]
set_option maxHeartbeats 1000000 in
theorem impl_unframe (s : ByteArray) (w : World) (hs : s.size ≤ 1048576) (ht : SumTab w) (a0 a1 a2 : Addr) (he : Errs w a0 a1 a2) :
  Calls Tryz.prog 105 #[.string s] w fun e w' => e = .returned (.tuple (unf s)) ∧ Below w.heap.size w w' := by
 have HE : Hid (Errs w a0 a1 a2) := he
 by_cases hcode : code s = 0
 ·have c1 := body_ok s 0 w (by omega) hs ht (by rw [rest_zero]; exact hcode)
  rw [rest_zero, show ((0 : Nat) : Int) = 0 from rfl] at c1
  obtain ⟨h4, h1, h2, h8, hsum⟩ := (code_zero _).1 hcode
  have hz := bodyOf_size s h8
  have EU : Hid (unf s = #[.string (bodyOf s), .int .i64 ((8 + rdv s 4 : Nat) : Int), .int .i64 0]) := by unfold Hid; rw [unf, if_pos hcode]
  have q1 : ((bodyOf s).size : Int) = (rdv s 4 : Int) := by rw [hz]
  have q2 : (rdv s 4 : Int) ≤ 2000 := by omega
  clear hcode hsum ht he h4 h1 h2 h8 hs hz
  generalize rdv s 4 = n at *
  generalize bodyOf s = b at *
  go_enter Tryz.func105, Tryz.ntmps105
  go_wp2_with fail
  refine c1.mono ?_
  rintro e w1 ⟨rfl, hb1⟩
  go_wp2_with fail
  go_ret3
  exact ⟨by rw [EU.out]; go_num, hb1⟩
 ·have c1 := body_bad s 0 w (by omega) hs ht a0 a1 a2 he (by rw [rest_zero]; exact hcode)
  rw [rest_zero, show ((0 : Nat) : Int) = 0 from rfl] at c1
  have EU : Hid (unf s = #[.string ⟨#[]⟩, .int .i64 0, .int .i64 (code s : Int)]) := by unfold Hid; rw [unf, if_neg hcode]
  clear ht he hs hcode
  simp only [badBody, wrapped] at c1
  generalize code s = k at *
  go_enter Tryz.func105, Tryz.ntmps105
  go_wp2_with fail
  refine c1.mono ?_
  rintro e w1 ⟨⟨p, a, rfl, ha⟩, hb1⟩
  have he1 := HE.out.on hb1
  rcases ha with ⟨rfl, rfl⟩ | ⟨rfl, ha⟩
  ·have c2 := code_short p a a1 a2 w1 he1
   simp only [wrapped] at c2
   clear he1
   go_wp2_with fail
   refine c2.mono ?_
   rintro e w2 ⟨rfl, hb2⟩
   go_wp2_with fail
   go_ret3
   exact ⟨by rw [EU.out]; rfl, hb1.trans (hb2.mono hb1.size)⟩
  ·have c2 := code_bad p a a0 a1 a2 w1 he1 ha
   simp only [wrapped] at c2
   clear he1 ha
   go_wp2_with fail
   refine c2.mono ?_
   rintro e w2 ⟨rfl, hb2⟩
   go_wp2_with fail
   go_ret3
   exact ⟨by rw [EU.out]; rfl, hb1.trans (hb2.mono hb1.size)⟩
set_option maxRecDepth 20000 in
set_option maxHeartbeats 1000000 in
theorem spec_unframe (s : ByteArray) (w : World) (hs : s.size ≤ 1048576) :
  Calls Tryz.prog 54 #[.string s] w fun e w' => e = .returned (.tuple (unf s)) ∧ Below w.heap.size w w' := by
 by_cases h4 : s.size < 4
 ·have c1 := spec_readFixed_no s 4 w (by unfold maxLen; omega) (by omega)
  have EU : Hid (unf s = #[.string ⟨#[]⟩, .int .i64 0, .int .i64 1]) := by
   have : code s = 1 := by rw [code, if_pos h4]
   unfold Hid; rw [unf, this]; rfl
  clear hs h4
  go_enter Tryz.func54, Tryz.ntmps54
  go_wp2_with fail
  refine c1.mono ?_
  rintro e w1 ⟨rfl, rfl⟩
  go_wp2_with fail
  go_ret3
  exact ⟨by rw [EU.out]; rfl, Below.refl _ _⟩
 have c1 := spec_readFixed s 4 w (by unfold maxLen; omega) (by omega) (by omega) (by omega)
 by_cases hl : rdv s 4 = 0 ∨ 2000 < rdv s 4
 ·have EU : Hid (unf s = #[.string ⟨#[]⟩, .int .i64 0, .int .i64 2]) := by
   have : code s = 2 := by rw [code, if_neg h4, if_pos hl]
   unfold Hid; rw [unf, this]; rfl
  clear hs h4
  generalize rdv s 4 = n at *
  rcases hl with rfl | hl
  ·go_enter Tryz.func54, Tryz.ntmps54
   go_wp2_with fail
   refine c1.mono ?_
   rintro e w1 ⟨rfl, rfl⟩
   go_wp2_with fail
   go_ret3
   exact ⟨by rw [EU.out]; rfl, Below.refl _ _⟩
  ·have q3 : (2000 : Int) < (n : Int) := by omega
   have q4 : ((n : Int) == 0) = false := by simp only [beq_eq_false_iff_ne, ne_eq]; omega
   have q5 : decide ((2000 : Int) < (n : Int)) = true := decide_eq_true q3
   have q6 : ¬ (n : Int) = 0 := by omega
   go_enter Tryz.func54, Tryz.ntmps54
   go_wp2_with fail
   refine c1.mono ?_
   rintro e w1 ⟨rfl, rfl⟩
   go_wp2_with fail
   go_ret3
   exact ⟨by rw [EU.out]; rfl, Below.refl _ _⟩
 by_cases h8 : s.size < 8 + rdv s 4
 ·have EU : Hid (unf s = #[.string ⟨#[]⟩, .int .i64 0, .int .i64 1]) := by
   have : code s = 1 := by rw [code, if_neg h4, if_neg hl, if_pos h8]
   unfold Hid; rw [unf, this]; rfl
  have q2 : (s.size : Int) ≤ 1048576 := by omega
  clear hs h4
  generalize rdv s 4 = n at *
  have q3 : (n : Int) ≤ 2000 := by omega
  have q4 : ((n : Int) == 0) = false := by simp only [beq_eq_false_iff_ne, ne_eq]; omega
  have q5 : decide ((2000 : Int) < (n : Int)) = false := decide_eq_false (by omega)
  have q6 : ¬ (n : Int) = 0 := by omega
  have q7 : (s.size : Int) < 8 + (n : Int) := by omega
  clear hl
  go_enter Tryz.func54, Tryz.ntmps54
  go_wp2_with fail
  refine c1.mono ?_
  rintro e w1 ⟨rfl, rfl⟩
  go_wp2_with fail
  go_ret3
  exact ⟨by rw [EU.out]; rfl, Below.refl _ _⟩
 have hz := bodyOf_size s (by omega)
 have c2 := fun wx => spec_frame (bodyOf s) wx (by omega)
 have hfit := frame_fits s (by omega) (by omega) (by omega) (by omega)
 have hb0 : s.extract 8 (8 + rdv s 4) = bodyOf s := rfl
 have q2 : (s.size : Int) ≤ 1048576 := by omega
 by_cases hsum : sumOf (s.extract 0 4) (bodyOf s) = s.extract 4 8
 ·have EU : Hid (unf s = #[.string (bodyOf s), .int .i64 ((8 + rdv s 4 : Nat) : Int), .int .i64 0]) := by
   have : code s = 0 := by rw [code, if_neg h4, if_neg hl, if_neg h8, if_pos hsum]
   unfold Hid; rw [unf, if_pos this]
  have HF : Hid (frame (bodyOf s) = s.extract 0 (8 + rdv s 4)) := hfit.2 hsum
  clear hfit hsum hs h4 hz
  generalize bodyOf s = b at *
  generalize rdv s 4 = n at *
  have q3 : (n : Int) ≤ 2000 := by omega
  have q4 : ((n : Int) == 0) = false := by simp only [beq_eq_false_iff_ne, ne_eq]; omega
  have q5 : decide ((2000 : Int) < (n : Int)) = false := decide_eq_false (by omega)
  have q6 : ¬ (n : Int) = 0 := by omega
  have q7 : 8 + (n : Int) ≤ (s.size : Int) := by omega
  have hm : (8 + (n : Int)).toNat = 8 + n := by omega
  have q8 : (0 : Int) ≤ 8 + (n : Int) := by omega
  have w1 : IntKind.i64.wrap (8 + (n : Int)) = 8 + (n : Int) := by rw [IntKind.wrap_i64]; omega
  have w2 : wrap64 (8 + (n : Int)) = 8 + (n : Int) := by unfold wrap64; omega
  clear hl h8
  go_enter Tryz.func54, Tryz.ntmps54
  go_wp2_with fail
  refine c1.mono ?_
  rintro e w1 ⟨rfl, rfl⟩
  go_wp2_with fail
  go_region_with (go_at_call 87; refine (c2 _).mono ?_; rintro e w1 ⟨rfl, hb1⟩; rw [HF.out])
  all_goals go_wp2_with fail
  all_goals (go_ret3; exact ⟨by rw [EU.out]; go_num, (below_drew w).trans hb1⟩)
 ·have EU : Hid (unf s = #[.string ⟨#[]⟩, .int .i64 0, .int .i64 2]) := by
   have : code s = 2 := by rw [code, if_neg h4, if_neg hl, if_neg h8, if_neg hsum]
   unfold Hid; rw [unf, this]; rfl
  have e1 : ((frame (bodyOf s)).toList == (s.extract 0 (8 + rdv s 4)).toList) = false := by
   rw [beq_eq_false_iff_ne, Lib.toList_data, Lib.toList_data]
   intro h
   exact hsum (hfit.1 (ByteArray.ext (Array.toList_inj.1 h)))
  clear hfit hsum hs h4 hz
  generalize bodyOf s = b at *
  generalize rdv s 4 = n at *
  have q3 : (n : Int) ≤ 2000 := by omega
  have q4 : ((n : Int) == 0) = false := by simp only [beq_eq_false_iff_ne, ne_eq]; omega
  have q5 : decide ((2000 : Int) < (n : Int)) = false := decide_eq_false (by omega)
  have q6 : ¬ (n : Int) = 0 := by omega
  have q7 : 8 + (n : Int) ≤ (s.size : Int) := by omega
  have hm : (8 + (n : Int)).toNat = 8 + n := by omega
  have q8 : (0 : Int) ≤ 8 + (n : Int) := by omega
  have w1 : IntKind.i64.wrap (8 + (n : Int)) = 8 + (n : Int) := by rw [IntKind.wrap_i64]; omega
  have w2 : wrap64 (8 + (n : Int)) = 8 + (n : Int) := by unfold wrap64; omega
  clear hl h8
  go_enter Tryz.func54, Tryz.ntmps54
  go_wp2_with fail
  refine c1.mono ?_
  rintro e w1 ⟨rfl, rfl⟩
  go_wp2_with fail
  go_region_with (go_at_call 87; refine (c2 _).mono ?_; rintro e w1 ⟨rfl, hb1⟩)
  all_goals go_wp2_with fail
  all_goals (go_ret3; exact ⟨by rw [EU.out]; rfl, (below_drew w).trans hb1⟩)
end Go.Proofs.YtdimaoloapbeoaaGreatDoor
