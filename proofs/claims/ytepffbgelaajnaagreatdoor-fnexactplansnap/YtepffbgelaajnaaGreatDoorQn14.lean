/- SnShow PnDef ImFindA ImFind -/
import Derived.Test.YtepffbgelaajnaaGreatDoorRows
import Derived.Test.YtepffbgelaajnaaGreatDoorQn13
import Derived.Test.YtepffbgelaajnaaGreatDoorQn0
import Derived.Test.YtepffbgelaajnaaGreatDoorQn12
import Derived.Deep.RegionHeld3
import Derived.Handy
import Derived.Test.YtepffbgelaajnaaGreatDoorQn8
open List (setIfInBounds_toArray set_cons_zero set_cons_succ)
namespace Go.Proofs.YtepffbgelaajnaaGreatDoor
open Go.ChangeShapes Go.WideShapes Go.ChangeAt Go.RowKit Go.PlainAid
set_option linter.unusedVariables false
def isSn (x : Snp) : Bool := snapOk x && decide (x.index ≠ 0)
def headS (j t : Nat) (d : ByteArray) : ByteArray := four j ++ four t ++ four d.size ++ four (crc d)
def showSn (x : Snp) : ByteArray := if isSn x = true then frame (headS x.index.toNat x.term.toNat x.data) ++ x.data else ⟨#[]⟩
theorem isSn_in (x : Snp) (h : isSn x = true) : snapOk x = true ∧ x.index ≠ 0 ∧ (1 ≤ x.index ∧ x.index ≤ 100000) ∧ (1 ≤ x.term ∧ x.term ≤ 100000) ∧ x.data.size ≤ 30000 := by
 unfold isSn at h
 rw [Bool.and_eq_true] at h
 obtain ⟨h1, h2⟩ := h
 have h2 := of_decide_eq_true h2
 refine ⟨h1, h2, ?_⟩
 unfold snapOk inIt at h1
 rw [if_neg h2] at h1
 simpa [and_assoc] using h1
theorem isSn_zero (x : Snp) (h : isSn x = false) (ho : snapOk x = true) : x.index = 0 ∧ x.term = 0 ∧ x.data = ByteArray.empty := by
 unfold isSn at h
 rw [ho] at h
 have h0 : x.index = 0 := by simpa using h
 unfold snapOk at ho
 rw [if_pos h0] at ho
 simp at ho
 exact ⟨h0, ho⟩
theorem headS_size (j t : Nat) (d : ByteArray) : (headS j t d).size = 16 := by
 unfold headS
 simp only [ByteArray.size_append, four_size]
set_option maxHeartbeats 2000000 in
theorem isSnapV (x : Snp) (w : World) (hd : x.data.size ≤ maxLen) : Calls Tryz.prog 50 #[vSnp x] w fun e w' => e = .returned (.bool (isSn x)) ∧ Below w.heap.size w w' := by
 have c1 := fun wx => implSnapOk x wx hd
 have HE : Hid (isSn x = (snapOk x && decide (x.index ≠ 0))) := rfl
 have hb0 := below_one w (.cells #[.int .i64 x.index, .int .i64 x.term, .string x.data] 55)
 have k0 := Cell3.new w x 55
 unfold vSnp at *
 cases ho : snapOk x <;> rw [ho] at c1 HE
 ·clear ho
  go_enter Tryz.func50, Tryz.ntmps50
  go_wp2_with fail
  generalize w.alloc (.cells #[.int .i64 x.index, .int .i64 x.term, .string x.data] 55) = W at *
  refine (c1 _).mono ?_
  rintro e w1 ⟨rfl, hb1⟩
  have B1 : Hid (Below w.heap.size w w1) := hb0.trans (hb1.mono hb0.size)
  clear hb0 hb1 c1 k0
  go_wp2_with fail
  go_ret
  exact ⟨by rw [HE.out]; rfl, B1.out⟩
 ·by_cases hz : x.index = 0
  ·have hs := isSn_zero x (by rw [HE.out, decide_eq_false (by simpa using hz)]; rfl) ho
   obtain ⟨i, t, d⟩ := x
   obtain ⟨rfl, rfl, rfl⟩ := hs
   clear ho hz
   have hq : ByteArray.empty.toList = [] := by rw [Lib.toList_data]; rfl
   go_enter Tryz.func50, Tryz.ntmps50
   go_wp2_with fail
   generalize w.alloc (.cells #[.int .i64 0, .int .i64 0, .string ByteArray.empty] 55) = W at *
   refine (c1 _).mono ?_
   rintro e w1 ⟨rfl, hb1⟩
   have B1 : Hid (Below w.heap.size w w1) := hb0.trans (hb1.mono hb0.size)
   obtain ⟨e0, e1, e2, _⟩ := k0.on hb1 k0.2.2.2 (Nat.le_refl _)
   clear hb0 hb1 c1 k0
   go_wp2_with fail
   go_ret
   exact ⟨by rw [HE.out]; rfl, B1.out⟩
  ·have z : (x.index == 0) = false := by simpa using hz
   have HF : Hid (decide (x.index ≠ 0) = true) := decide_eq_true hz
   clear ho hz
   go_enter Tryz.func50, Tryz.ntmps50
   go_wp2_with fail
   generalize w.alloc (.cells #[.int .i64 x.index, .int .i64 x.term, .string x.data] 55) = W at *
   refine (c1 _).mono ?_
   rintro e w1 ⟨rfl, hb1⟩
   have B1 : Hid (Below w.heap.size w w1) := hb0.trans (hb1.mono hb0.size)
   obtain ⟨e0, e1, e2, _⟩ := k0.on hb1 k0.2.2.2 (Nat.le_refl _)
   clear hb0 hb1 c1 k0
   go_wp2_with fail
   go_ret
   exact ⟨by rw [HE.out, HF.out]; rfl, B1.out⟩
set_option maxHeartbeats 4000000 in
theorem implShowSnap (x : Snp) (w : World) (hd : x.data.size ≤ maxLen) (ht : SumTab w) : Calls Tryz.prog 51 #[vSnp x] w fun e w' => e = .returned (.string (showSn x)) ∧ Below w.heap.size w w' := by
 have c1 := fun wx => isSnapV x wx hd
 have hb0 := below_one w (.cells #[.int .i64 x.index, .int .i64 x.term, .string x.data] 55)
 have k0 := Cell3.new w x 55
 have HE : Hid (showSn x = if isSn x = true then frame (headS x.index.toNat x.term.toNat x.data) ++ x.data else ⟨#[]⟩) := rfl
 have HT : Hid (SumTab w) := ht
 clear ht
 unfold vSnp at *
 cases ho : isSn x <;> rw [ho] at HE
 ·rw [ho] at c1
  clear ho
  go_enter Tryz.func51, Tryz.ntmps51
  go_wp2_with fail
  generalize w.alloc (.cells #[.int .i64 x.index, .int .i64 x.term, .string x.data] 55) = W at *
  refine (c1 _).mono ?_
  rintro e w1 ⟨rfl, hb1⟩
  have B1 : Hid (Below w.heap.size w w1) := hb0.trans (hb1.mono hb0.size)
  obtain ⟨e0, e1, e2, _⟩ := k0.on hb1 k0.2.2.2 (Nat.le_refl _)
  clear hb0 hb1 c1 k0
  go_wp2_with fail
  go_ret
  exact ⟨by rw [HE.out]; rfl, B1.out⟩
 ·obtain ⟨hs, hz, ⟨i1, i2⟩, ⟨t1, t2⟩, d1⟩ := isSn_in x ho
  rw [ho] at c1
  obtain ⟨i, t, d⟩ := x
  simp only at *
  clear ho hs
  have HE : Hid (showSn ⟨i, t, d⟩ = frame (headS i.toNat t.toNat d) ++ d) := by unfold Hid; rw [HE.out]; rfl
  obtain ⟨jn, rfl⟩ : ∃ n : Nat, i = (n : Int) := ⟨i.toNat, by omega⟩
  obtain ⟨tn, rfl⟩ : ∃ n : Nat, t = (n : Int) := ⟨t.toNat, by omega⟩
  have z : ((jn : Int) == 0) = false := by simpa using hz
  rw [Int.toNat_natCast, Int.toNat_natCast] at HE
  have cF : ∀ (n : Nat) wx, n < 4294967296 → Calls Tryz.prog 90 #[.int .i64 (n : Int), .int .i64 4] wx fun e w' => e = .returned (.string (four n)) ∧ Below wx.heap.size wx w' := fun n wx hn => by
   have h := impl_fixed n 4 wx (by omega) (by omega) (by omega)
   rw [fixed_four n hn] at h
   exact h
  have cJ := fun wx => cF jn wx (by omega)
  have cT := fun wx => cF tn wx (by omega)
  have cN := fun wx => cF d.size wx (by omega)
  have cK := fun wx => cF (crc d) wx (crc_lt d)
  have cC := fun wx (h : SumTab wx) => impl_crc d wx (by omega) h
  have cR := fun wx (h : SumTab wx) => impl_frame (headS jn tn d) wx (by rw [headS_size]; omega) h
  have s5 : (frame (headS jn tn d)).size ≤ 24 := by
   unfold frame
   have := headS_size jn tn d
   rw [if_neg (by omega), frameOf_size]
   omega
  have HH : Hid (headS jn tn d = four jn ++ four tn ++ four d.size ++ four (crc d)) := rfl
  have HS : Hid (d.size ≤ 30000) := d1
  have s1 := four_size jn
  have s2 := four_size tn
  have s3 := four_size d.size
  have s4 := four_size (crc d)
  clear cF i1 i2 t1 t2 hz
  generalize four jn = a1 at *
  generalize four tn = a2 at *
  generalize four (crc d) = a4 at *
  generalize hcrc : crc d = cd at *
  generalize four d.size = a3 at *
  have g1 : ¬ 9223372036854775807 < a1.size + a2.size := by omega
  have g2 : ¬ 9223372036854775807 < (a1 ++ a2).size + a3.size := by rw [ByteArray.size_append]; omega
  have g2' : ¬ 9223372036854775807 < a1.size + a2.size + a3.size := by omega
  have g3 : ¬ 9223372036854775807 < (a1 ++ a2 ++ a3).size + a4.size := by rw [ByteArray.size_append, ByteArray.size_append]; omega
  have g3' : ¬ 9223372036854775807 < a1.size + a2.size + a3.size + a4.size := by omega
  generalize headS jn tn d = hh at *
  generalize frame hh = fr at *
  have g4 : ¬ 9223372036854775807 < fr.size + d.size := by omega
  have q0 : (d.size : Int) ≤ 9223372036854775807 := by omega
  go_enter Tryz.func51, Tryz.ntmps51
  go_wp2_with fail
  generalize w.alloc (.cells #[.int .i64 (jn : Int), .int .i64 (tn : Int), .string d] 55) = W at *
  refine (c1 _).mono ?_
  rintro e w1 ⟨rfl, hb1⟩
  have B1 : Hid (Below w.heap.size w w1) := hb0.trans (hb1.mono hb0.size)
  have K1 : Hid (Cell3 w1 w.heap.size ⟨(jn : Int), (tn : Int), d⟩) := k0.on hb1 k0.2.2.2 (Nat.le_refl _)
  clear hb0 hb1 c1 k0
  have S0 : Hid (w1.drew.cell? ⟨w.heap.size, 0, none⟩ = some (.int .i64 (jn : Int)) ∧ w1.drew.cell? ⟨w.heap.size, 1, none⟩ = some (.int .i64 (tn : Int)) ∧ w1.drew.cell? ⟨w.heap.size, 2, none⟩ = some (.string d)) := ⟨K1.out.1, K1.out.2.1, K1.out.2.2.1⟩
  have D0 : Hid (Below w.heap.size w w1.drew) := B1.out.drew
  have K0 : Hid (Cell3 w1.drew w.heap.size ⟨(jn : Int), (tn : Int), d⟩) := K1.out
  clear K1 B1
  go_wp2_with fail
  refine wp_region_until (fun w' => w'.cell? ⟨w.heap.size, 0, none⟩ = some (.int .i64 (jn : Int)) ∧ w'.cell? ⟨w.heap.size, 1, none⟩ = some (.int .i64 (tn : Int)) ∧ w'.cell? ⟨w.heap.size, 2, none⟩ = some (.string d)) (fun i => false) 18 (by rfl) (by kernel_rfl) ?_
  generalize w1.drew = raX at *
  refine until_take 0 (v := ?_) (by rfl) (by kernel_rfl) (by exact fun _ _ _ h => h) (by rfl) ?_ S0.out ?_
  rotate_left
  ·intro w hSw
   try dsimp only at hSw
   go_simp
   try with_reducible rfl
  try simp only [Act.put, setIfInBounds_toArray, set_cons_zero, set_cons_succ]
  refine until_take 1 (v := ?_) (by rfl) (by kernel_rfl) (by exact fun _ _ _ h => h) (by rfl) ?_ S0.out ?_
  rotate_left
  ·intro w hSw
   try dsimp only at hSw
   go_simp
   try with_reducible rfl
  try simp only [Act.put, setIfInBounds_toArray, set_cons_zero, set_cons_succ]
  refine until_take 3 (v := ?_) (by rfl) (by kernel_rfl) (by exact fun _ _ _ h => h) (by rfl) ?_ S0.out ?_
  rotate_left
  ·intro w hSw
   try dsimp only at hSw
   go_simp
   try with_reducible rfl
  try simp only [Act.put, setIfInBounds_toArray, set_cons_zero, set_cons_succ]
  refine until_take 4 (v := ?_) (by rfl) (by kernel_rfl) (by exact fun _ _ _ h => h) (by rfl) ?_ S0.out ?_
  rotate_left
  ·intro w hSw
   try dsimp only at hSw
   go_simp
   try with_reducible rfl
  try simp only [Act.put, setIfInBounds_toArray, set_cons_zero, set_cons_succ]
  refine until_take 7 (v := ?_) (by rfl) (by kernel_rfl) (by exact fun _ _ _ h => h) (by rfl) ?_ S0.out ?_
  rotate_left
  ·intro w hSw
   try dsimp only at hSw
   go_simp
   try with_reducible rfl
  try simp only [Act.put, setIfInBounds_toArray, set_cons_zero, set_cons_succ]
  refine until_take 8 (v := ?_) (by rfl) (by kernel_rfl) (by exact fun _ _ _ h => h) (by rfl) ?_ S0.out ?_
  rotate_left
  ·intro w hSw
   try dsimp only at hSw
   go_simp
   try with_reducible rfl
  try simp only [Act.put, setIfInBounds_toArray, set_cons_zero, set_cons_succ]
  refine until_pure 9 (v := ?_) (by rfl) (by kernel_rfl) (by exact fun _ _ _ h => h) (by rfl) ?_ ?_
  rotate_left
  ·intro w
   go_simp
   try with_reducible rfl
  try simp only [Act.put, setIfInBounds_toArray, set_cons_zero, set_cons_succ]
  refine until_take 12 (v := ?_) (by rfl) (by kernel_rfl) (by exact fun _ _ _ h => h) (by rfl) ?_ S0.out ?_
  rotate_left
  ·intro w hSw
   try dsimp only at hSw
   go_simp
   try with_reducible rfl
  try simp only [Act.put, setIfInBounds_toArray, set_cons_zero, set_cons_succ]
  refine until_take 13 (v := ?_) (by rfl) (by kernel_rfl) (by exact fun _ _ _ h => h) (by rfl) ?_ S0.out ?_
  rotate_left
  ·intro w hSw
   try dsimp only at hSw
   go_simp
   try with_reducible rfl
  try simp only [Act.put, setIfInBounds_toArray, set_cons_zero, set_cons_succ]
  refine until_one 2 (by rfl) (by kernel_rfl) (fun K hK => ?_)
  go_simp
  refine (cJ _).mono ?_
  rintro e ra1 ⟨rfl, hb1⟩
  have Kra1 : Hid (Cell3 ra1 w.heap.size ⟨(jn : Int), (tn : Int), d⟩) := K0.out.on hb1 K0.out.2.2.2 (Nat.le_refl _)
  have Dra1 : Hid (Below w.heap.size w ra1) := D0.out.trans (hb1.mono D0.out.size)
  clear hb1 K0 D0
  go_wp2_with fail
  refine hK.out _ _ (fun _ _ => ⟨Kra1.out.1, Kra1.out.2.1, Kra1.out.2.2.1⟩) ?_
  clear hK K
  try simp only [Act.put, setIfInBounds_toArray, set_cons_zero, set_cons_succ]
  refine until_one 5 (by rfl) (by kernel_rfl) (fun K hK => ?_)
  go_simp
  refine (cT _).mono ?_
  rintro e ra2 ⟨rfl, hb2⟩
  have Kra2 : Hid (Cell3 ra2 w.heap.size ⟨(jn : Int), (tn : Int), d⟩) := Kra1.out.on hb2 Kra1.out.2.2.2 (Nat.le_refl _)
  have Dra2 : Hid (Below w.heap.size w ra2) := Dra1.out.trans (hb2.mono Dra1.out.size)
  clear hb2 Kra1 Dra1
  go_wp2_with fail
  refine hK.out _ _ (fun _ _ => ⟨Kra2.out.1, Kra2.out.2.1, Kra2.out.2.2.1⟩) ?_
  clear hK K
  try simp only [Act.put, setIfInBounds_toArray, set_cons_zero, set_cons_succ]
  refine until_pure 6 (v := ?_) (by rfl) (by kernel_rfl) (by exact fun _ _ _ h => h) (by rfl) ?_ ?_
  rotate_left
  ·intro w
   go_simp
   try with_reducible rfl
  try simp only [Act.put, setIfInBounds_toArray, set_cons_zero, set_cons_succ]
  refine until_one 10 (by rfl) (by kernel_rfl) (fun K hK => ?_)
  go_simp
  refine (cN _).mono ?_
  rintro e ra3 ⟨rfl, hb3⟩
  have Kra3 : Hid (Cell3 ra3 w.heap.size ⟨(jn : Int), (tn : Int), d⟩) := Kra2.out.on hb3 Kra2.out.2.2.2 (Nat.le_refl _)
  have Dra3 : Hid (Below w.heap.size w ra3) := Dra2.out.trans (hb3.mono Dra2.out.size)
  clear hb3 Kra2 Dra2
  go_wp2_with fail
  refine hK.out _ _ (fun _ _ => ⟨Kra3.out.1, Kra3.out.2.1, Kra3.out.2.2.1⟩) ?_
  clear hK K
  try simp only [Act.put, setIfInBounds_toArray, set_cons_zero, set_cons_succ]
  refine until_pure 11 (v := ?_) (by rfl) (by kernel_rfl) (by exact fun _ _ _ h => h) (by rfl) ?_ ?_
  rotate_left
  ·intro w
   go_simp
   try with_reducible rfl
  try simp only [Act.put, setIfInBounds_toArray, set_cons_zero, set_cons_succ]
  refine until_one 14 (by rfl) (by kernel_rfl) (fun K hK => ?_)
  go_simp
  refine (cC _ (HT.out.on Dra3.out)).mono ?_
  rintro e ra4 ⟨rfl, rfl⟩
  go_wp2_with fail
  refine hK.out _ _ (fun _ h => h) ?_
  clear hK K
  try simp only [Act.put, setIfInBounds_toArray, set_cons_zero, set_cons_succ]
  refine until_one 15 (by rfl) (by kernel_rfl) (fun K hK => ?_)
  go_simp
  refine (cK _).mono ?_
  rintro e ra5 ⟨rfl, hb5⟩
  have Kra5 : Hid (Cell3 ra5 w.heap.size ⟨(jn : Int), (tn : Int), d⟩) := Kra3.out.on hb5 Kra3.out.2.2.2 (Nat.le_refl _)
  have Dra5 : Hid (Below w.heap.size w ra5) := Dra3.out.trans (hb5.mono Dra3.out.size)
  clear hb5 Kra3 Dra3
  go_wp2_with fail
  refine hK.out _ _ (fun _ _ => ⟨Kra5.out.1, Kra5.out.2.1, Kra5.out.2.2.1⟩) ?_
  clear hK K
  try simp only [Act.put, setIfInBounds_toArray, set_cons_zero, set_cons_succ]
  refine until_pure 16 (v := ?_) (by rfl) (by kernel_rfl) (by exact fun _ _ _ h => h) (by rfl) ?_ ?_
  rotate_left
  ·intro w
   go_simp
   try with_reducible rfl
  try simp only [Act.put, setIfInBounds_toArray, set_cons_zero, set_cons_succ]
  refine until_pure 17 (v := ?_) (by rfl) (by kernel_rfl) (by exact fun _ _ _ h => h) (by rfl) ?_ ?_
  rotate_left
  ·intro w
   go_simp
   try with_reducible rfl
  try simp only [Act.put, setIfInBounds_toArray, set_cons_zero, set_cons_succ]
  refine until_done (by kernel_rfl) ?_ _
  clear S0
  rw [← HH.out]
  have S0 : Hid (ra5.drew.cell? ⟨w.heap.size, 0, none⟩ = some (.int .i64 (jn : Int)) ∧ ra5.drew.cell? ⟨w.heap.size, 1, none⟩ = some (.int .i64 (tn : Int)) ∧ ra5.drew.cell? ⟨w.heap.size, 2, none⟩ = some (.string d)) := ⟨Kra5.out.1, Kra5.out.2.1, Kra5.out.2.2.1⟩
  have D0 : Hid (Below w.heap.size w ra5.drew) := Dra5.out.drew
  have K0 : Hid (Cell3 ra5.drew w.heap.size ⟨(jn : Int), (tn : Int), d⟩) := Kra5.out
  clear Kra5 Dra5
  go_wp2_with fail
  refine wp_region_until (fun w' => w'.cell? ⟨w.heap.size, 0, none⟩ = some (.int .i64 (jn : Int)) ∧ w'.cell? ⟨w.heap.size, 1, none⟩ = some (.int .i64 (tn : Int)) ∧ w'.cell? ⟨w.heap.size, 2, none⟩ = some (.string d)) (fun i => false) 6 (by rfl) (by kernel_rfl) ?_
  generalize ra5.drew = rbX at *
  refine until_pure 0 (v := ?_) (by rfl) (by kernel_rfl) (by exact fun _ _ _ h => h) (by rfl) ?_ ?_
  rotate_left
  ·intro w
   go_simp
   try with_reducible rfl
  try simp only [Act.put, setIfInBounds_toArray, set_cons_zero, set_cons_succ]
  refine until_take 2 (v := ?_) (by rfl) (by kernel_rfl) (by exact fun _ _ _ h => h) (by rfl) ?_ S0.out ?_
  rotate_left
  ·intro w hSw
   try dsimp only at hSw
   go_simp
   try with_reducible rfl
  try simp only [Act.put, setIfInBounds_toArray, set_cons_zero, set_cons_succ]
  refine until_take 3 (v := ?_) (by rfl) (by kernel_rfl) (by exact fun _ _ _ h => h) (by rfl) ?_ S0.out ?_
  rotate_left
  ·intro w hSw
   try dsimp only at hSw
   go_simp
   try with_reducible rfl
  try simp only [Act.put, setIfInBounds_toArray, set_cons_zero, set_cons_succ]
  refine until_one 1 (by rfl) (by kernel_rfl) (fun K hK => ?_)
  go_simp
  refine (cR _ (HT.out.on D0.out)).mono ?_
  rintro e rb1 ⟨rfl, hb1⟩
  have Krb1 : Hid (Cell3 rb1 w.heap.size ⟨(jn : Int), (tn : Int), d⟩) := K0.out.on hb1 K0.out.2.2.2 (Nat.le_refl _)
  have Drb1 : Hid (Below w.heap.size w rb1) := D0.out.trans (hb1.mono D0.out.size)
  clear hb1 K0 D0
  go_wp2_with fail
  refine hK.out _ _ (fun _ _ => ⟨Krb1.out.1, Krb1.out.2.1, Krb1.out.2.2.1⟩) ?_
  clear hK K
  try simp only [Act.put, setIfInBounds_toArray, set_cons_zero, set_cons_succ]
  refine until_pure 4 (v := ?_) (by rfl) (by kernel_rfl) (by exact fun _ _ _ h => h) (by rfl) ?_ ?_
  rotate_left
  ·intro w
   go_simp
   try with_reducible rfl
  try simp only [Act.put, setIfInBounds_toArray, set_cons_zero, set_cons_succ]
  refine until_pure 5 (v := ?_) (by rfl) (by kernel_rfl) (by exact fun _ _ _ h => h) (by rfl) ?_ ?_
  rotate_left
  ·intro w
   go_simp
   try with_reducible rfl
  try simp only [Act.put, setIfInBounds_toArray, set_cons_zero, set_cons_succ]
  refine until_done (by kernel_rfl) ?_ _
  clear S0
  go_wp2_with fail
  go_ret
  exact ⟨by rw [HE.out]; rfl, Drb1.out⟩
set_option maxHeartbeats 4000000 in
theorem specShowSnap (x : Snp) (w : World) (hd : x.data.size ≤ maxLen) : Calls Tryz.prog 49 #[vSnp x] w fun e w' => e = .returned (.string (showSn x)) ∧ Below w.heap.size w w' := by
 have c1 := fun wx => specSnapOk x wx hd
 have hb0 := below_one w (.cells #[.int .i64 x.index, .int .i64 x.term, .string x.data] 55)
 have k0 := Cell3.new w x 55
 have HE : Hid (showSn x = if isSn x = true then frame (headS x.index.toNat x.term.toNat x.data) ++ x.data else ⟨#[]⟩) := rfl
 unfold vSnp at *
 cases ho : isSn x <;> rw [ho] at HE
 ·cases hs : snapOk x
  ·rw [hs] at c1
   clear ho hs
   go_enter Tryz.func49, Tryz.ntmps49
   go_wp2_with fail
   generalize w.alloc (.cells #[.int .i64 x.index, .int .i64 x.term, .string x.data] 55) = W at *
   refine (c1 _).mono ?_
   rintro e w1 ⟨rfl, hb1⟩
   have B1 : Hid (Below w.heap.size w w1) := hb0.trans (hb1.mono hb0.size)
   obtain ⟨e0, e1, e2, _⟩ := k0.on hb1 k0.2.2.2 (Nat.le_refl _)
   clear hb0 hb1 c1 k0
   go_wp2_with fail
   go_ret
   exact ⟨by rw [HE.out]; rfl, B1.out⟩
  ·have hz := (isSn_zero x ho hs).1
   rw [hs] at c1
   rw [hz] at c1 hb0 k0 ⊢
   have hz0 : x.index = 0 := hz
   clear ho hs hz
   go_enter Tryz.func49, Tryz.ntmps49
   go_wp2_with fail
   generalize w.alloc (.cells #[.int .i64 0, .int .i64 x.term, .string x.data] 55) = W at *
   refine (c1 _).mono ?_
   rintro e w1 ⟨rfl, hb1⟩
   have B1 : Hid (Below w.heap.size w w1) := hb0.trans (hb1.mono hb0.size)
   obtain ⟨e0, e1, e2, _⟩ := k0.on hb1 k0.2.2.2 (Nat.le_refl _)
   rw [hz0] at e0
   clear hz0
   clear hb0 hb1 c1 k0
   go_wp2_with fail
   go_ret
   exact ⟨by rw [HE.out]; rfl, B1.out⟩
 ·obtain ⟨hs, hz, ⟨i1, i2⟩, ⟨t1, t2⟩, d1⟩ := isSn_in x ho
  rw [hs] at c1
  obtain ⟨i, t, d⟩ := x
  simp only at *
  clear ho hs
  have HE : Hid (showSn ⟨i, t, d⟩ = frame (headS i.toNat t.toNat d) ++ d) := by unfold Hid; rw [HE.out]; rfl
  obtain ⟨jn, rfl⟩ : ∃ n : Nat, i = (n : Int) := ⟨i.toNat, by omega⟩
  obtain ⟨tn, rfl⟩ : ∃ n : Nat, t = (n : Int) := ⟨t.toNat, by omega⟩
  have z : ((jn : Int) == 0) = false := by simpa using hz
  rw [Int.toNat_natCast, Int.toNat_natCast] at HE
  have cF : ∀ (n : Nat) wx, n < 4294967296 → Calls Tryz.prog 87 #[.int .i64 (n : Int), .int .i64 4] wx fun e w' => e = .returned (.string (four n)) ∧ Below wx.heap.size wx w' := fun n wx hn => by
   have h := spec_fixed n 4 wx (by omega) (by omega) (by omega)
   rw [fixed_four n hn] at h
   exact h
  have cJ := fun wx => cF jn wx (by omega)
  have cT := fun wx => cF tn wx (by omega)
  have cN := fun wx => cF d.size wx (by omega)
  have cK := fun wx => cF (crc d) wx (crc_lt d)
  have cC := fun wx => spec_crc d wx (by omega)
  have cR := fun wx => spec_frame (headS jn tn d) wx (by rw [headS_size]; omega)
  have s5 : (frame (headS jn tn d)).size ≤ 24 := by
   unfold frame
   have := headS_size jn tn d
   rw [if_neg (by omega), frameOf_size]
   omega
  have HH : Hid (headS jn tn d = four jn ++ four tn ++ four d.size ++ four (crc d)) := rfl
  have HS : Hid (d.size ≤ 30000) := d1
  have s1 := four_size jn
  have s2 := four_size tn
  have s3 := four_size d.size
  have s4 := four_size (crc d)
  clear cF i1 i2 t1 t2 hz
  generalize four jn = a1 at *
  generalize four tn = a2 at *
  generalize four (crc d) = a4 at *
  generalize hcrc : crc d = cd at *
  generalize four d.size = a3 at *
  have g1 : ¬ 9223372036854775807 < a1.size + a2.size := by omega
  have g2 : ¬ 9223372036854775807 < (a1 ++ a2).size + a3.size := by rw [ByteArray.size_append]; omega
  have g2' : ¬ 9223372036854775807 < a1.size + a2.size + a3.size := by omega
  have g3 : ¬ 9223372036854775807 < (a1 ++ a2 ++ a3).size + a4.size := by rw [ByteArray.size_append, ByteArray.size_append]; omega
  have g3' : ¬ 9223372036854775807 < a1.size + a2.size + a3.size + a4.size := by omega
  generalize headS jn tn d = hh at *
  generalize frame hh = fr at *
  have g4 : ¬ 9223372036854775807 < fr.size + d.size := by omega
  have q0 : (d.size : Int) ≤ 9223372036854775807 := by omega
  go_enter Tryz.func49, Tryz.ntmps49
  go_wp2_with fail
  generalize w.alloc (.cells #[.int .i64 (jn : Int), .int .i64 (tn : Int), .string d] 55) = W at *
  refine (c1 _).mono ?_
  rintro e w1 ⟨rfl, hb1⟩
  have B1 : Hid (Below w.heap.size w w1) := hb0.trans (hb1.mono hb0.size)
  have K1 : Hid (Cell3 w1 w.heap.size ⟨(jn : Int), (tn : Int), d⟩) := k0.on hb1 k0.2.2.2 (Nat.le_refl _)
  clear hb0 hb1 c1 k0
  have e0 := K1.out.1
  have S0 : Hid (w1.drew.cell? ⟨w.heap.size, 0, none⟩ = some (.int .i64 (jn : Int)) ∧ w1.drew.cell? ⟨w.heap.size, 1, none⟩ = some (.int .i64 (tn : Int)) ∧ w1.drew.cell? ⟨w.heap.size, 2, none⟩ = some (.string d)) := ⟨K1.out.1, K1.out.2.1, K1.out.2.2.1⟩
  have D0 : Hid (Below w.heap.size w w1.drew) := B1.out.drew
  have K0 : Hid (Cell3 w1.drew w.heap.size ⟨(jn : Int), (tn : Int), d⟩) := K1.out
  clear K1 B1
  go_wp2_with fail
  refine wp_region_until (fun w' => w'.cell? ⟨w.heap.size, 0, none⟩ = some (.int .i64 (jn : Int)) ∧ w'.cell? ⟨w.heap.size, 1, none⟩ = some (.int .i64 (tn : Int)) ∧ w'.cell? ⟨w.heap.size, 2, none⟩ = some (.string d)) (fun i => false) 22 (by rfl) (by kernel_rfl) ?_
  generalize w1.drew = raX at *
  refine until_take 0 (v := ?_) (by rfl) (by kernel_rfl) (by exact fun _ _ _ h => h) (by rfl) ?_ S0.out ?_
  rotate_left
  ·intro w hSw
   try dsimp only at hSw
   go_simp
   try with_reducible rfl
  try simp only [Act.put, setIfInBounds_toArray, set_cons_zero, set_cons_succ]
  refine until_take 1 (v := ?_) (by rfl) (by kernel_rfl) (by exact fun _ _ _ h => h) (by rfl) ?_ S0.out ?_
  rotate_left
  ·intro w hSw
   try dsimp only at hSw
   go_simp
   try with_reducible rfl
  try simp only [Act.put, setIfInBounds_toArray, set_cons_zero, set_cons_succ]
  refine until_take 3 (v := ?_) (by rfl) (by kernel_rfl) (by exact fun _ _ _ h => h) (by rfl) ?_ S0.out ?_
  rotate_left
  ·intro w hSw
   try dsimp only at hSw
   go_simp
   try with_reducible rfl
  try simp only [Act.put, setIfInBounds_toArray, set_cons_zero, set_cons_succ]
  refine until_take 4 (v := ?_) (by rfl) (by kernel_rfl) (by exact fun _ _ _ h => h) (by rfl) ?_ S0.out ?_
  rotate_left
  ·intro w hSw
   try dsimp only at hSw
   go_simp
   try with_reducible rfl
  try simp only [Act.put, setIfInBounds_toArray, set_cons_zero, set_cons_succ]
  refine until_take 7 (v := ?_) (by rfl) (by kernel_rfl) (by exact fun _ _ _ h => h) (by rfl) ?_ S0.out ?_
  rotate_left
  ·intro w hSw
   try dsimp only at hSw
   go_simp
   try with_reducible rfl
  try simp only [Act.put, setIfInBounds_toArray, set_cons_zero, set_cons_succ]
  refine until_take 8 (v := ?_) (by rfl) (by kernel_rfl) (by exact fun _ _ _ h => h) (by rfl) ?_ S0.out ?_
  rotate_left
  ·intro w hSw
   try dsimp only at hSw
   go_simp
   try with_reducible rfl
  try simp only [Act.put, setIfInBounds_toArray, set_cons_zero, set_cons_succ]
  refine until_pure 9 (v := ?_) (by rfl) (by kernel_rfl) (by exact fun _ _ _ h => h) (by rfl) ?_ ?_
  rotate_left
  ·intro w
   go_simp
   try with_reducible rfl
  try simp only [Act.put, setIfInBounds_toArray, set_cons_zero, set_cons_succ]
  refine until_take 12 (v := ?_) (by rfl) (by kernel_rfl) (by exact fun _ _ _ h => h) (by rfl) ?_ S0.out ?_
  rotate_left
  ·intro w hSw
   try dsimp only at hSw
   go_simp
   try with_reducible rfl
  try simp only [Act.put, setIfInBounds_toArray, set_cons_zero, set_cons_succ]
  refine until_take 13 (v := ?_) (by rfl) (by kernel_rfl) (by exact fun _ _ _ h => h) (by rfl) ?_ S0.out ?_
  rotate_left
  ·intro w hSw
   try dsimp only at hSw
   go_simp
   try with_reducible rfl
  try simp only [Act.put, setIfInBounds_toArray, set_cons_zero, set_cons_succ]
  refine until_take 18 (v := ?_) (by rfl) (by kernel_rfl) (by exact fun _ _ _ h => h) (by rfl) ?_ S0.out ?_
  rotate_left
  ·intro w hSw
   try dsimp only at hSw
   go_simp
   try with_reducible rfl
  try simp only [Act.put, setIfInBounds_toArray, set_cons_zero, set_cons_succ]
  refine until_take 19 (v := ?_) (by rfl) (by kernel_rfl) (by exact fun _ _ _ h => h) (by rfl) ?_ S0.out ?_
  rotate_left
  ·intro w hSw
   try dsimp only at hSw
   go_simp
   try with_reducible rfl
  try simp only [Act.put, setIfInBounds_toArray, set_cons_zero, set_cons_succ]
  refine until_one 2 (by rfl) (by kernel_rfl) (fun K hK => ?_)
  go_simp
  refine (cJ _).mono ?_
  rintro e ra1 ⟨rfl, hb1⟩
  have Kra1 : Hid (Cell3 ra1 w.heap.size ⟨(jn : Int), (tn : Int), d⟩) := K0.out.on hb1 K0.out.2.2.2 (Nat.le_refl _)
  have Dra1 : Hid (Below w.heap.size w ra1) := D0.out.trans (hb1.mono D0.out.size)
  clear hb1 K0 D0
  go_wp2_with fail
  refine hK.out _ _ (fun _ _ => ⟨Kra1.out.1, Kra1.out.2.1, Kra1.out.2.2.1⟩) ?_
  clear hK K
  try simp only [Act.put, setIfInBounds_toArray, set_cons_zero, set_cons_succ]
  refine until_one 5 (by rfl) (by kernel_rfl) (fun K hK => ?_)
  go_simp
  refine (cT _).mono ?_
  rintro e ra2 ⟨rfl, hb2⟩
  have Kra2 : Hid (Cell3 ra2 w.heap.size ⟨(jn : Int), (tn : Int), d⟩) := Kra1.out.on hb2 Kra1.out.2.2.2 (Nat.le_refl _)
  have Dra2 : Hid (Below w.heap.size w ra2) := Dra1.out.trans (hb2.mono Dra1.out.size)
  clear hb2 Kra1 Dra1
  go_wp2_with fail
  refine hK.out _ _ (fun _ _ => ⟨Kra2.out.1, Kra2.out.2.1, Kra2.out.2.2.1⟩) ?_
  clear hK K
  try simp only [Act.put, setIfInBounds_toArray, set_cons_zero, set_cons_succ]
  refine until_pure 6 (v := ?_) (by rfl) (by kernel_rfl) (by exact fun _ _ _ h => h) (by rfl) ?_ ?_
  rotate_left
  ·intro w
   go_simp
   try with_reducible rfl
  try simp only [Act.put, setIfInBounds_toArray, set_cons_zero, set_cons_succ]
  refine until_one 10 (by rfl) (by kernel_rfl) (fun K hK => ?_)
  go_simp
  refine (cN _).mono ?_
  rintro e ra3 ⟨rfl, hb3⟩
  have Kra3 : Hid (Cell3 ra3 w.heap.size ⟨(jn : Int), (tn : Int), d⟩) := Kra2.out.on hb3 Kra2.out.2.2.2 (Nat.le_refl _)
  have Dra3 : Hid (Below w.heap.size w ra3) := Dra2.out.trans (hb3.mono Dra2.out.size)
  clear hb3 Kra2 Dra2
  go_wp2_with fail
  refine hK.out _ _ (fun _ _ => ⟨Kra3.out.1, Kra3.out.2.1, Kra3.out.2.2.1⟩) ?_
  clear hK K
  try simp only [Act.put, setIfInBounds_toArray, set_cons_zero, set_cons_succ]
  refine until_pure 11 (v := ?_) (by rfl) (by kernel_rfl) (by exact fun _ _ _ h => h) (by rfl) ?_ ?_
  rotate_left
  ·intro w
   go_simp
   try with_reducible rfl
  try simp only [Act.put, setIfInBounds_toArray, set_cons_zero, set_cons_succ]
  refine until_one 14 (by rfl) (by kernel_rfl) (fun K hK => ?_)
  go_simp
  refine (cC _).mono ?_
  rintro e ra4 ⟨rfl, rfl⟩
  go_wp2_with fail
  refine hK.out _ _ (fun _ h => h) ?_
  clear hK K
  try simp only [Act.put, setIfInBounds_toArray, set_cons_zero, set_cons_succ]
  refine until_one 15 (by rfl) (by kernel_rfl) (fun K hK => ?_)
  go_simp
  refine (cK _).mono ?_
  rintro e ra5 ⟨rfl, hb5⟩
  have Kra5 : Hid (Cell3 ra5 w.heap.size ⟨(jn : Int), (tn : Int), d⟩) := Kra3.out.on hb5 Kra3.out.2.2.2 (Nat.le_refl _)
  have Dra5 : Hid (Below w.heap.size w ra5) := Dra3.out.trans (hb5.mono Dra3.out.size)
  clear hb5 Kra3 Dra3
  go_wp2_with fail
  refine hK.out _ _ (fun _ _ => ⟨Kra5.out.1, Kra5.out.2.1, Kra5.out.2.2.1⟩) ?_
  clear hK K
  try simp only [Act.put, setIfInBounds_toArray, set_cons_zero, set_cons_succ]
  refine until_pure 16 (v := ?_) (by rfl) (by kernel_rfl) (by exact fun _ _ _ h => h) (by rfl) ?_ ?_
  rotate_left
  ·intro w
   go_simp
   try with_reducible rfl
  try simp only [Act.put, setIfInBounds_toArray, set_cons_zero, set_cons_succ]
  refine until_one 17 (by rfl) (by kernel_rfl) (fun K hK => ?_)
  go_simp
  rw [← HH.out]
  refine (cR _).mono ?_
  rintro e ra6 ⟨rfl, hb6⟩
  have Kra6 : Hid (Cell3 ra6 w.heap.size ⟨(jn : Int), (tn : Int), d⟩) := Kra5.out.on hb6 Kra5.out.2.2.2 (Nat.le_refl _)
  have Dra6 : Hid (Below w.heap.size w ra6) := Dra5.out.trans (hb6.mono Dra5.out.size)
  clear hb6 Kra5 Dra5
  go_wp2_with fail
  refine hK.out _ _ (fun _ _ => ⟨Kra6.out.1, Kra6.out.2.1, Kra6.out.2.2.1⟩) ?_
  clear hK K
  try simp only [Act.put, setIfInBounds_toArray, set_cons_zero, set_cons_succ]
  refine until_pure 20 (v := ?_) (by rfl) (by kernel_rfl) (by exact fun _ _ _ h => h) (by rfl) ?_ ?_
  rotate_left
  ·intro w
   go_simp
   try with_reducible rfl
  try simp only [Act.put, setIfInBounds_toArray, set_cons_zero, set_cons_succ]
  refine until_pure 21 (v := ?_) (by rfl) (by kernel_rfl) (by exact fun _ _ _ h => h) (by rfl) ?_ ?_
  rotate_left
  ·intro w
   go_simp
   try with_reducible rfl
  try simp only [Act.put, setIfInBounds_toArray, set_cons_zero, set_cons_succ]
  refine until_done (by kernel_rfl) ?_ _
  clear S0
  go_wp2_with fail
  go_ret
  exact ⟨by rw [HE.out]; rfl, Dra6.out⟩
end Go.Proofs.YtepffbgelaajnaaGreatDoor
namespace Go.Proofs.YtepffbgelaajnaaGreatDoor
open Go.ChangeShapes Go.WideShapes Go.ChangeAt Go.RowKit Go.PlainAid
set_option linter.unusedVariables false
def snapN : ByteArray := ⟨#[115, 110, 97, 112]⟩
def psnapR (d : Dsk) (s : Snp) (x : Wl) : List Stp := if diskOk d = true ∧ isSn s = true ∧ walOk x = true then anewL d snapN (showSn s) ++ anewL d logN (walT x) else []
theorem psnapR_length (d : Dsk) (s : Snp) (x : Wl) : (psnapR d s x).length ≤ 12 := by
 unfold psnapR
 split
 ·have := anewL_length d snapN (showSn s)
  have := anewL_length d logN (walT x)
  rw [List.length_append]
  omega
 ·simp
theorem stp_one (l : List Stp) : ∀ r ∈ stpR l, ∀ y ∈ r, y.oneCell' = true := by
 intro r hr y hy
 simp [stpR] at hr
 obtain ⟨a, _, rfl⟩ := hr
 simp [stpC] at hy
 rcases hy with rfl | rfl | rfl | rfl <;> rfl
end Go.Proofs.YtepffbgelaajnaaGreatDoor
namespace Go.Proofs.YtepffbgelaajnaaGreatDoor
open Go.RowKit Go.PlainAid
theorem apply_ids {l : List Lnk} {m : Mov} {r : List Lnk} (he : apply l m = some r) : ∀ x ∈ r, (∃ y ∈ l, y.id = x.id) ∨ (m.kind = 1 ∧ x.id = m.id) := by
 by_cases hn : nameOk m.name = false
 ·rw [apply_bad hn] at he; cases he
 ·have hn' : nameOk m.name = true := by simpa using hn
  rcases hat : linkAt l m.name with _ | j
  ·by_cases h1 : m.kind = 1 ∧ m.to.size = 0
   ·obtain ⟨k, n, t, i⟩ := m
    simp only at h1 hn' hat
    obtain ⟨rfl, h1⟩ := h1
    rw [apply_make hn' h1 hat] at he
    cases he
    intro x hx
    rcases ins_mem hx with rfl | hx
    ·exact .inr ⟨rfl, rfl⟩
    ·exact .inl ⟨x, (List.mem_filter.1 hx).1, rfl⟩
   ·rw [apply_none hat h1] at he; cases he
  ·by_cases h2 : m.kind = 2 ∧ m.id = 0 ∧ nameOk m.to = true ∧ m.to ≠ m.name
   ·obtain ⟨k, n, t, i⟩ := m
    simp only at h2 hn' hat
    obtain ⟨rfl, rfl, h2, h3⟩ := h2
    rw [apply_name hn' hat h2 h3] at he
    cases he
    intro x hx
    rcases ins_mem hx with rfl | hx
    ·exact .inl ⟨_, (linkAt_name hat).2, rfl⟩
    ·exact .inl ⟨x, (List.mem_filter.1 (List.mem_filter.1 hx).1).1, rfl⟩
   ·by_cases h3 : m.kind = 3 ∧ m.id = 0 ∧ m.to.size = 0
    ·obtain ⟨k, n, t, i⟩ := m
     simp only at h3 hn' hat
     obtain ⟨rfl, rfl, h3⟩ := h3
     rw [apply_drop hn' hat h3] at he
     cases he
     intro x hx
     exact .inl ⟨x, (List.mem_filter.1 hx).1, rfl⟩
    ·rw [apply_some hat h2 h3] at he; cases he
theorem apply_sorted {l : List Lnk} (h : Sorted l) {m : Mov} {r : List Lnk} (he : apply l m = some r) : Sorted r := by
 by_cases hn : nameOk m.name = false
 ·rw [apply_bad hn] at he; cases he
 ·have hn' : nameOk m.name = true := by simpa using hn
  rcases hat : linkAt l m.name with _ | j
  ·by_cases h1 : m.kind = 1 ∧ m.to.size = 0
   ·obtain ⟨k, n, t, i⟩ := m
    simp only at h1 hn' hat
    obtain ⟨rfl, h1⟩ := h1
    rw [apply_make hn' h1 hat] at he
    cases he
    exact h.withL _
   ·rw [apply_none hat h1] at he; cases he
  ·by_cases h2 : m.kind = 2 ∧ m.id = 0 ∧ nameOk m.to = true ∧ m.to ≠ m.name
   ·obtain ⟨k, n, t, i⟩ := m
    simp only at h2 hn' hat
    obtain ⟨rfl, rfl, h2, h3⟩ := h2
    rw [apply_name hn' hat h2 h3] at he
    cases he
    exact (h.without _).withL _
   ·by_cases h3 : m.kind = 3 ∧ m.id = 0 ∧ m.to.size = 0
    ·obtain ⟨k, n, t, i⟩ := m
     simp only at h3 hn' hat
     obtain ⟨rfl, rfl, h3⟩ := h3
     rw [apply_drop hn' hat h3] at he
     cases he
     exact h.without _
    ·rw [apply_some hat h2 h3] at he; cases he
structure Linked (d : Dsk) (l : List Lnk) : Prop where
 ok : NamesOk l
 sorted : Sorted l
 ids : ∀ x ∈ l, (nodAt d.nods x.id).isSome = true
theorem dir_linked {d : Dsk} (h : Whole d) : Linked d d.dir := by
 have hd := dir_of_whole (gs := d.nods.map fun _ => 0) (by simp) h
 refine ⟨NamesOk.of_dir hd, ?_, fun x hx => ?_⟩
 ·have := (dir_rising (Nat.le_refl _) (all_of hd)).1
  rw [List.take_length] at this
  exact this
 ·obtain ⟨k, hk, rfl⟩ := List.getElem_of_mem hx
  have hg := h.lnk k hk
  unfold lnkGood at hg
  simp only [Bool.and_eq_true] at hg
  rw [getD_at d.dir k hk]
  exact hg.1.2
theorem Linked.apply {d : Dsk} {l : List Lnk} (h : Linked d l) {m : Mov} {r : List Lnk} (he : apply l m = some r) (hm : m.kind = 1 → (nodAt d.nods m.id).isSome = true) : Linked d r :=
 ⟨h.ok.apply he, apply_sorted h.sorted he, fun x hx => by
  rcases apply_ids he x hx with ⟨y, hy, e⟩ | ⟨hk, e⟩
  ·rw [← e]; exact h.ids y hy
  ·rw [e]; exact hm hk⟩
theorem names_linked {d : Dsk} (hd : Whole d) (k : Nat) (hk : k ≤ d.movs.length) : Linked d (names d.dir (d.movs.take k)) := by
 induction k with
 | zero =>
  rw [List.take_zero]
  exact dir_linked hd
 | succ k ih =>
  have h1 := ih (by omega)
  rw [names_take d.dir d.movs k (by omega)]
  have hg := hd.mov k (by omega)
  unfold movGood at hg
  rw [Bool.and_eq_true] at hg
  cases e : apply (names d.dir (d.movs.take k)) (d.movs.getD k default) with
  | none =>
   rw [e] at hg
   cases hg.2
  | some r =>
   refine h1.apply e fun hk1 => ?_
   have := hg.1
   rw [decide_eq_true hk1] at this
   cases e2 : nodAt d.nods (d.movs.getD k default).id with
   | none => rw [e2] at this; cases this
   | some j => rfl
theorem now_linked {d : Dsk} (hd : Whole d) : Linked d (names d.dir d.movs) := by
 have := names_linked hd d.movs.length (Nat.le_refl _)
 rw [List.take_length] at this
 exact this
theorem nod_ids {d : Dsk} (hd : Whole d) : ∀ x ∈ d.nods, 1 ≤ x.id ∧ x.id ≤ 1000000 := fun x hx => by
 obtain ⟨k, hk, rfl⟩ := List.getElem_of_mem hx
 have hg := hd.nod k hk
 have hR := (sizeOk_iff d).1 hd.size
 unfold nodGood at hg
 simp only [Bool.and_eq_true, decide_eq_true_eq] at hg
 rw [getD_at d.nods k hk]
 have h1 := hg.1.1.1
 have h2 := hR.x1
 omega
theorem nodAt_at {ns : List Nod} {id : Int} {j : Nat} (h : nodAt ns id = some j) : j < ns.length ∧ (ns.getD j default).id = id := by
 unfold nodAt at h
 rw [List.findIdx?_eq_some_iff_getElem] at h
 obtain ⟨hi, hp, _⟩ := h
 rw [← getD_at ns j hi]
 exact ⟨hi, of_decide_eq_true hp⟩
theorem ptr_nod {ns : List Nod} {gs : List Nat} (hl : gs.length = ns.length) {id : Int} {j : Nat} (h : nodAt ns id = some j) : ptrAt (prs ns gs) id = some (gs.getD j 0) := by
 unfold nodAt at h
 rw [List.findIdx?_eq_some_iff_getElem] at h
 obtain ⟨hi, hp, hn⟩ := h
 have hf : (prs ns gs).find? (fun p => decide (p.1 = id)) = some (ns[j].id, gs[j]'(by omega)) := by
  unfold prs
  rw [List.find?_eq_some_iff_getElem]
  refine ⟨hp, j, by rw [List.length_zip, List.length_map]; omega, by rw [List.getElem_zip, List.getElem_map], fun i hij => ?_⟩
  rw [List.getElem_zip, List.getElem_map]
  simpa using hn i hij
 unfold ptrAt
 rw [hf, List.getD_eq_getElem?_getD, List.getElem?_eq_getElem (by omega)]
 rfl
end Go.Proofs.YtepffbgelaajnaaGreatDoor
namespace Go.Proofs.YtepffbgelaajnaaGreatDoor
open Go.ChangeShapes Go.WideShapes Go.ChangeAt Go.RowKit Go.PlainAid Go.Maps
set_option linter.unusedVariables false
theorem find_bad {d : Dsk} (hd : Whole d) {name : ByteArray} (h : nameOk name = false) : find d name = none := by
 unfold find
 rcases hat : linkAt (now d) name with _ | i
 ·rfl
 ·have := (now_linked hd).ok.at hat
  rw [h] at this
  cases this
theorem find_link {d : Dsk} (hd : Whole d) {name : ByteArray} {i : Nat} (h : linkAt (now d) name = some i) : ∃ j, nodAt d.nods ((now d).getD i default).id = some j ∧ find d name = some j ∧ j < d.nods.length := by
 have h1 : (nodAt d.nods ((names d.dir d.movs).getD i default).id).isSome = true := (now_linked hd).ids _ (linkAt_name h).2
 rcases e : nodAt d.nods ((now d).getD i default).id with _ | j
 ·rw [show nodAt d.nods ((names d.dir d.movs).getD i default).id = none from e] at h1
  cases h1
 ·exact ⟨j, rfl, by rw [find_yes h]; exact e, (nodAt_at e).1⟩
def FoundI (d : Dsk) (gs : List Nat) (name : ByteArray) (e : Ending) : Prop :=
 (nameOk name = false ∧ e = .returned (.tuple #[.pointer none, .int .i64 1])) ∨ (nameOk name = true ∧ find d name = none ∧ e = .returned (.tuple #[.pointer none, .int .i64 2])) ∨ (nameOk name = true ∧ ∃ j, find d name = some j ∧ j < d.nods.length ∧ e = .returned (.tuple #[.pointer (some ⟨gs.getD j 0, 0, none⟩), .int .i64 0]))
theorem FoundI.bad {d : Dsk} {gs : List Nat} {name : ByteArray} (h : nameOk name = false) : FoundI d gs name (.returned (.tuple #[.pointer none, .int .i64 1])) := .inl ⟨h, rfl⟩
theorem FoundI.no {d : Dsk} {gs : List Nat} {name : ByteArray} (h : nameOk name = true) (hf : find d name = none) : FoundI d gs name (.returned (.tuple #[.pointer none, .int .i64 2])) := .inr (.inl ⟨h, hf, rfl⟩)
theorem FoundI.yes {d : Dsk} {gs : List Nat} {name : ByteArray} (h : nameOk name = true) {j : Nat} (hf : find d name = some j) (hj : j < d.nods.length) {gj : Nat} (hg : gs.getD j 0 = gj) : FoundI d gs name (.returned (.tuple #[.pointer (some ⟨gj, 0, none⟩), .int .i64 0])) := .inr (.inr ⟨h, j, hf, hj, by rw [hg]⟩)
set_option maxHeartbeats 1000000 in
theorem findI (w : World) (base p : Nat) (d : Dsk) (bi bd bw : Nat) (gs : List Nat) (u : Value) (name : ByteArray) (h : OpenD w base p d bi bd bw gs u) (hd : Whole d) (hs : name.size ≤ maxLen) :
  Calls Tryz.prog 104 #[.pointer (some ⟨p, 0, none⟩), .string name] w fun e w' => w = w' ∧ FoundI d gs name e := by
 have c1 := isNameV name w (by unfold maxLen at hs; omega)
 cases hno : nameOk name with
 | false =>
  rw [hno] at c1
  have HNO : Hid (nameOk name = false) := hno
  clear h hno
  go_enter Tryz.func104, Tryz.ntmps104
  go_wp2_with fail
  refine c1.mono ?_
  rintro e w1 ⟨rfl, rfl⟩
  go_wp2_with fail
  go_ret2
  exact ⟨rfl, FoundI.bad HNO.out⟩
 | true =>
  rw [hno] at c1
  have HNO : Hid (nameOk name = true) := hno
  have y5 := h.blk.cell 5 _ rfl
  have y2 := h.blk.cell 2 _ rfl
  rcases hat : linkAt (now d) name with _ | i
  ·have HF : Hid (find d name = none) := find_no hat
   have r1 := (h.nw.look name hs).1 hat
   clear h hat hno
   go_enter Tryz.func104, Tryz.ntmps104
   go_wp2_with fail
   refine c1.mono ?_
   rintro e w1 ⟨rfl, rfl⟩
   go_wp2_with fail
   go_ret2
   exact ⟨rfl, FoundI.no HNO.out HF.out⟩
  ·obtain ⟨j, hj, hf, hjl⟩ := find_link hd hat
   have HF : Hid (find d name = some j ∧ j < d.nods.length) := ⟨hf, hjl⟩
   have r1 := (h.nw.look name hs).2 i hat
   have hio : IntOk ((now d).getD i default).id := by
    have h1 := nod_ids hd _ (getD_mem d.nods j hjl)
    rw [(nodAt_at hj).2] at h1
    exact ⟨by omega, by omega⟩
   have r2 := (h.it.val _ hio).2 _ (ptr_nod h.held.len hj)
   clear h hat hno hj hf hjl hio
   generalize ((now d).getD i default).id = li at *
   generalize hgj : gs.getD j 0 = gj at *
   have HGJ : Hid (gs.getD j 0 = gj) := hgj
   clear hgj
   go_enter Tryz.func104, Tryz.ntmps104
   go_wp2_with fail
   refine c1.mono ?_
   rintro e w1 ⟨rfl, rfl⟩
   go_wp2_with fail
   go_ret2
   exact ⟨rfl, FoundI.yes HNO.out HF.out.1 HF.out.2 HGJ.out⟩
end Go.Proofs.YtepffbgelaajnaaGreatDoor
