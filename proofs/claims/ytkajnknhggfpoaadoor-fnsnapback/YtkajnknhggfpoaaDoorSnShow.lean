/-
  Contracts of impl.isSnap, impl.ShowSnap and spec.ShowSnap: what they answer, at every snapshot.
-/
import Derived.Test.YtkajnknhggfpoaaDoorRows
import Derived.Test.YtkajnknhggfpoaaDoorSnOk
import Derived.Test.YtkajnknhggfpoaaDoorFrame
import Derived.Test.YtkajnknhggfpoaaDoorUntil
import Derived.Deep.RegionHeld3
import Derived.Handy
namespace Go.Proofs.YtkajnknhggfpoaaDoor
open Go.ChangeShapes Go.WideShapes Go.ChangeAt Go.RowKit Go.PlainAid
set_option linter.unusedVariables false

/-- A right snapshot that is not the zero one. -/
def isSn (x : Snp) : Bool := snapOk x && decide (x.index ≠ 0)
/-- The head of a snapshot's text. -/
def headS (j t : Nat) (d : ByteArray) : ByteArray := four j ++ four t ++ four d.size ++ four (crc d)
/-- A snapshot as a text. -/
def showSn (x : Snp) : ByteArray := if isSn x = true then frame (headS x.index.toNat x.term.toNat x.data) ++ x.data else ⟨#[]⟩
theorem isSn_in (x : Snp) (h : isSn x = true) : snapOk x = true ∧ x.index ≠ 0 ∧ (1 ≤ x.index ∧ x.index ≤ 100000) ∧ (1 ≤ x.term ∧ x.term ≤ 100000) ∧ x.data.size ≤ 30000 := by
  unfold isSn at h
  rw [Bool.and_eq_true] at h
  obtain ⟨h1, h2⟩ := h
  have h2 := of_decide_eq_true h2
  refine ⟨h1, h2, ?_⟩
  unfold snapOk inIt at h1
  rw [if_neg h2] at h1
  simpa [and_assoc] using h1
theorem isSn_zero (x : Snp) (h : isSn x = false) (ho : snapOk x = true) : x.index = 0 ∧ x.term = 0 ∧ x.data = ByteArray.empty := by
  unfold isSn at h
  rw [ho] at h
  have h0 : x.index = 0 := by simpa using h
  unfold snapOk at ho
  rw [if_pos h0] at ho
  simp at ho
  exact ⟨h0, ho⟩
theorem headS_size (j t : Nat) (d : ByteArray) : (headS j t d).size = 16 := by
  unfold headS
  simp only [ByteArray.size_append, four_size]
theorem empty_ne (d : ByteArray) : (d.toList != []) = !decide (d = ByteArray.empty) := by
  rw [← empty_eqs]
  rfl

set_option maxHeartbeats 2000000 in
theorem isSnapV (x : Snp) (w : World) (hd : x.data.size ≤ maxLen) : Calls Tryd.prog 28 #[vSnp x] w fun e w' => e = .returned (.bool (isSn x)) ∧ Below w.heap.size w w' := by
  have c1 := fun wx => implSnapOk x wx hd
  have HE : Hid (isSn x = (snapOk x && decide (x.index ≠ 0))) := rfl
  have hb0 := below_one w (.cells #[.int .i64 x.index, .int .i64 x.term, .string x.data] 25)
  have k0 := Cell3.new w x 25
  unfold vSnp at *
  cases ho : snapOk x <;> rw [ho] at c1 HE
  · clear ho
    go_enter Tryd.func28, Tryd.ntmps28
    go_wp2_with fail
    generalize w.alloc (.cells #[.int .i64 x.index, .int .i64 x.term, .string x.data] 25) = W at *
    refine (c1 _).mono ?_
    rintro e w1 ⟨rfl, hb1⟩
    have B1 : Hid (Below w.heap.size w w1) := hb0.trans (hb1.mono hb0.size)
    clear hb0 hb1 c1 k0
    go_wp2_with fail
    go_ret
    exact ⟨by rw [HE.out]; rfl, B1.out⟩
  · by_cases hz : x.index = 0
    · have hs := isSn_zero x (by rw [HE.out, decide_eq_false (by simpa using hz)]; rfl) ho
      obtain ⟨i, t, d⟩ := x
      obtain ⟨rfl, rfl, rfl⟩ := hs
      clear ho hz
      have hq : ByteArray.empty.toList = [] := by rw [Lib.toList_data]; rfl
      go_enter Tryd.func28, Tryd.ntmps28
      go_wp2_with fail
      generalize w.alloc (.cells #[.int .i64 0, .int .i64 0, .string ByteArray.empty] 25) = W at *
      refine (c1 _).mono ?_
      rintro e w1 ⟨rfl, hb1⟩
      have B1 : Hid (Below w.heap.size w w1) := hb0.trans (hb1.mono hb0.size)
      obtain ⟨e0, e1, e2, _⟩ := k0.on hb1 k0.2.2.2 (Nat.le_refl _)
      clear hb0 hb1 c1 k0
      go_wp2_with fail
      go_ret
      exact ⟨by rw [HE.out]; rfl, B1.out⟩
    · have z : (x.index == 0) = false := by simpa using hz
      have HF : Hid (decide (x.index ≠ 0) = true) := decide_eq_true hz
      clear ho hz
      go_enter Tryd.func28, Tryd.ntmps28
      go_wp2_with fail
      generalize w.alloc (.cells #[.int .i64 x.index, .int .i64 x.term, .string x.data] 25) = W at *
      refine (c1 _).mono ?_
      rintro e w1 ⟨rfl, hb1⟩
      have B1 : Hid (Below w.heap.size w w1) := hb0.trans (hb1.mono hb0.size)
      obtain ⟨e0, e1, e2, _⟩ := k0.on hb1 k0.2.2.2 (Nat.le_refl _)
      clear hb0 hb1 c1 k0
      go_wp2_with fail
      go_ret
      exact ⟨by rw [HE.out, HF.out]; rfl, B1.out⟩

set_option maxHeartbeats 4000000 in
theorem implShowSnap (x : Snp) (w : World) (hd : x.data.size ≤ maxLen) (ht : SumTab w) : Calls Tryd.prog 9 #[vSnp x] w fun e w' => e = .returned (.string (showSn x)) ∧ Below w.heap.size w w' := by
  have c1 := fun wx => isSnapV x wx hd
  have hb0 := below_one w (.cells #[.int .i64 x.index, .int .i64 x.term, .string x.data] 25)
  have k0 := Cell3.new w x 25
  have HE : Hid (showSn x = if isSn x = true then frame (headS x.index.toNat x.term.toNat x.data) ++ x.data else ⟨#[]⟩) := rfl
  have HT : Hid (SumTab w) := ht
  clear ht
  unfold vSnp at *
  cases ho : isSn x <;> rw [ho] at HE
  · rw [ho] at c1
    clear ho
    go_enter Tryd.func9, Tryd.ntmps9
    go_wp2_with fail
    generalize w.alloc (.cells #[.int .i64 x.index, .int .i64 x.term, .string x.data] 25) = W at *
    refine (c1 _).mono ?_
    rintro e w1 ⟨rfl, hb1⟩
    have B1 : Hid (Below w.heap.size w w1) := hb0.trans (hb1.mono hb0.size)
    obtain ⟨e0, e1, e2, _⟩ := k0.on hb1 k0.2.2.2 (Nat.le_refl _)
    clear hb0 hb1 c1 k0
    go_wp2_with fail
    go_ret
    exact ⟨by rw [HE.out]; rfl, B1.out⟩
  · obtain ⟨hs, hz, ⟨i1, i2⟩, ⟨t1, t2⟩, d1⟩ := isSn_in x ho
    rw [ho] at c1
    obtain ⟨i, t, d⟩ := x
    simp only at *
    clear ho hs
    have HE : Hid (showSn ⟨i, t, d⟩ = frame (headS i.toNat t.toNat d) ++ d) := by unfold Hid; rw [HE.out]; rfl
    obtain ⟨jn, rfl⟩ : ∃ n : Nat, i = (n : Int) := ⟨i.toNat, by omega⟩
    obtain ⟨tn, rfl⟩ : ∃ n : Nat, t = (n : Int) := ⟨t.toNat, by omega⟩
    have z : ((jn : Int) == 0) = false := by simpa using hz
    rw [Int.toNat_natCast, Int.toNat_natCast] at HE
    have cF : ∀ (n : Nat) wx, n < 4294967296 → Calls Tryd.prog 29 #[.int .i64 (n : Int), .int .i64 4] wx fun e w' => e = .returned (.string (four n)) ∧ Below wx.heap.size wx w' := fun n wx hn => by
      have h := impl_fixed n 4 wx (by omega) (by omega) (by omega)
      rw [fixed_four n hn] at h
      exact h
    have cJ := fun wx => cF jn wx (by omega)
    have cT := fun wx => cF tn wx (by omega)
    have cN := fun wx => cF d.size wx (by omega)
    have cK := fun wx => cF (crc d) wx (crc_lt d)
    have cC := fun wx (h : SumTab wx) => impl_crc d wx (by omega) h
    have cR := fun wx (h : SumTab wx) => impl_frame (headS jn tn d) wx (by rw [headS_size]; omega) h
    have s5 : (frame (headS jn tn d)).size ≤ 24 := by
      unfold frame
      have := headS_size jn tn d
      rw [if_neg (by omega), frameOf_size]
      omega
    have HH : Hid (headS jn tn d = four jn ++ four tn ++ four d.size ++ four (crc d)) := rfl
    have HS : Hid (d.size ≤ 30000) := d1
    have s1 := four_size jn
    have s2 := four_size tn
    have s3 := four_size d.size
    have s4 := four_size (crc d)
    clear cF i1 i2 t1 t2 hz
    generalize four jn = a1 at *
    generalize four tn = a2 at *
    generalize four (crc d) = a4 at *
    generalize hcrc : crc d = cd at *
    generalize four d.size = a3 at *
    have g1 : ¬ 9223372036854775807 < a1.size + a2.size := by omega
    have g2 : ¬ 9223372036854775807 < (a1 ++ a2).size + a3.size := by rw [ByteArray.size_append]; omega
    have g2' : ¬ 9223372036854775807 < a1.size + a2.size + a3.size := by omega
    have g3 : ¬ 9223372036854775807 < (a1 ++ a2 ++ a3).size + a4.size := by rw [ByteArray.size_append, ByteArray.size_append]; omega
    have g3' : ¬ 9223372036854775807 < a1.size + a2.size + a3.size + a4.size := by omega
    generalize headS jn tn d = hh at *
    generalize frame hh = fr at *
    have g4 : ¬ 9223372036854775807 < fr.size + d.size := by omega
    have q0 : (d.size : Int) ≤ 9223372036854775807 := by omega
    go_enter Tryd.func9, Tryd.ntmps9
    go_wp2_with fail
    generalize w.alloc (.cells #[.int .i64 (jn : Int), .int .i64 (tn : Int), .string d] 25) = W at *
    refine (c1 _).mono ?_
    rintro e w1 ⟨rfl, hb1⟩
    have B1 : Hid (Below w.heap.size w w1) := hb0.trans (hb1.mono hb0.size)
    have K1 : Hid (Cell3 w1 w.heap.size ⟨(jn : Int), (tn : Int), d⟩) := k0.on hb1 k0.2.2.2 (Nat.le_refl _)
    clear hb0 hb1 c1 k0
    have S0 : Hid (w1.drew.cell? ⟨w.heap.size, 0, none⟩ = some (.int .i64 (jn : Int)) ∧ w1.drew.cell? ⟨w.heap.size, 1, none⟩ = some (.int .i64 (tn : Int)) ∧ w1.drew.cell? ⟨w.heap.size, 2, none⟩ = some (.string d)) := ⟨K1.out.1, K1.out.2.1, K1.out.2.2.1⟩
    have D0 : Hid (Below w.heap.size w w1.drew) := B1.out.drew
    have K0 : Hid (Cell3 w1.drew w.heap.size ⟨(jn : Int), (tn : Int), d⟩) := K1.out
    clear K1 B1
    go_wp2_with fail
    refine wp_region_until (fun w' => w'.cell? ⟨w.heap.size, 0, none⟩ = some (.int .i64 (jn : Int)) ∧ w'.cell? ⟨w.heap.size, 1, none⟩ = some (.int .i64 (tn : Int)) ∧ w'.cell? ⟨w.heap.size, 2, none⟩ = some (.string d)) (fun i => false) 18 (by rfl) (by kernel_rfl) ?_
    generalize w1.drew = raX at *
    refine until_take 0 (v := ?_) (by rfl) (by kernel_rfl) (by exact fun _ _ _ h => h) (by rfl) ?_ S0.out ?_
    rotate_left
    · intro w hSw
      try dsimp only at hSw
      go_simp
      try with_reducible rfl
    try simp only [Act.put, List.setIfInBounds_toArray, List.set_cons_zero, List.set_cons_succ]
    refine until_take 1 (v := ?_) (by rfl) (by kernel_rfl) (by exact fun _ _ _ h => h) (by rfl) ?_ S0.out ?_
    rotate_left
    · intro w hSw
      try dsimp only at hSw
      go_simp
      try with_reducible rfl
    try simp only [Act.put, List.setIfInBounds_toArray, List.set_cons_zero, List.set_cons_succ]
    refine until_take 3 (v := ?_) (by rfl) (by kernel_rfl) (by exact fun _ _ _ h => h) (by rfl) ?_ S0.out ?_
    rotate_left
    · intro w hSw
      try dsimp only at hSw
      go_simp
      try with_reducible rfl
    try simp only [Act.put, List.setIfInBounds_toArray, List.set_cons_zero, List.set_cons_succ]
    refine until_take 4 (v := ?_) (by rfl) (by kernel_rfl) (by exact fun _ _ _ h => h) (by rfl) ?_ S0.out ?_
    rotate_left
    · intro w hSw
      try dsimp only at hSw
      go_simp
      try with_reducible rfl
    try simp only [Act.put, List.setIfInBounds_toArray, List.set_cons_zero, List.set_cons_succ]
    refine until_take 7 (v := ?_) (by rfl) (by kernel_rfl) (by exact fun _ _ _ h => h) (by rfl) ?_ S0.out ?_
    rotate_left
    · intro w hSw
      try dsimp only at hSw
      go_simp
      try with_reducible rfl
    try simp only [Act.put, List.setIfInBounds_toArray, List.set_cons_zero, List.set_cons_succ]
    refine until_take 8 (v := ?_) (by rfl) (by kernel_rfl) (by exact fun _ _ _ h => h) (by rfl) ?_ S0.out ?_
    rotate_left
    · intro w hSw
      try dsimp only at hSw
      go_simp
      try with_reducible rfl
    try simp only [Act.put, List.setIfInBounds_toArray, List.set_cons_zero, List.set_cons_succ]
    refine until_pure 9 (v := ?_) (by rfl) (by kernel_rfl) (by exact fun _ _ _ h => h) (by rfl) ?_ ?_
    rotate_left
    · intro w
      go_simp
      try with_reducible rfl
    try simp only [Act.put, List.setIfInBounds_toArray, List.set_cons_zero, List.set_cons_succ]
    refine until_take 12 (v := ?_) (by rfl) (by kernel_rfl) (by exact fun _ _ _ h => h) (by rfl) ?_ S0.out ?_
    rotate_left
    · intro w hSw
      try dsimp only at hSw
      go_simp
      try with_reducible rfl
    try simp only [Act.put, List.setIfInBounds_toArray, List.set_cons_zero, List.set_cons_succ]
    refine until_take 13 (v := ?_) (by rfl) (by kernel_rfl) (by exact fun _ _ _ h => h) (by rfl) ?_ S0.out ?_
    rotate_left
    · intro w hSw
      try dsimp only at hSw
      go_simp
      try with_reducible rfl
    try simp only [Act.put, List.setIfInBounds_toArray, List.set_cons_zero, List.set_cons_succ]
    refine until_one 2 (by rfl) (by kernel_rfl) (fun K hK => ?_)
    go_simp
    refine (cJ _).mono ?_
    rintro e ra1 ⟨rfl, hb1⟩
    have Kra1 : Hid (Cell3 ra1 w.heap.size ⟨(jn : Int), (tn : Int), d⟩) := K0.out.on hb1 K0.out.2.2.2 (Nat.le_refl _)
    have Dra1 : Hid (Below w.heap.size w ra1) := D0.out.trans (hb1.mono D0.out.size)
    clear hb1 K0 D0
    go_wp2_with fail
    refine hK.out _ _ (fun _ _ => ⟨Kra1.out.1, Kra1.out.2.1, Kra1.out.2.2.1⟩) ?_
    clear hK K
    try simp only [Act.put, List.setIfInBounds_toArray, List.set_cons_zero, List.set_cons_succ]
    refine until_one 5 (by rfl) (by kernel_rfl) (fun K hK => ?_)
    go_simp
    refine (cT _).mono ?_
    rintro e ra2 ⟨rfl, hb2⟩
    have Kra2 : Hid (Cell3 ra2 w.heap.size ⟨(jn : Int), (tn : Int), d⟩) := Kra1.out.on hb2 Kra1.out.2.2.2 (Nat.le_refl _)
    have Dra2 : Hid (Below w.heap.size w ra2) := Dra1.out.trans (hb2.mono Dra1.out.size)
    clear hb2 Kra1 Dra1
    go_wp2_with fail
    refine hK.out _ _ (fun _ _ => ⟨Kra2.out.1, Kra2.out.2.1, Kra2.out.2.2.1⟩) ?_
    clear hK K
    try simp only [Act.put, List.setIfInBounds_toArray, List.set_cons_zero, List.set_cons_succ]
    refine until_pure 6 (v := ?_) (by rfl) (by kernel_rfl) (by exact fun _ _ _ h => h) (by rfl) ?_ ?_
    rotate_left
    · intro w
      go_simp
      try with_reducible rfl
    try simp only [Act.put, List.setIfInBounds_toArray, List.set_cons_zero, List.set_cons_succ]
    refine until_one 10 (by rfl) (by kernel_rfl) (fun K hK => ?_)
    go_simp
    refine (cN _).mono ?_
    rintro e ra3 ⟨rfl, hb3⟩
    have Kra3 : Hid (Cell3 ra3 w.heap.size ⟨(jn : Int), (tn : Int), d⟩) := Kra2.out.on hb3 Kra2.out.2.2.2 (Nat.le_refl _)
    have Dra3 : Hid (Below w.heap.size w ra3) := Dra2.out.trans (hb3.mono Dra2.out.size)
    clear hb3 Kra2 Dra2
    go_wp2_with fail
    refine hK.out _ _ (fun _ _ => ⟨Kra3.out.1, Kra3.out.2.1, Kra3.out.2.2.1⟩) ?_
    clear hK K
    try simp only [Act.put, List.setIfInBounds_toArray, List.set_cons_zero, List.set_cons_succ]
    refine until_pure 11 (v := ?_) (by rfl) (by kernel_rfl) (by exact fun _ _ _ h => h) (by rfl) ?_ ?_
    rotate_left
    · intro w
      go_simp
      try with_reducible rfl
    try simp only [Act.put, List.setIfInBounds_toArray, List.set_cons_zero, List.set_cons_succ]
    refine until_one 14 (by rfl) (by kernel_rfl) (fun K hK => ?_)
    go_simp
    refine (cC _ (HT.out.on Dra3.out)).mono ?_
    rintro e ra4 ⟨rfl, rfl⟩
    go_wp2_with fail
    refine hK.out _ _ (fun _ h => h) ?_
    clear hK K
    try simp only [Act.put, List.setIfInBounds_toArray, List.set_cons_zero, List.set_cons_succ]
    refine until_one 15 (by rfl) (by kernel_rfl) (fun K hK => ?_)
    go_simp
    refine (cK _).mono ?_
    rintro e ra5 ⟨rfl, hb5⟩
    have Kra5 : Hid (Cell3 ra5 w.heap.size ⟨(jn : Int), (tn : Int), d⟩) := Kra3.out.on hb5 Kra3.out.2.2.2 (Nat.le_refl _)
    have Dra5 : Hid (Below w.heap.size w ra5) := Dra3.out.trans (hb5.mono Dra3.out.size)
    clear hb5 Kra3 Dra3
    go_wp2_with fail
    refine hK.out _ _ (fun _ _ => ⟨Kra5.out.1, Kra5.out.2.1, Kra5.out.2.2.1⟩) ?_
    clear hK K
    try simp only [Act.put, List.setIfInBounds_toArray, List.set_cons_zero, List.set_cons_succ]
    refine until_pure 16 (v := ?_) (by rfl) (by kernel_rfl) (by exact fun _ _ _ h => h) (by rfl) ?_ ?_
    rotate_left
    · intro w
      go_simp
      try with_reducible rfl
    try simp only [Act.put, List.setIfInBounds_toArray, List.set_cons_zero, List.set_cons_succ]
    refine until_pure 17 (v := ?_) (by rfl) (by kernel_rfl) (by exact fun _ _ _ h => h) (by rfl) ?_ ?_
    rotate_left
    · intro w
      go_simp
      try with_reducible rfl
    try simp only [Act.put, List.setIfInBounds_toArray, List.set_cons_zero, List.set_cons_succ]
    refine until_done (by kernel_rfl) ?_ _
    clear S0
    rw [← HH.out]
    have S0 : Hid (ra5.drew.cell? ⟨w.heap.size, 0, none⟩ = some (.int .i64 (jn : Int)) ∧ ra5.drew.cell? ⟨w.heap.size, 1, none⟩ = some (.int .i64 (tn : Int)) ∧ ra5.drew.cell? ⟨w.heap.size, 2, none⟩ = some (.string d)) := ⟨Kra5.out.1, Kra5.out.2.1, Kra5.out.2.2.1⟩
    have D0 : Hid (Below w.heap.size w ra5.drew) := Dra5.out.drew
    have K0 : Hid (Cell3 ra5.drew w.heap.size ⟨(jn : Int), (tn : Int), d⟩) := Kra5.out
    clear Kra5 Dra5
    go_wp2_with fail
    refine wp_region_until (fun w' => w'.cell? ⟨w.heap.size, 0, none⟩ = some (.int .i64 (jn : Int)) ∧ w'.cell? ⟨w.heap.size, 1, none⟩ = some (.int .i64 (tn : Int)) ∧ w'.cell? ⟨w.heap.size, 2, none⟩ = some (.string d)) (fun i => false) 6 (by rfl) (by kernel_rfl) ?_
    generalize ra5.drew = rbX at *
    refine until_pure 0 (v := ?_) (by rfl) (by kernel_rfl) (by exact fun _ _ _ h => h) (by rfl) ?_ ?_
    rotate_left
    · intro w
      go_simp
      try with_reducible rfl
    try simp only [Act.put, List.setIfInBounds_toArray, List.set_cons_zero, List.set_cons_succ]
    refine until_take 2 (v := ?_) (by rfl) (by kernel_rfl) (by exact fun _ _ _ h => h) (by rfl) ?_ S0.out ?_
    rotate_left
    · intro w hSw
      try dsimp only at hSw
      go_simp
      try with_reducible rfl
    try simp only [Act.put, List.setIfInBounds_toArray, List.set_cons_zero, List.set_cons_succ]
    refine until_take 3 (v := ?_) (by rfl) (by kernel_rfl) (by exact fun _ _ _ h => h) (by rfl) ?_ S0.out ?_
    rotate_left
    · intro w hSw
      try dsimp only at hSw
      go_simp
      try with_reducible rfl
    try simp only [Act.put, List.setIfInBounds_toArray, List.set_cons_zero, List.set_cons_succ]
    refine until_one 1 (by rfl) (by kernel_rfl) (fun K hK => ?_)
    go_simp
    refine (cR _ (HT.out.on D0.out)).mono ?_
    rintro e rb1 ⟨rfl, hb1⟩
    have Krb1 : Hid (Cell3 rb1 w.heap.size ⟨(jn : Int), (tn : Int), d⟩) := K0.out.on hb1 K0.out.2.2.2 (Nat.le_refl _)
    have Drb1 : Hid (Below w.heap.size w rb1) := D0.out.trans (hb1.mono D0.out.size)
    clear hb1 K0 D0
    go_wp2_with fail
    refine hK.out _ _ (fun _ _ => ⟨Krb1.out.1, Krb1.out.2.1, Krb1.out.2.2.1⟩) ?_
    clear hK K
    try simp only [Act.put, List.setIfInBounds_toArray, List.set_cons_zero, List.set_cons_succ]
    refine until_pure 4 (v := ?_) (by rfl) (by kernel_rfl) (by exact fun _ _ _ h => h) (by rfl) ?_ ?_
    rotate_left
    · intro w
      go_simp
      try with_reducible rfl
    try simp only [Act.put, List.setIfInBounds_toArray, List.set_cons_zero, List.set_cons_succ]
    refine until_pure 5 (v := ?_) (by rfl) (by kernel_rfl) (by exact fun _ _ _ h => h) (by rfl) ?_ ?_
    rotate_left
    · intro w
      go_simp
      try with_reducible rfl
    try simp only [Act.put, List.setIfInBounds_toArray, List.set_cons_zero, List.set_cons_succ]
    refine until_done (by kernel_rfl) ?_ _
    clear S0
    go_wp2_with fail
    go_ret
    exact ⟨by rw [HE.out]; rfl, Drb1.out⟩

set_option maxHeartbeats 4000000 in
theorem specShowSnap (x : Snp) (w : World) (hd : x.data.size ≤ maxLen) : Calls Tryd.prog 13 #[vSnp x] w fun e w' => e = .returned (.string (showSn x)) ∧ Below w.heap.size w w' := by
  have c1 := fun wx => specSnapOk x wx hd
  have hb0 := below_one w (.cells #[.int .i64 x.index, .int .i64 x.term, .string x.data] 25)
  have k0 := Cell3.new w x 25
  have HE : Hid (showSn x = if isSn x = true then frame (headS x.index.toNat x.term.toNat x.data) ++ x.data else ⟨#[]⟩) := rfl
  unfold vSnp at *
  cases ho : isSn x <;> rw [ho] at HE
  · cases hs : snapOk x
    · rw [hs] at c1
      clear ho hs
      go_enter Tryd.func13, Tryd.ntmps13
      go_wp2_with fail
      generalize w.alloc (.cells #[.int .i64 x.index, .int .i64 x.term, .string x.data] 25) = W at *
      refine (c1 _).mono ?_
      rintro e w1 ⟨rfl, hb1⟩
      have B1 : Hid (Below w.heap.size w w1) := hb0.trans (hb1.mono hb0.size)
      obtain ⟨e0, e1, e2, _⟩ := k0.on hb1 k0.2.2.2 (Nat.le_refl _)
      clear hb0 hb1 c1 k0
      go_wp2_with fail
      go_ret
      exact ⟨by rw [HE.out]; rfl, B1.out⟩
    · have hz := (isSn_zero x ho hs).1
      rw [hs] at c1
      rw [hz] at c1 hb0 k0 ⊢
      have hz0 : x.index = 0 := hz
      clear ho hs hz
      go_enter Tryd.func13, Tryd.ntmps13
      go_wp2_with fail
      generalize w.alloc (.cells #[.int .i64 0, .int .i64 x.term, .string x.data] 25) = W at *
      refine (c1 _).mono ?_
      rintro e w1 ⟨rfl, hb1⟩
      have B1 : Hid (Below w.heap.size w w1) := hb0.trans (hb1.mono hb0.size)
      obtain ⟨e0, e1, e2, _⟩ := k0.on hb1 k0.2.2.2 (Nat.le_refl _)
      rw [hz0] at e0
      clear hz0
      clear hb0 hb1 c1 k0
      go_wp2_with fail
      go_ret
      exact ⟨by rw [HE.out]; rfl, B1.out⟩
  · obtain ⟨hs, hz, ⟨i1, i2⟩, ⟨t1, t2⟩, d1⟩ := isSn_in x ho
    rw [hs] at c1
    obtain ⟨i, t, d⟩ := x
    simp only at *
    clear ho hs
    have HE : Hid (showSn ⟨i, t, d⟩ = frame (headS i.toNat t.toNat d) ++ d) := by unfold Hid; rw [HE.out]; rfl
    obtain ⟨jn, rfl⟩ : ∃ n : Nat, i = (n : Int) := ⟨i.toNat, by omega⟩
    obtain ⟨tn, rfl⟩ : ∃ n : Nat, t = (n : Int) := ⟨t.toNat, by omega⟩
    have z : ((jn : Int) == 0) = false := by simpa using hz
    rw [Int.toNat_natCast, Int.toNat_natCast] at HE
    have cF : ∀ (n : Nat) wx, n < 4294967296 → Calls Tryd.prog 37 #[.int .i64 (n : Int), .int .i64 4] wx fun e w' => e = .returned (.string (four n)) ∧ Below wx.heap.size wx w' := fun n wx hn => by
      have h := spec_fixed n 4 wx (by omega) (by omega) (by omega)
      rw [fixed_four n hn] at h
      exact h
    have cJ := fun wx => cF jn wx (by omega)
    have cT := fun wx => cF tn wx (by omega)
    have cN := fun wx => cF d.size wx (by omega)
    have cK := fun wx => cF (crc d) wx (crc_lt d)
    have cC := fun wx => spec_crc d wx (by omega)
    have cR := fun wx => spec_frame (headS jn tn d) wx (by rw [headS_size]; omega)
    have s5 : (frame (headS jn tn d)).size ≤ 24 := by
      unfold frame
      have := headS_size jn tn d
      rw [if_neg (by omega), frameOf_size]
      omega
    have HH : Hid (headS jn tn d = four jn ++ four tn ++ four d.size ++ four (crc d)) := rfl
    have HS : Hid (d.size ≤ 30000) := d1
    have s1 := four_size jn
    have s2 := four_size tn
    have s3 := four_size d.size
    have s4 := four_size (crc d)
    clear cF i1 i2 t1 t2 hz
    generalize four jn = a1 at *
    generalize four tn = a2 at *
    generalize four (crc d) = a4 at *
    generalize hcrc : crc d = cd at *
    generalize four d.size = a3 at *
    have g1 : ¬ 9223372036854775807 < a1.size + a2.size := by omega
    have g2 : ¬ 9223372036854775807 < (a1 ++ a2).size + a3.size := by rw [ByteArray.size_append]; omega
    have g2' : ¬ 9223372036854775807 < a1.size + a2.size + a3.size := by omega
    have g3 : ¬ 9223372036854775807 < (a1 ++ a2 ++ a3).size + a4.size := by rw [ByteArray.size_append, ByteArray.size_append]; omega
    have g3' : ¬ 9223372036854775807 < a1.size + a2.size + a3.size + a4.size := by omega
    generalize headS jn tn d = hh at *
    generalize frame hh = fr at *
    have g4 : ¬ 9223372036854775807 < fr.size + d.size := by omega
    have q0 : (d.size : Int) ≤ 9223372036854775807 := by omega
    go_enter Tryd.func13, Tryd.ntmps13
    go_wp2_with fail
    generalize w.alloc (.cells #[.int .i64 (jn : Int), .int .i64 (tn : Int), .string d] 25) = W at *
    refine (c1 _).mono ?_
    rintro e w1 ⟨rfl, hb1⟩
    have B1 : Hid (Below w.heap.size w w1) := hb0.trans (hb1.mono hb0.size)
    have K1 : Hid (Cell3 w1 w.heap.size ⟨(jn : Int), (tn : Int), d⟩) := k0.on hb1 k0.2.2.2 (Nat.le_refl _)
    clear hb0 hb1 c1 k0
    have e0 := K1.out.1
    have S0 : Hid (w1.drew.cell? ⟨w.heap.size, 0, none⟩ = some (.int .i64 (jn : Int)) ∧ w1.drew.cell? ⟨w.heap.size, 1, none⟩ = some (.int .i64 (tn : Int)) ∧ w1.drew.cell? ⟨w.heap.size, 2, none⟩ = some (.string d)) := ⟨K1.out.1, K1.out.2.1, K1.out.2.2.1⟩
    have D0 : Hid (Below w.heap.size w w1.drew) := B1.out.drew
    have K0 : Hid (Cell3 w1.drew w.heap.size ⟨(jn : Int), (tn : Int), d⟩) := K1.out
    clear K1 B1
    go_wp2_with fail
    refine wp_region_until (fun w' => w'.cell? ⟨w.heap.size, 0, none⟩ = some (.int .i64 (jn : Int)) ∧ w'.cell? ⟨w.heap.size, 1, none⟩ = some (.int .i64 (tn : Int)) ∧ w'.cell? ⟨w.heap.size, 2, none⟩ = some (.string d)) (fun i => false) 22 (by rfl) (by kernel_rfl) ?_
    generalize w1.drew = raX at *
    refine until_take 0 (v := ?_) (by rfl) (by kernel_rfl) (by exact fun _ _ _ h => h) (by rfl) ?_ S0.out ?_
    rotate_left
    · intro w hSw
      try dsimp only at hSw
      go_simp
      try with_reducible rfl
    try simp only [Act.put, List.setIfInBounds_toArray, List.set_cons_zero, List.set_cons_succ]
    refine until_take 1 (v := ?_) (by rfl) (by kernel_rfl) (by exact fun _ _ _ h => h) (by rfl) ?_ S0.out ?_
    rotate_left
    · intro w hSw
      try dsimp only at hSw
      go_simp
      try with_reducible rfl
    try simp only [Act.put, List.setIfInBounds_toArray, List.set_cons_zero, List.set_cons_succ]
    refine until_take 3 (v := ?_) (by rfl) (by kernel_rfl) (by exact fun _ _ _ h => h) (by rfl) ?_ S0.out ?_
    rotate_left
    · intro w hSw
      try dsimp only at hSw
      go_simp
      try with_reducible rfl
    try simp only [Act.put, List.setIfInBounds_toArray, List.set_cons_zero, List.set_cons_succ]
    refine until_take 4 (v := ?_) (by rfl) (by kernel_rfl) (by exact fun _ _ _ h => h) (by rfl) ?_ S0.out ?_
    rotate_left
    · intro w hSw
      try dsimp only at hSw
      go_simp
      try with_reducible rfl
    try simp only [Act.put, List.setIfInBounds_toArray, List.set_cons_zero, List.set_cons_succ]
    refine until_take 7 (v := ?_) (by rfl) (by kernel_rfl) (by exact fun _ _ _ h => h) (by rfl) ?_ S0.out ?_
    rotate_left
    · intro w hSw
      try dsimp only at hSw
      go_simp
      try with_reducible rfl
    try simp only [Act.put, List.setIfInBounds_toArray, List.set_cons_zero, List.set_cons_succ]
    refine until_take 8 (v := ?_) (by rfl) (by kernel_rfl) (by exact fun _ _ _ h => h) (by rfl) ?_ S0.out ?_
    rotate_left
    · intro w hSw
      try dsimp only at hSw
      go_simp
      try with_reducible rfl
    try simp only [Act.put, List.setIfInBounds_toArray, List.set_cons_zero, List.set_cons_succ]
    refine until_pure 9 (v := ?_) (by rfl) (by kernel_rfl) (by exact fun _ _ _ h => h) (by rfl) ?_ ?_
    rotate_left
    · intro w
      go_simp
      try with_reducible rfl
    try simp only [Act.put, List.setIfInBounds_toArray, List.set_cons_zero, List.set_cons_succ]
    refine until_take 12 (v := ?_) (by rfl) (by kernel_rfl) (by exact fun _ _ _ h => h) (by rfl) ?_ S0.out ?_
    rotate_left
    · intro w hSw
      try dsimp only at hSw
      go_simp
      try with_reducible rfl
    try simp only [Act.put, List.setIfInBounds_toArray, List.set_cons_zero, List.set_cons_succ]
    refine until_take 13 (v := ?_) (by rfl) (by kernel_rfl) (by exact fun _ _ _ h => h) (by rfl) ?_ S0.out ?_
    rotate_left
    · intro w hSw
      try dsimp only at hSw
      go_simp
      try with_reducible rfl
    try simp only [Act.put, List.setIfInBounds_toArray, List.set_cons_zero, List.set_cons_succ]
    refine until_take 18 (v := ?_) (by rfl) (by kernel_rfl) (by exact fun _ _ _ h => h) (by rfl) ?_ S0.out ?_
    rotate_left
    · intro w hSw
      try dsimp only at hSw
      go_simp
      try with_reducible rfl
    try simp only [Act.put, List.setIfInBounds_toArray, List.set_cons_zero, List.set_cons_succ]
    refine until_take 19 (v := ?_) (by rfl) (by kernel_rfl) (by exact fun _ _ _ h => h) (by rfl) ?_ S0.out ?_
    rotate_left
    · intro w hSw
      try dsimp only at hSw
      go_simp
      try with_reducible rfl
    try simp only [Act.put, List.setIfInBounds_toArray, List.set_cons_zero, List.set_cons_succ]
    refine until_one 2 (by rfl) (by kernel_rfl) (fun K hK => ?_)
    go_simp
    refine (cJ _).mono ?_
    rintro e ra1 ⟨rfl, hb1⟩
    have Kra1 : Hid (Cell3 ra1 w.heap.size ⟨(jn : Int), (tn : Int), d⟩) := K0.out.on hb1 K0.out.2.2.2 (Nat.le_refl _)
    have Dra1 : Hid (Below w.heap.size w ra1) := D0.out.trans (hb1.mono D0.out.size)
    clear hb1 K0 D0
    go_wp2_with fail
    refine hK.out _ _ (fun _ _ => ⟨Kra1.out.1, Kra1.out.2.1, Kra1.out.2.2.1⟩) ?_
    clear hK K
    try simp only [Act.put, List.setIfInBounds_toArray, List.set_cons_zero, List.set_cons_succ]
    refine until_one 5 (by rfl) (by kernel_rfl) (fun K hK => ?_)
    go_simp
    refine (cT _).mono ?_
    rintro e ra2 ⟨rfl, hb2⟩
    have Kra2 : Hid (Cell3 ra2 w.heap.size ⟨(jn : Int), (tn : Int), d⟩) := Kra1.out.on hb2 Kra1.out.2.2.2 (Nat.le_refl _)
    have Dra2 : Hid (Below w.heap.size w ra2) := Dra1.out.trans (hb2.mono Dra1.out.size)
    clear hb2 Kra1 Dra1
    go_wp2_with fail
    refine hK.out _ _ (fun _ _ => ⟨Kra2.out.1, Kra2.out.2.1, Kra2.out.2.2.1⟩) ?_
    clear hK K
    try simp only [Act.put, List.setIfInBounds_toArray, List.set_cons_zero, List.set_cons_succ]
    refine until_pure 6 (v := ?_) (by rfl) (by kernel_rfl) (by exact fun _ _ _ h => h) (by rfl) ?_ ?_
    rotate_left
    · intro w
      go_simp
      try with_reducible rfl
    try simp only [Act.put, List.setIfInBounds_toArray, List.set_cons_zero, List.set_cons_succ]
    refine until_one 10 (by rfl) (by kernel_rfl) (fun K hK => ?_)
    go_simp
    refine (cN _).mono ?_
    rintro e ra3 ⟨rfl, hb3⟩
    have Kra3 : Hid (Cell3 ra3 w.heap.size ⟨(jn : Int), (tn : Int), d⟩) := Kra2.out.on hb3 Kra2.out.2.2.2 (Nat.le_refl _)
    have Dra3 : Hid (Below w.heap.size w ra3) := Dra2.out.trans (hb3.mono Dra2.out.size)
    clear hb3 Kra2 Dra2
    go_wp2_with fail
    refine hK.out _ _ (fun _ _ => ⟨Kra3.out.1, Kra3.out.2.1, Kra3.out.2.2.1⟩) ?_
    clear hK K
    try simp only [Act.put, List.setIfInBounds_toArray, List.set_cons_zero, List.set_cons_succ]
    refine until_pure 11 (v := ?_) (by rfl) (by kernel_rfl) (by exact fun _ _ _ h => h) (by rfl) ?_ ?_
    rotate_left
    · intro w
      go_simp
      try with_reducible rfl
    try simp only [Act.put, List.setIfInBounds_toArray, List.set_cons_zero, List.set_cons_succ]
    refine until_one 14 (by rfl) (by kernel_rfl) (fun K hK => ?_)
    go_simp
    refine (cC _).mono ?_
    rintro e ra4 ⟨rfl, rfl⟩
    go_wp2_with fail
    refine hK.out _ _ (fun _ h => h) ?_
    clear hK K
    try simp only [Act.put, List.setIfInBounds_toArray, List.set_cons_zero, List.set_cons_succ]
    refine until_one 15 (by rfl) (by kernel_rfl) (fun K hK => ?_)
    go_simp
    refine (cK _).mono ?_
    rintro e ra5 ⟨rfl, hb5⟩
    have Kra5 : Hid (Cell3 ra5 w.heap.size ⟨(jn : Int), (tn : Int), d⟩) := Kra3.out.on hb5 Kra3.out.2.2.2 (Nat.le_refl _)
    have Dra5 : Hid (Below w.heap.size w ra5) := Dra3.out.trans (hb5.mono Dra3.out.size)
    clear hb5 Kra3 Dra3
    go_wp2_with fail
    refine hK.out _ _ (fun _ _ => ⟨Kra5.out.1, Kra5.out.2.1, Kra5.out.2.2.1⟩) ?_
    clear hK K
    try simp only [Act.put, List.setIfInBounds_toArray, List.set_cons_zero, List.set_cons_succ]
    refine until_pure 16 (v := ?_) (by rfl) (by kernel_rfl) (by exact fun _ _ _ h => h) (by rfl) ?_ ?_
    rotate_left
    · intro w
      go_simp
      try with_reducible rfl
    try simp only [Act.put, List.setIfInBounds_toArray, List.set_cons_zero, List.set_cons_succ]
    refine until_one 17 (by rfl) (by kernel_rfl) (fun K hK => ?_)
    go_simp
    rw [← HH.out]
    refine (cR _).mono ?_
    rintro e ra6 ⟨rfl, hb6⟩
    have Kra6 : Hid (Cell3 ra6 w.heap.size ⟨(jn : Int), (tn : Int), d⟩) := Kra5.out.on hb6 Kra5.out.2.2.2 (Nat.le_refl _)
    have Dra6 : Hid (Below w.heap.size w ra6) := Dra5.out.trans (hb6.mono Dra5.out.size)
    clear hb6 Kra5 Dra5
    go_wp2_with fail
    refine hK.out _ _ (fun _ _ => ⟨Kra6.out.1, Kra6.out.2.1, Kra6.out.2.2.1⟩) ?_
    clear hK K
    try simp only [Act.put, List.setIfInBounds_toArray, List.set_cons_zero, List.set_cons_succ]
    refine until_pure 20 (v := ?_) (by rfl) (by kernel_rfl) (by exact fun _ _ _ h => h) (by rfl) ?_ ?_
    rotate_left
    · intro w
      go_simp
      try with_reducible rfl
    try simp only [Act.put, List.setIfInBounds_toArray, List.set_cons_zero, List.set_cons_succ]
    refine until_pure 21 (v := ?_) (by rfl) (by kernel_rfl) (by exact fun _ _ _ h => h) (by rfl) ?_ ?_
    rotate_left
    · intro w
      go_simp
      try with_reducible rfl
    try simp only [Act.put, List.setIfInBounds_toArray, List.set_cons_zero, List.set_cons_succ]
    refine until_done (by kernel_rfl) ?_ _
    clear S0
    go_wp2_with fail
    go_ret
    exact ⟨by rw [HE.out]; rfl, Dra6.out⟩
end Go.Proofs.YtkajnknhggfpoaaDoor
