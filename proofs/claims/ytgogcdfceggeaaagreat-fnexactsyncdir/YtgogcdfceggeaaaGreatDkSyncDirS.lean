/-
  The contract of spec.SyncDir.
-/
import Derived.Test.YtgogcdfceggeaaaGreatRows
import Derived.Test.YtgogcdfceggeaaaGreatDkSyncDirI
import Derived.Test.YtgogcdfceggeaaaGreatDkSettled
import Derived.Test.YtgogcdfceggeaaaGreatDkNames
import Derived.Test.YtgogcdfceggeaaaGreatDkMkD
namespace Go.Proofs.YtgogcdfceggeaaaGreat
open Go.ChangeShapes Go.WideShapes Go.ChangeAt Go.RowKit Go.PlainAid
set_option linter.unusedVariables false

theorem syncDirR_len (d : Dsk) (hf : Fits d) : (syncDirR d).1.nods.length ≤ 1000 ∧ (syncDirR d).1.dir.length ≤ 1000 ∧ (syncDirR d).1.movs.length ≤ 1000 := by
  cases h : diskOk d with
  | false =>
    rw [syncDirR_no h]
    exact ⟨by show 0 ≤ 1000; omega, by show 0 ≤ 1000; omega, by show 0 ≤ 1000; omega⟩
  | true =>
    rw [syncDirR_yes h]
    have hR := (sizeOk_iff d).1 ((whole_iff d).1 h).size
    have h1 : (keptN (now d) d.nods).length ≤ d.nods.length := List.length_filter_le _ _
    have h2 := names_len d.dir d.movs
    have := hR.l
    have := hR.m
    have := hR.n
    refine ⟨?_, ?_, ?_⟩
    · show (keptN (now d) d.nods).length ≤ 1000
      omega
    · show (now d).length ≤ 1000
      unfold now
      omega
    · show (0 : Nat) ≤ 1000
      omega

set_option maxRecDepth 20000 in
set_option maxHeartbeats 8000000 in
theorem specSyncDirV (d : Dsk) (v : Value) (w : World) (B : Nat) (hv : DiskV w B v d) (hf : Fits d) (hw : wtD d ≤ 1048576) (hB : B ≤ w.heap.size) :
    Calls Tryz.prog 5 #[v] w fun e w' => ∃ x, e = .returned (.tuple #[x, .int .i64 (syncDirR d).2]) ∧ DiskO w' w.heap.size x (syncDirR d).1 ∧ Below w.heap.size w w' := by
  have HV : Hid (DiskV w B v d) := hv
  have HF : Hid (Fits d) := hf
  have HB : Hid (B ≤ w.heap.size) := hB
  have HW : Hid (wtD d ≤ 1048576) := hw
  have hlk : ∃ a1 b1 a3 b3 v2, v = .agg #[.int .i64 d.room, .int .i64 d.next, .slice a1 d.nods.length b1, v2, .slice a3 d.movs.length b3] ∧ Lies w B 3 (.slice a1 d.nods.length b1) (nodR d.nods) := by
    obtain ⟨v1, v2, v3, rfl, h1, h2, h3⟩ := hv
    obtain ⟨A1, c1, rfl, _⟩ := nod_look h1
    obtain ⟨A3, c3, rfl, _⟩ := mov_look h3
    exact ⟨A1, c1, A3, c3, v2, rfl, h1⟩
  obtain ⟨a1, b1, a3, b3, v2, rfl, hl1⟩ := hlk
  have HL1 : Hid (Lies w B 3 (.slice a1 d.nods.length b1) (nodR d.nods)) := hl1
  have q1 : (d.nods.length : Int) ≤ 9223372036854775807 := by have := hf.n; unfold maxLen at this; omega
  have q3 : (d.movs.length : Int) ≤ 9223372036854775807 := by have := hf.m; unfold maxLen at this; omega
  clear hf hB hw hv hl1
  go_enter Tryz.func5, Tryz.ntmps5
  go_wp2_with fail
  have hb0 := below_alloc2' w (.cells #[.int .i64 d.room, .int .i64 d.next, .slice a1 d.nods.length b1, v2, .slice a3 d.movs.length b3] 32) (.cells #[.int .i64 0, .int .i64 0, .slice none 0 0, .slice none 0 0, .slice none 0 0] 32)
  have bA := (Blk.new w #[.int .i64 d.room, .int .i64 d.next, .slice a1 d.nods.length b1, v2, .slice a3 d.movs.length b3] 32).alloc (.cells #[.int .i64 0, .int .i64 0, .slice none 0 0, .slice none 0 0, .slice none 0 0] 32)
  have bR := Blk.new (w.alloc (.cells #[.int .i64 d.room, .int .i64 d.next, .slice a1 d.nods.length b1, v2, .slice a3 d.movs.length b3] 32)) #[.int .i64 0, .int .i64 0, .slice none 0 0, .slice none 0 0, .slice none 0 0] 32
  simp only [World.size_alloc] at bR
  generalize (w.alloc (.cells #[.int .i64 d.room, .int .i64 d.next, .slice a1 d.nods.length b1, v2, .slice a3 d.movs.length b3] 32)).alloc (.cells #[.int .i64 0, .int .i64 0, .slice none 0 0, .slice none 0 0, .slice none 0 0] 32) = W at *
  have B0 : Hid (Below w.heap.size w W) := hb0
  have K0 : Hid (Blk W w.heap.size #[.int .i64 d.room, .int .i64 d.next, .slice a1 d.nods.length b1, v2, .slice a3 d.movs.length b3] 32) := bA
  have R0 : Hid (Blk W (w.heap.size + 1) #[.int .i64 0, .int .i64 0, .slice none 0 0, .slice none 0 0, .slice none 0 0] 32) := bR
  clear hb0 bA bR
  refine (specOkV d _ W B (HV.out.on (B0.out.mono HB.out)) HF.out HW.out (Nat.le_trans HB.out B0.out.size)).mono ?_
  rintro e w1 ⟨rfl, hb1⟩
  have B1 : Hid (Below w.heap.size w w1) := B0.out.trans (hb1.mono B0.out.size)
  have K1 : Hid (Blk w1 w.heap.size #[.int .i64 d.room, .int .i64 d.next, .slice a1 d.nods.length b1, v2, .slice a3 d.movs.length b3] 32) := K0.out.on hb1 K0.out.lt
  have R1 : Hid (Blk w1 (w.heap.size + 1) #[.int .i64 0, .int .i64 0, .slice none 0 0, .slice none 0 0, .slice none 0 0] 32) := R0.out.on hb1 R0.out.lt
  clear hb1 K0 R0
  have hg : w.heap.size ≤ w.heap.size + 1 := by omega
  cases hok : diskOk d with
  | false =>
    have hRR : syncDirR d = (zeroD, 1) := syncDirR_no hok
    clear hok
    have g0 := R1.out.cell 0 _ rfl
    have f0 := R1.out.free 0
    have g1 := R1.out.cell 1 _ rfl
    have f1 := R1.out.free 1
    have g2 := R1.out.cell 2 _ rfl
    have f2 := R1.out.free 2
    have g3 := R1.out.cell 3 _ rfl
    have f3 := R1.out.free 3
    have g4 := R1.out.cell 4 _ rfl
    have f4 := R1.out.free 4
    go_wp2_with fail
    have hB := B1.out
    have FB := (((((hB.setCell hg (.int .i64 0) (p := ⟨_, 0, none⟩)).setCell hg (.int .i64 0) (p := ⟨_, 1, none⟩)).setCell hg (.slice none 0 0) (p := ⟨_, 2, none⟩)).setCell hg (.slice none 0 0) (p := ⟨_, 3, none⟩)).setCell hg (.slice none 0 0) (p := ⟨_, 4, none⟩))
    have hF := (((((R1.out.set 0 (.int .i64 0)).set 1 (.int .i64 0)).set 2 (.slice none 0 0)).set 3 (.slice none 0 0)).set 4 (.slice none 0 0))
    clear g0 f0 g1 f1 g2 f2 g3 f3 g4 f4
    generalize (((((w1.setCell ⟨w.heap.size + 1, 0, none⟩ (.int .i64 0)).setCell ⟨w.heap.size + 1, 1, none⟩ (.int .i64 0)).setCell ⟨w.heap.size + 1, 2, none⟩ (.slice none 0 0)).setCell ⟨w.heap.size + 1, 3, none⟩ (.slice none 0 0)).setCell ⟨w.heap.size + 1, 4, none⟩ (.slice none 0 0)) = WF at *
    have hG : Blk WF (w.heap.size + 1) #[.int .i64 0, .int .i64 0, .slice none 0 0, .slice none 0 0, .slice none 0 0] 32 := hF
    have l0 := hG.cell 0 (.int .i64 0) rfl
    have l1 := hG.cell 1 (.int .i64 0) rfl
    have l2 := hG.cell 2 (.slice none 0 0) rfl
    have l3 := hG.cell 3 (.slice none 0 0) rfl
    have l4 := hG.cell 4 (.slice none 0 0) rfl
    exact bodyPost_ret (v := .tuple #[.agg #[.int .i64 0, .int .i64 0, .slice none 0 0, .slice none 0 0, .slice none 0 0], .int .i64 1]) (by simp [results, go_sem, l0, l1, l2, l3, l4]) rfl (by rw [hRR]; exact ⟨_, rfl, ⟨_, _, _, rfl, Owns.nil _ _ _ _, Owns.nil _ _ _ _, Owns.nil _ _ _ _⟩, FB⟩)
  | true =>
    have hR := (sizeOk_iff d).1 ((whole_iff d).1 hok).size
    have HSZ : Hid (d.dir.length + d.movs.length ≤ 1048575 ∧ d.nods.length ≤ 10 ∧ (now d).length ≤ 1048576) := by
      have h2 := names_len d.dir d.movs
      have := hR.l; have := hR.m; have := hR.n
      unfold Hid now
      omega
    have hRR : Hid (syncDirR d = (⟨d.room, d.next, keptN (now d) d.nods, now d, []⟩, 0)) := syncDirR_yes hok
    clear hR hok
    have cN := namesV d (.agg #[.int .i64 d.room, .int .i64 d.next, .slice a1 d.nods.length b1, v2, .slice a3 d.movs.length b3]) (d.movs.length : Int) w1.drew B (HV.out.on (B1.out.drew.mono HB.out)) HF.out HSZ.out.1 (Nat.le_trans HB.out B1.out.size)
    rw [Int.toNat_natCast, List.take_length] at cN
    have S0 : Hid (w1.drew.cell? ⟨w.heap.size, 0, none⟩ = some (.int .i64 d.room) ∧ w1.drew.cell? ⟨w.heap.size, 1, none⟩ = some (.int .i64 d.next) ∧ w1.drew.cell? ⟨w.heap.size, 2, none⟩ = some (.slice a1 d.nods.length b1) ∧ w1.drew.cell? ⟨w.heap.size, 3, none⟩ = some v2 ∧ w1.drew.cell? ⟨w.heap.size, 4, none⟩ = some (.slice a3 d.movs.length b3)) := ⟨K1.out.cell 0 _ rfl, K1.out.cell 1 _ rfl, K1.out.cell 2 _ rfl, K1.out.cell 3 _ rfl, K1.out.cell 4 _ rfl⟩
    go_wp2_with fail
    refine wp_region_until (fun w' => w'.cell? ⟨w.heap.size, 0, none⟩ = some (.int .i64 d.room) ∧ w'.cell? ⟨w.heap.size, 1, none⟩ = some (.int .i64 d.next) ∧ w'.cell? ⟨w.heap.size, 2, none⟩ = some (.slice a1 d.nods.length b1) ∧ w'.cell? ⟨w.heap.size, 3, none⟩ = some v2 ∧ w'.cell? ⟨w.heap.size, 4, none⟩ = some (.slice a3 d.movs.length b3)) (fun i => i == 9) 11 (by rfl) (by kernel_rfl) ?_
    refine until_take 0 (v := ?va0) (by rfl) (by kernel_rfl) (by exact fun _ _ _ h => h) (by rfl) ?hya0 S0.out ?ra0
    case hya0 =>
      intro w hSw
      try dsimp only at hSw
      go_simp
      try with_reducible rfl
    try simp only [Act.put, List.setIfInBounds_toArray, List.set_cons_zero, List.set_cons_succ]
    refine until_take 1 (v := ?va1) (by rfl) (by kernel_rfl) (by exact fun _ _ _ h => h) (by rfl) ?hya1 S0.out ?ra1
    case hya1 =>
      intro w hSw
      try dsimp only at hSw
      go_simp
      try with_reducible rfl
    try simp only [Act.put, List.setIfInBounds_toArray, List.set_cons_zero, List.set_cons_succ]
    refine until_take 2 (v := ?va2) (by rfl) (by kernel_rfl) (by exact fun _ _ _ h => h) (by rfl) ?hya2 S0.out ?ra2
    case hya2 =>
      intro w hSw
      try dsimp only at hSw
      go_simp
      try with_reducible rfl
    try simp only [Act.put, List.setIfInBounds_toArray, List.set_cons_zero, List.set_cons_succ]
    refine until_take 3 (v := ?va3) (by rfl) (by kernel_rfl) (by exact fun _ _ _ h => h) (by rfl) ?hya3 S0.out ?ra3
    case hya3 =>
      intro w hSw
      try dsimp only at hSw
      go_simp
      try with_reducible rfl
    try simp only [Act.put, List.setIfInBounds_toArray, List.set_cons_zero, List.set_cons_succ]
    refine until_take 4 (v := ?va4) (by rfl) (by kernel_rfl) (by exact fun _ _ _ h => h) (by rfl) ?hya4 S0.out ?ra4
    case hya4 =>
      intro w hSw
      try dsimp only at hSw
      go_simp
      try with_reducible rfl
    try simp only [Act.put, List.setIfInBounds_toArray, List.set_cons_zero, List.set_cons_succ]
    refine until_take 6 (v := ?va6) (by rfl) (by kernel_rfl) (by exact fun _ _ _ h => h) (by rfl) ?hya6 S0.out ?ra6
    case hya6 =>
      intro w hSw
      try dsimp only at hSw
      go_simp
      try with_reducible rfl
    try simp only [Act.put, List.setIfInBounds_toArray, List.set_cons_zero, List.set_cons_succ]
    refine until_take 7 (v := ?va7) (by rfl) (by kernel_rfl) (by exact fun _ _ _ h => h) (by rfl) ?hya7 S0.out ?ra7
    case hya7 =>
      intro w hSw
      try dsimp only at hSw
      go_simp
      try with_reducible rfl
    try simp only [Act.put, List.setIfInBounds_toArray, List.set_cons_zero, List.set_cons_succ]
    refine until_one 5 (by rfl) (by kernel_rfl) (fun K hK => ?_)
    go_simp
    refine cN.mono ?_
    rintro e w2 ⟨u2, rfl, hO2, hb2⟩
    have hb21 : Below w1.heap.size w1 w2 := (Below.refl _ w1).drew.trans hb2
    have B2 : Hid (Below w.heap.size w w2) := B1.out.trans (hb21.mono B1.out.size)
    have K2 : Hid (Blk w2 w.heap.size #[.int .i64 d.room, .int .i64 d.next, .slice a1 d.nods.length b1, v2, .slice a3 d.movs.length b3] 32) := K1.out.on hb21 K1.out.lt
    have R2 : Hid (Blk w2 (w.heap.size + 1) #[.int .i64 0, .int .i64 0, .slice none 0 0, .slice none 0 0, .slice none 0 0] 32) := R1.out.on hb21 R1.out.lt
    obtain ⟨A2, m2, k2, rfl⟩ := hO2.shape
    have O2 : Hid (Owns w2 w.heap.size 72 2 (.slice A2 m2 k2) (lnkR (now d))) := hO2.mono B1.out.size
    clear hb2 hb21 hO2 cN
    go_wp2_with fail
    refine hK.out _ _ (fun _ _ => ⟨K2.out.cell 0 _ rfl, K2.out.cell 1 _ rfl, K2.out.cell 2 _ rfl, K2.out.cell 3 _ rfl, K2.out.cell 4 _ rfl⟩) ?_
    clear hK K
    try simp only [Act.put, List.setIfInBounds_toArray, List.set_cons_zero, List.set_cons_succ]
    have cS := settledV d.room d.next (.slice a1 d.nods.length b1) v2 (.slice a3 d.movs.length b3) (.slice A2 m2 k2) (.slice a1 d.nods.length b1) (now d) d.nods w2 w2.heap.size O2.out.lies ((HL1.out.on (B2.out.mono HB.out)).mono (Nat.le_trans HB.out B2.out.size)) HSZ.out.2.2 (by have := HSZ.out; omega) (Nat.le_refl _)
    refine until_one 8 (by rfl) (by kernel_rfl) (fun K hK => ?_)
    go_simp
    refine cS.mono ?_
    rintro e w3 ⟨u3, rfl, hO3, hb3⟩
    have B3 : Hid (Below w.heap.size w w3) := B2.out.trans (hb3.mono B2.out.size)
    have K3 : Hid (Blk w3 w.heap.size #[.int .i64 d.room, .int .i64 d.next, .slice a1 d.nods.length b1, v2, .slice a3 d.movs.length b3] 32) := K2.out.on hb3 K2.out.lt
    have R3 : Hid (Blk w3 (w.heap.size + 1) #[.int .i64 0, .int .i64 0, .slice none 0 0, .slice none 0 0, .slice none 0 0] 32) := R2.out.on hb3 R2.out.lt
    obtain ⟨A1, m1, k1, rfl⟩ := hO3.shape
    have O1 : Hid (Owns w3 w.heap.size 69 3 (.slice A1 m1 k1) (nodR (keptN (now d) d.nods))) := hO3.mono B2.out.size
    have O2b : Hid (Owns w3 w.heap.size 72 2 (.slice A2 m2 k2) (lnkR (now d))) := O2.out.on hb3
    clear hb3 hO3 cS
    go_wp2_with fail
    refine hK.out _ _ (fun _ _ => ⟨K3.out.cell 0 _ rfl, K3.out.cell 1 _ rfl, K3.out.cell 2 _ rfl, K3.out.cell 3 _ rfl, K3.out.cell 4 _ rfl⟩) ?_
    clear hK K
    try simp only [Act.put, List.setIfInBounds_toArray, List.set_cons_zero, List.set_cons_succ]
    have g0 := R3.out.cell 0 _ rfl
    have f0 := R3.out.free 0
    have g1 := R3.out.cell 1 _ rfl
    have f1 := R3.out.free 1
    have g2 := R3.out.cell 2 _ rfl
    have f2 := R3.out.free 2
    have g3 := R3.out.cell 3 _ rfl
    have f3 := R3.out.free 3
    have g4 := R3.out.cell 4 _ rfl
    have f4 := R3.out.free 4
    refine until_one 9 (by rfl) (by kernel_rfl) (fun K hK => ?_)
    go_simp
    refine hK.out _ _ (fun h => by cases h) ?_
    clear hK K
    try simp only [Act.put, List.setIfInBounds_toArray, List.set_cons_zero, List.set_cons_succ]
    refine until_pure 10 (v := ?vb10) (by rfl) (by kernel_rfl) (by exact fun _ _ _ h => h) (by rfl) ?hyb10 ?rb10
    case hyb10 =>
      intro w
      go_simp
      try with_reducible rfl
    try simp only [Act.put, List.setIfInBounds_toArray, List.set_cons_zero, List.set_cons_succ]
    refine until_done (by kernel_rfl) ?_ _
    go_wp2_with fail
    have hB := B3.out
    have FB := (((((hB.setCell hg (.int .i64 d.room) (p := ⟨_, 0, none⟩)).setCell hg (.int .i64 d.next) (p := ⟨_, 1, none⟩)).setCell hg (.slice A1 m1 k1) (p := ⟨_, 2, none⟩)).setCell hg (.slice A2 m2 k2) (p := ⟨_, 3, none⟩)).setCell hg (.slice none 0 0) (p := ⟨_, 4, none⟩))
    have hF := (((((R3.out.set 0 (.int .i64 d.room)).set 1 (.int .i64 d.next)).set 2 (.slice A1 m1 k1)).set 3 (.slice A2 m2 k2)).set 4 (.slice none 0 0))
    have mm0 := O1.out.notBlk R3.out (by decide)
    have F0 := (((((O1.out.other mm0 0 (.int .i64 d.room)).other mm0 1 (.int .i64 d.next)).other mm0 2 (.slice A1 m1 k1)).other mm0 3 (.slice A2 m2 k2)).other mm0 4 (.slice none 0 0))
    have mm1 := O2b.out.notBlk R3.out (by decide)
    have F1 := (((((O2b.out.other mm1 0 (.int .i64 d.room)).other mm1 1 (.int .i64 d.next)).other mm1 2 (.slice A1 m1 k1)).other mm1 3 (.slice A2 m2 k2)).other mm1 4 (.slice none 0 0))
    clear g0 f0 g1 f1 g2 f2 g3 f3 g4 f4
    generalize (((((w3.setCell ⟨w.heap.size + 1, 0, none⟩ (.int .i64 d.room)).setCell ⟨w.heap.size + 1, 1, none⟩ (.int .i64 d.next)).setCell ⟨w.heap.size + 1, 2, none⟩ (.slice A1 m1 k1)).setCell ⟨w.heap.size + 1, 3, none⟩ (.slice A2 m2 k2)).setCell ⟨w.heap.size + 1, 4, none⟩ (.slice none 0 0)) = WF at *
    have hG : Blk WF (w.heap.size + 1) #[.int .i64 d.room, .int .i64 d.next, .slice A1 m1 k1, .slice A2 m2 k2, .slice none 0 0] 32 := hF
    have l0 := hG.cell 0 (.int .i64 d.room) rfl
    have l1 := hG.cell 1 (.int .i64 d.next) rfl
    have l2 := hG.cell 2 (.slice A1 m1 k1) rfl
    have l3 := hG.cell 3 (.slice A2 m2 k2) rfl
    have l4 := hG.cell 4 (.slice none 0 0) rfl
    exact bodyPost_ret (v := .tuple #[.agg #[.int .i64 d.room, .int .i64 d.next, .slice A1 m1 k1, .slice A2 m2 k2, .slice none 0 0], .int .i64 0]) (by simp [results, go_sem, l0, l1, l2, l3, l4]) rfl (by rw [hRR.out]; exact ⟨_, rfl, ⟨_, _, _, rfl, F0, F1, Owns.nil _ _ _ _⟩, FB⟩)
end Go.Proofs.YtgogcdfceggeaaaGreat
