/-
  Contract of spec.WalText.
-/
import Derived.Test.YtajodeahigmcoaaDoorRows
import Derived.Test.YtajodeahigmcoaaDoorWtDef
import Derived.Test.YtajodeahigmcoaaDoorWokSpec
import Derived.Test.YtajodeahigmcoaaDoorShowRecD
import Derived.Test.YtajodeahigmcoaaDoorUntil
import Derived.Deep.RegionHeld3
namespace Go.Proofs.YtajodeahigmcoaaDoor
open Go.ChangeShapes Go.WideShapes Go.ChangeAt Go.RowKit Go.PlainAid
set_option linter.unusedVariables false

def twoR (x : Wl) : List Rcd := [⟨4, x.bterm, x.base, 0, ByteArray.empty⟩, ⟨1, x.term, 0, x.vote, ByteArray.empty⟩]
theorem two_cat (x : Wl) : catF (twoR x) = frame (showR ⟨4, x.bterm, x.base, 0, ByteArray.empty⟩) ++ frame (showR ⟨1, x.term, 0, x.vote, ByteArray.empty⟩) := by
  unfold catF twoR
  simp only [List.foldl_cons, List.foldl_nil, ByteArray.empty_append]
theorem more_cat (x : Wl) (k : Nat) : catF (twoR x ++ entRecs x (k + 1)) = catF (twoR x ++ entRecs x k) ++ frame (showR (recAt x k)) := by
  rw [entRecs_succ, ← List.append_assoc, catF_snoc]

set_option maxRecDepth 20000 in
set_option maxHeartbeats 8000000 in
theorem specWalText (x : Wl) (v : Value) (w : World) (B : Nat) (hv : WalV w B v x) (hf : FitsW x) (hB : B ≤ w.heap.size) : Calls Tryd.prog 18 #[v] w fun e w' => e = .returned (.string (walT x)) ∧ Below w.heap.size w w' := by
  have HV : Hid (WalV w B v x) := hv
  have HB : Hid (B ≤ w.heap.size) := hB
  have cO := fun wx hx hb => specWalOk x v wx B hx hf hb
  have HE : Hid (walT x = if walOk x = true then catF (walRecs x) else ⟨#[]⟩) := rfl
  obtain ⟨u, rfl, hl⟩ := hv
  obtain ⟨A, cap, rfl, hlk⟩ := ent_look hl
  have HL : Hid (∀ j, j < x.ents.length → ∃ g off, A = some ⟨g, off, none⟩ ∧ g < B ∧ _) := hlk
  clear hB hf hl hlk
  generalize hN : x.ents.length = n at *
  have b0 : Below w.heap.size w (w.alloc (.cells #[.int .i64 x.term, .int .i64 x.vote, .int .i64 x.base, .int .i64 x.bterm, .slice A n cap] 26)) := (Below.refl _ _).alloc (Nat.le_refl _) _
  have k0 := Blk.new w #[.int .i64 x.term, .int .i64 x.vote, .int .i64 x.base, .int .i64 x.bterm, .slice A n cap] 26
  cases ho : walOk x
  · rw [ho] at cO HE
    clear ho
    go_enter Tryd.func18, Tryd.ntmps18
    go_wp2_with fail
    generalize w.alloc (.cells #[.int .i64 x.term, .int .i64 x.vote, .int .i64 x.base, .int .i64 x.bterm, .slice A n cap] 26) = W at *
    refine (cO W (HV.out.on (b0.mono HB.out)) (Nat.le_trans HB.out b0.size)).mono ?_
    rintro e w1 ⟨rfl, hb1⟩
    have B1 : Hid (Below w.heap.size w w1) := b0.trans (hb1.mono b0.size)
    clear hb1 cO k0 b0
    go_wp2_with fail
    go_ret
    exact ⟨by rw [HE.out]; rfl, B1.out⟩
  obtain ⟨n60, ⟨base0, base1⟩, hdd⟩ := ok_in x ho
  have HE : Hid (walT x = catF (twoR x ++ entRecs x n)) := by unfold Hid; rw [HE.out, ho, ← hN]; rfl
  have HDD : Hid (∀ e ∈ x.ents, e.data.size ≤ 900) := hdd
  have HC2 : Hid (frame (showR ⟨4, x.bterm, x.base, 0, ByteArray.empty⟩) ++ frame (showR ⟨1, x.term, 0, x.vote, ByteArray.empty⟩) = catF (twoR x ++ entRecs x 0)) := by unfold Hid; rw [← two_cat]; simp [entRecs]
  have cB : ∀ wx, Calls Tryd.prog 42 #[.agg #[.int .i64 4, .int .i64 x.bterm, .int .i64 x.base, .int .i64 0, .string ⟨#[]⟩]] wx fun e w' => e = .returned (.string (showR ⟨4, x.bterm, x.base, 0, ByteArray.empty⟩)) ∧ Below wx.heap.size wx w' := fun wx => specShowRec ⟨4, x.bterm, x.base, 0, ByteArray.empty⟩ wx (Nat.zero_le _)
  have cH : ∀ wx, Calls Tryd.prog 42 #[.agg #[.int .i64 1, .int .i64 x.term, .int .i64 0, .int .i64 x.vote, .string ⟨#[]⟩]] wx fun e w' => e = .returned (.string (showR ⟨1, x.term, 0, x.vote, ByteArray.empty⟩)) ∧ Below wx.heap.size wx w' := fun wx => specShowRec ⟨1, x.term, 0, x.vote, ByteArray.empty⟩ wx (Nat.zero_le _)
  have cFB := fun wx => spec_frame (showR ⟨4, x.bterm, x.base, 0, ByteArray.empty⟩) wx (by have := showR_size ⟨4, x.bterm, x.base, 0, ByteArray.empty⟩ (Nat.zero_le _); omega)
  have cFH := fun wx => spec_frame (showR ⟨1, x.term, 0, x.vote, ByteArray.empty⟩) wx (by have := showR_size ⟨1, x.term, 0, x.vote, ByteArray.empty⟩ (Nat.zero_le _); omega)
  have s1 := frame_size (showR ⟨4, x.bterm, x.base, 0, ByteArray.empty⟩)
  have s2 := frame_size (showR ⟨1, x.term, 0, x.vote, ByteArray.empty⟩)
  rw [ho] at cO
  rw [hN] at n60
  clear ho hdd
  generalize showR ⟨4, x.bterm, x.base, 0, ByteArray.empty⟩ = sb at *
  generalize showR ⟨1, x.term, 0, x.vote, ByteArray.empty⟩ = sh at *
  generalize frame sb = fb at *
  generalize frame sh = fh at *
  have g1 : ¬ 9223372036854775807 < fb.size + fh.size := by omega
  have qn : (n : Int) ≤ 60 := by omega
  clear s1 s2
  go_enter Tryd.func18, Tryd.ntmps18
  go_wp2_with fail
  generalize w.alloc (.cells #[.int .i64 x.term, .int .i64 x.vote, .int .i64 x.base, .int .i64 x.bterm, .slice A n cap] 26) = W at *
  refine (cO W (HV.out.on (b0.mono HB.out)) (Nat.le_trans HB.out b0.size)).mono ?_
  rintro e w1 ⟨rfl, hb1⟩
  have Dw1 : Hid (Below w.heap.size w w1) := b0.trans (hb1.mono b0.size)
  have Kw1 : Hid (Blk w1 w.heap.size #[.int .i64 x.term, .int .i64 x.vote, .int .i64 x.base, .int .i64 x.bterm, .slice A n cap] 26) := k0.on hb1 k0.lt
  clear hb1 cO k0 b0
  have S0 : Hid (w1.drew.cell? ⟨w.heap.size, 0, none⟩ = some (.int .i64 x.term) ∧ w1.drew.cell? ⟨w.heap.size, 1, none⟩ = some (.int .i64 x.vote) ∧ w1.drew.cell? ⟨w.heap.size, 2, none⟩ = some (.int .i64 x.base) ∧ w1.drew.cell? ⟨w.heap.size, 3, none⟩ = some (.int .i64 x.bterm) ∧ w1.drew.cell? ⟨w.heap.size, 4, none⟩ = some (.slice A n cap)) := ⟨Kw1.out.cell 0 _ rfl, Kw1.out.cell 1 _ rfl, Kw1.out.cell 2 _ rfl, Kw1.out.cell 3 _ rfl, Kw1.out.cell 4 _ rfl⟩
  have DraX : Hid (Below w.heap.size w w1.drew) := Dw1.out.drew
  have KraX : Hid (Blk w1.drew w.heap.size #[.int .i64 x.term, .int .i64 x.vote, .int .i64 x.base, .int .i64 x.bterm, .slice A n cap] 26) := Kw1.out
  clear Kw1 Dw1
  go_wp2_with fail
  refine wp_region_until (fun w' => w'.cell? ⟨w.heap.size, 0, none⟩ = some (.int .i64 x.term) ∧ w'.cell? ⟨w.heap.size, 1, none⟩ = some (.int .i64 x.vote) ∧ w'.cell? ⟨w.heap.size, 2, none⟩ = some (.int .i64 x.base) ∧ w'.cell? ⟨w.heap.size, 3, none⟩ = some (.int .i64 x.bterm) ∧ w'.cell? ⟨w.heap.size, 4, none⟩ = some (.slice A n cap)) (fun i => false) 16 (by rfl) (by kernel_rfl) ?_
  generalize w1.drew = raX at *
  refine until_take 0 (v := ?_) (by rfl) (by kernel_rfl) (by exact fun _ _ _ h => h) (by rfl) ?_ S0.out ?_
  rotate_left
  · intro w hSw
    try dsimp only at hSw
    go_simp
    try with_reducible rfl
  try simp only [Act.put, List.setIfInBounds_toArray, List.set_cons_zero, List.set_cons_succ]
  refine until_take 1 (v := ?_) (by rfl) (by kernel_rfl) (by exact fun _ _ _ h => h) (by rfl) ?_ S0.out ?_
  rotate_left
  · intro w hSw
    try dsimp only at hSw
    go_simp
    try with_reducible rfl
  try simp only [Act.put, List.setIfInBounds_toArray, List.set_cons_zero, List.set_cons_succ]
  refine until_take 2 (v := ?_) (by rfl) (by kernel_rfl) (by exact fun _ _ _ h => h) (by rfl) ?_ S0.out ?_
  rotate_left
  · intro w hSw
    try dsimp only at hSw
    go_simp
    try with_reducible rfl
  try simp only [Act.put, List.setIfInBounds_toArray, List.set_cons_zero, List.set_cons_succ]
  refine until_take 3 (v := ?_) (by rfl) (by kernel_rfl) (by exact fun _ _ _ h => h) (by rfl) ?_ S0.out ?_
  rotate_left
  · intro w hSw
    try dsimp only at hSw
    go_simp
    try with_reducible rfl
  try simp only [Act.put, List.setIfInBounds_toArray, List.set_cons_zero, List.set_cons_succ]
  refine until_pure 4 (v := ?_) (by rfl) (by kernel_rfl) (by exact fun _ _ _ h => h) (by rfl) ?_ ?_
  rotate_left
  · intro w
    go_simp
    try with_reducible rfl
  try simp only [Act.put, List.setIfInBounds_toArray, List.set_cons_zero, List.set_cons_succ]
  refine until_take 7 (v := ?_) (by rfl) (by kernel_rfl) (by exact fun _ _ _ h => h) (by rfl) ?_ S0.out ?_
  rotate_left
  · intro w hSw
    try dsimp only at hSw
    go_simp
    try with_reducible rfl
  try simp only [Act.put, List.setIfInBounds_toArray, List.set_cons_zero, List.set_cons_succ]
  refine until_take 8 (v := ?_) (by rfl) (by kernel_rfl) (by exact fun _ _ _ h => h) (by rfl) ?_ S0.out ?_
  rotate_left
  · intro w hSw
    try dsimp only at hSw
    go_simp
    try with_reducible rfl
  try simp only [Act.put, List.setIfInBounds_toArray, List.set_cons_zero, List.set_cons_succ]
  refine until_take 9 (v := ?_) (by rfl) (by kernel_rfl) (by exact fun _ _ _ h => h) (by rfl) ?_ S0.out ?_
  rotate_left
  · intro w hSw
    try dsimp only at hSw
    go_simp
    try with_reducible rfl
  try simp only [Act.put, List.setIfInBounds_toArray, List.set_cons_zero, List.set_cons_succ]
  refine until_take 10 (v := ?_) (by rfl) (by kernel_rfl) (by exact fun _ _ _ h => h) (by rfl) ?_ S0.out ?_
  rotate_left
  · intro w hSw
    try dsimp only at hSw
    go_simp
    try with_reducible rfl
  try simp only [Act.put, List.setIfInBounds_toArray, List.set_cons_zero, List.set_cons_succ]
  refine until_pure 11 (v := ?_) (by rfl) (by kernel_rfl) (by exact fun _ _ _ h => h) (by rfl) ?_ ?_
  rotate_left
  · intro w
    go_simp
    try with_reducible rfl
  try simp only [Act.put, List.setIfInBounds_toArray, List.set_cons_zero, List.set_cons_succ]
  refine until_one 5 (by rfl) (by kernel_rfl) (fun K hK => ?_)
  go_simp
  refine (cB raX).mono ?_
  rintro e ra0 ⟨rfl, hb⟩
  have Kra0 : Hid (Blk ra0 w.heap.size #[.int .i64 x.term, .int .i64 x.vote, .int .i64 x.base, .int .i64 x.bterm, .slice A n cap] 26) := KraX.out.on hb KraX.out.lt
  have Dra0 : Hid (Below w.heap.size w ra0) := DraX.out.trans (hb.mono DraX.out.size)
  clear hb KraX DraX
  go_wp2_with fail
  refine hK.out _ _ (fun _ _ => ⟨Kra0.out.cell 0 _ rfl, Kra0.out.cell 1 _ rfl, Kra0.out.cell 2 _ rfl, Kra0.out.cell 3 _ rfl, Kra0.out.cell 4 _ rfl⟩) ?_
  clear hK K
  try simp only [Act.put, List.setIfInBounds_toArray, List.set_cons_zero, List.set_cons_succ]
  refine until_one 6 (by rfl) (by kernel_rfl) (fun K hK => ?_)
  go_simp
  refine (cFB ra0).mono ?_
  rintro e ra1 ⟨rfl, hb⟩
  have Kra1 : Hid (Blk ra1 w.heap.size #[.int .i64 x.term, .int .i64 x.vote, .int .i64 x.base, .int .i64 x.bterm, .slice A n cap] 26) := Kra0.out.on hb Kra0.out.lt
  have Dra1 : Hid (Below w.heap.size w ra1) := Dra0.out.trans (hb.mono Dra0.out.size)
  clear hb Kra0 Dra0
  go_wp2_with fail
  refine hK.out _ _ (fun _ _ => ⟨Kra1.out.cell 0 _ rfl, Kra1.out.cell 1 _ rfl, Kra1.out.cell 2 _ rfl, Kra1.out.cell 3 _ rfl, Kra1.out.cell 4 _ rfl⟩) ?_
  clear hK K
  try simp only [Act.put, List.setIfInBounds_toArray, List.set_cons_zero, List.set_cons_succ]
  refine until_one 12 (by rfl) (by kernel_rfl) (fun K hK => ?_)
  go_simp
  refine (cH ra1).mono ?_
  rintro e ra2 ⟨rfl, hb⟩
  have Kra2 : Hid (Blk ra2 w.heap.size #[.int .i64 x.term, .int .i64 x.vote, .int .i64 x.base, .int .i64 x.bterm, .slice A n cap] 26) := Kra1.out.on hb Kra1.out.lt
  have Dra2 : Hid (Below w.heap.size w ra2) := Dra1.out.trans (hb.mono Dra1.out.size)
  clear hb Kra1 Dra1
  go_wp2_with fail
  refine hK.out _ _ (fun _ _ => ⟨Kra2.out.cell 0 _ rfl, Kra2.out.cell 1 _ rfl, Kra2.out.cell 2 _ rfl, Kra2.out.cell 3 _ rfl, Kra2.out.cell 4 _ rfl⟩) ?_
  clear hK K
  try simp only [Act.put, List.setIfInBounds_toArray, List.set_cons_zero, List.set_cons_succ]
  refine until_one 13 (by rfl) (by kernel_rfl) (fun K hK => ?_)
  go_simp
  refine (cFH ra2).mono ?_
  rintro e ra3 ⟨rfl, hb⟩
  have Kra3 : Hid (Blk ra3 w.heap.size #[.int .i64 x.term, .int .i64 x.vote, .int .i64 x.base, .int .i64 x.bterm, .slice A n cap] 26) := Kra2.out.on hb Kra2.out.lt
  have Dra3 : Hid (Below w.heap.size w ra3) := Dra2.out.trans (hb.mono Dra2.out.size)
  clear hb Kra2 Dra2
  go_wp2_with fail
  refine hK.out _ _ (fun _ _ => ⟨Kra3.out.cell 0 _ rfl, Kra3.out.cell 1 _ rfl, Kra3.out.cell 2 _ rfl, Kra3.out.cell 3 _ rfl, Kra3.out.cell 4 _ rfl⟩) ?_
  clear hK K
  try simp only [Act.put, List.setIfInBounds_toArray, List.set_cons_zero, List.set_cons_succ]
  refine until_pure 14 (v := ?_) (by rfl) (by kernel_rfl) (by exact fun _ _ _ h => h) (by rfl) ?_ ?_
  rotate_left
  · intro w
    go_simp
    try with_reducible rfl
  try simp only [Act.put, List.setIfInBounds_toArray, List.set_cons_zero, List.set_cons_succ]
  refine until_pure 15 (v := ?_) (by rfl) (by kernel_rfl) (by exact fun _ _ _ h => h) (by rfl) ?_ ?_
  rotate_left
  · intro w
    go_simp
    try with_reducible rfl
  try simp only [Act.put, List.setIfInBounds_toArray, List.set_cons_zero, List.set_cons_succ]
  refine until_done (by kernel_rfl) ?_ _
  clear S0
  rw [HC2.out]
  have st : Below w.heap.size w ra3 ∧ Blk ra3 w.heap.size #[.int .i64 x.term, .int .i64 x.vote, .int .i64 x.base, .int .i64 x.bterm, .slice A n cap] 26 := ⟨Dra3.out, Kra3.out⟩
  clear Kra3 Dra3 HC2 cB cH cFB cFH g1
  go_wp2_with fail
  go_loopw [3, 4] (fun v3 v4 wr => ∃ k : Nat, k ≤ n ∧ v4 = .int .i64 (k : Int) ∧ v3 = .string (catF (twoR x ++ entRecs x k)) ∧ Below w.heap.size w wr ∧ Blk wr w.heap.size #[.int .i64 x.term, .int .i64 x.vote, .int .i64 x.base, .int .i64 x.bterm, .slice A n cap] 26) (fun _ i _ => n - (intOf i).toNat)
  case atStart => exact ⟨0, by omega, rfl, rfl, st⟩
  case round =>
    obtain ⟨k, hk, rfl, rfl, hD, hK⟩ := hrel
    have Dwr : Hid (Below w.heap.size w wr) := hD
    have Kwr : Hid (Blk wr w.heap.size #[.int .i64 x.term, .int .i64 x.vote, .int .i64 x.base, .int .i64 x.bterm, .slice A n cap] 26) := hK
    clear hD hK st
    have e4 := Kwr.out.cell 4 (.slice A n cap) rfl
    by_cases hlt : k < n
    · have q4 : (k : Int) < (n : Int) := by omega
      obtain ⟨g, off, rfl, hg, hc0, hc1⟩ := HL.out k (by omega)
      have hgw : g < w.heap.size := Nat.lt_of_lt_of_le hg HB.out
      have HG : Hid (g < w.heap.size) := hgw
      have HM : Hid (catF (twoR x ++ entRecs x (k + 1)) = catF (twoR x ++ entRecs x k) ++ frame (showR (recAt x k))) := more_cat x k
      have hrs : (showR (recAt x k)).size ≤ 1000 := showR_size _ (HDD.out _ (getD_mem x.ents k (by omega)))
      have cR : ∀ wx, Calls Tryd.prog 42 #[.agg #[.int .i64 2, .int .i64 (x.ents.getD k default).term, .int .i64 (x.base + 1 + (k : Int)), .int .i64 0, .string (x.ents.getD k default).data]] wx fun e w' => e = .returned (.string (showR (recAt x k))) ∧ Below wx.heap.size wx w' := fun wx => specShowRec (recAt x k) wx (Nat.le_trans (HDD.out _ (getD_mem x.ents k (by omega))) (by omega))
      have cFR := fun wx => spec_frame (showR (recAt x k)) wx (by omega)
      have s1 := frame_size (showR (recAt x k))
      have s2 := catF_size (twoR x ++ entRecs x k)
      rw [List.length_append, entRecs_length] at s2
      have s3 : (twoR x).length = 2 := rfl
      have Z1 : Hid (IntKind.i64.wrap (x.base + 1) = x.base + 1) := by unfold Hid; rw [IntKind.wrap_i64]; omega
      have Z2 : Hid (IntKind.i64.wrap (x.base + 1 + (k : Int)) = x.base + 1 + (k : Int)) := by unfold Hid; rw [IntKind.wrap_i64]; omega
      generalize showR (recAt x k) = sr at *
      generalize frame sr = fr at *
      generalize catF (twoR x ++ entRecs x k) = sc at *
      have g2 : ¬ 9223372036854775807 < sc.size + fr.size := by omega
      generalize x.ents.getD k default = y at *
      obtain ⟨yt, yd⟩ := y
      simp only at hc0 hc1 cR
      have C0 : Hid (w.cell? ⟨g, off + k * 2, none⟩ = some (.int .i64 yt)) := hc0
      have C1 : Hid (w.cell? ⟨g, off + k * 2 + 1, none⟩ = some (.string yd)) := hc1
      clear hc0 hc1 hg hgw s1 s2 s3
      go_wp2_with fail
      clear e4
      have S0 : Hid (wr.drew.cell? ⟨w.heap.size, 0, none⟩ = some (.int .i64 x.term) ∧ wr.drew.cell? ⟨w.heap.size, 1, none⟩ = some (.int .i64 x.vote) ∧ wr.drew.cell? ⟨w.heap.size, 2, none⟩ = some (.int .i64 x.base) ∧ wr.drew.cell? ⟨w.heap.size, 3, none⟩ = some (.int .i64 x.bterm) ∧ wr.drew.cell? ⟨w.heap.size, 4, none⟩ = some (.slice (some ⟨g, off, none⟩) n cap) ∧ wr.drew.cell? ⟨g, off + k * 2, none⟩ = some (.int .i64 yt) ∧ wr.drew.cell? ⟨g, off + k * 2 + 1, none⟩ = some (.string yd)) := ⟨Kwr.out.cell 0 _ rfl, Kwr.out.cell 1 _ rfl, Kwr.out.cell 2 _ rfl, Kwr.out.cell 3 _ rfl, Kwr.out.cell 4 _ rfl, (Dwr.out.cell (p := ⟨g, _, none⟩) HG.out).trans C0.out, (Dwr.out.cell (p := ⟨g, _, none⟩) HG.out).trans C1.out⟩
      have DrbX : Hid (Below w.heap.size w wr.drew) := Dwr.out.drew
      have KrbX : Hid (Blk wr.drew w.heap.size #[.int .i64 x.term, .int .i64 x.vote, .int .i64 x.base, .int .i64 x.bterm, .slice (some ⟨g, off, none⟩) n cap] 26) := Kwr.out
      clear Kwr Dwr
      refine wp_region_until (fun w' => w'.cell? ⟨w.heap.size, 0, none⟩ = some (.int .i64 x.term) ∧ w'.cell? ⟨w.heap.size, 1, none⟩ = some (.int .i64 x.vote) ∧ w'.cell? ⟨w.heap.size, 2, none⟩ = some (.int .i64 x.base) ∧ w'.cell? ⟨w.heap.size, 3, none⟩ = some (.int .i64 x.bterm) ∧ w'.cell? ⟨w.heap.size, 4, none⟩ = some (.slice (some ⟨g, off, none⟩) n cap) ∧ w'.cell? ⟨g, off + k * 2, none⟩ = some (.int .i64 yt) ∧ w'.cell? ⟨g, off + k * 2 + 1, none⟩ = some (.string yd)) (fun i => false) 23 (by rfl) (by kernel_rfl) ?_
      generalize wr.drew = rbX at *
      refine until_pure 0 (v := ?_) (by rfl) (by kernel_rfl) (by exact fun _ _ _ h => h) (by rfl) ?_ ?_
      rotate_left
      · intro w
        go_simp
        try with_reducible rfl
      try simp only [Act.put, List.setIfInBounds_toArray, List.set_cons_zero, List.set_cons_succ]
      refine until_take 1 (v := ?_) (by rfl) (by kernel_rfl) (by exact fun _ _ _ h => h) (by rfl) ?_ S0.out ?_
      rotate_left
      · intro w hSw
        try dsimp only at hSw
        go_simp
        try with_reducible rfl
      try simp only [Act.put, List.setIfInBounds_toArray, List.set_cons_zero, List.set_cons_succ]
      refine until_take 2 (v := ?_) (by rfl) (by kernel_rfl) (by exact fun _ _ _ h => h) (by rfl) ?_ S0.out ?_
      rotate_left
      · intro w hSw
        try dsimp only at hSw
        go_simp
        try with_reducible rfl
      try simp only [Act.put, List.setIfInBounds_toArray, List.set_cons_zero, List.set_cons_succ]
      refine until_pure 3 (v := ?_) (by rfl) (by kernel_rfl) (by exact fun _ _ _ h => h) (by rfl) ?_ ?_
      rotate_left
      · intro w
        go_simp
        try with_reducible rfl
      try simp only [Act.put, List.setIfInBounds_toArray, List.set_cons_zero, List.set_cons_succ]
      refine until_pure 4 (v := ?_) (by rfl) (by kernel_rfl) (by exact fun _ _ _ h => h) (by rfl) ?_ ?_
      rotate_left
      · intro w
        go_simp
        try with_reducible rfl
      try simp only [Act.put, List.setIfInBounds_toArray, List.set_cons_zero, List.set_cons_succ]
      refine until_pure 5 (v := ?_) (by rfl) (by kernel_rfl) (by exact fun _ _ _ h => h) (by rfl) ?_ ?_
      rotate_left
      · intro w
        go_simp
        try with_reducible rfl
      try simp only [Act.put, List.setIfInBounds_toArray, List.set_cons_zero, List.set_cons_succ]
      refine until_take 6 (v := ?_) (by rfl) (by kernel_rfl) (by exact fun _ _ _ h => h) (by rfl) ?_ S0.out ?_
      rotate_left
      · intro w hSw
        try dsimp only at hSw
        go_simp
        try with_reducible rfl
      try simp only [Act.put, List.setIfInBounds_toArray, List.set_cons_zero, List.set_cons_succ]
      refine until_take 7 (v := ?_) (by rfl) (by kernel_rfl) (by exact fun _ _ _ h => h) (by rfl) ?_ S0.out ?_
      rotate_left
      · intro w hSw
        try dsimp only at hSw
        go_simp
        try with_reducible rfl
      try simp only [Act.put, List.setIfInBounds_toArray, List.set_cons_zero, List.set_cons_succ]
      refine until_take 8 (v := ?_) (by rfl) (by kernel_rfl) (by exact fun _ _ _ h => h) (by rfl) ?_ S0.out ?_
      rotate_left
      · intro w hSw
        try dsimp only at hSw
        go_simp
        try with_reducible rfl
      try simp only [Act.put, List.setIfInBounds_toArray, List.set_cons_zero, List.set_cons_succ]
      refine until_pure 9 (v := ?_) (by rfl) (by kernel_rfl) (by exact fun _ _ _ h => h) (by rfl) ?_ ?_
      rotate_left
      · intro w
        go_simp
        try with_reducible rfl
      try simp only [Act.put, List.setIfInBounds_toArray, List.set_cons_zero, List.set_cons_succ]
      refine until_pure 10 (v := ?_) (by rfl) (by kernel_rfl) (by exact fun _ _ _ h => h) (by rfl) ?_ ?_
      rotate_left
      · intro w
        go_simp
        try with_reducible rfl
      try simp only [Act.put, List.setIfInBounds_toArray, List.set_cons_zero, List.set_cons_succ]
      refine until_pure 11 (v := ?_) (by rfl) (by kernel_rfl) (by exact fun _ _ _ h => h) (by rfl) ?_ ?_
      rotate_left
      · intro w
        go_simp
        try with_reducible rfl
      try simp only [Act.put, List.setIfInBounds_toArray, List.set_cons_zero, List.set_cons_succ]
      refine until_take 12 (v := ?_) (by rfl) (by kernel_rfl) (by exact fun _ _ _ h => h) (by rfl) ?_ S0.out ?_
      rotate_left
      · intro w hSw
        try dsimp only at hSw
        go_simp
        try with_reducible rfl
      try simp only [Act.put, List.setIfInBounds_toArray, List.set_cons_zero, List.set_cons_succ]
      refine until_take 13 (v := ?_) (by rfl) (by kernel_rfl) (by exact fun _ _ _ h => h) (by rfl) ?_ S0.out ?_
      rotate_left
      · intro w hSw
        try dsimp only at hSw
        go_simp
        try with_reducible rfl
      try simp only [Act.put, List.setIfInBounds_toArray, List.set_cons_zero, List.set_cons_succ]
      refine until_pure 14 (v := ?_) (by rfl) (by kernel_rfl) (by exact fun _ _ _ h => h) (by rfl) ?_ ?_
      rotate_left
      · intro w
        go_simp
        try with_reducible rfl
      try simp only [Act.put, List.setIfInBounds_toArray, List.set_cons_zero, List.set_cons_succ]
      refine until_pure 15 (v := ?_) (by rfl) (by kernel_rfl) (by exact fun _ _ _ h => h) (by rfl) ?_ ?_
      rotate_left
      · intro w
        go_simp
        try with_reducible rfl
      try simp only [Act.put, List.setIfInBounds_toArray, List.set_cons_zero, List.set_cons_succ]
      refine until_pure 16 (v := ?_) (by rfl) (by kernel_rfl) (by exact fun _ _ _ h => h) (by rfl) ?_ ?_
      rotate_left
      · intro w
        go_simp
        try with_reducible rfl
      try simp only [Act.put, List.setIfInBounds_toArray, List.set_cons_zero, List.set_cons_succ]
      refine until_take 17 (v := ?_) (by rfl) (by kernel_rfl) (by exact fun _ _ _ h => h) (by rfl) ?_ S0.out ?_
      rotate_left
      · intro w hSw
        try dsimp only at hSw
        go_simp
        try with_reducible rfl
      try simp only [Act.put, List.setIfInBounds_toArray, List.set_cons_zero, List.set_cons_succ]
      refine until_pure 18 (v := ?_) (by rfl) (by kernel_rfl) (by exact fun _ _ _ h => h) (by rfl) ?_ ?_
      rotate_left
      · intro w
        go_simp
        try with_reducible rfl
      try simp only [Act.put, List.setIfInBounds_toArray, List.set_cons_zero, List.set_cons_succ]
      refine until_one 19 (by rfl) (by kernel_rfl) (fun K hK => ?_)
      go_simp
      rw [Z1.out, Z2.out]
      refine (cR rbX).mono ?_
      rintro e rb0 ⟨rfl, hb⟩
      have Krb0 : Hid (Blk rb0 w.heap.size #[.int .i64 x.term, .int .i64 x.vote, .int .i64 x.base, .int .i64 x.bterm, .slice (some ⟨g, off, none⟩) n cap] 26) := KrbX.out.on hb KrbX.out.lt
      have Drb0 : Hid (Below w.heap.size w rb0) := DrbX.out.trans (hb.mono DrbX.out.size)
      clear hb KrbX DrbX
      go_wp2_with fail
      refine hK.out _ _ (fun _ _ => ⟨Krb0.out.cell 0 _ rfl, Krb0.out.cell 1 _ rfl, Krb0.out.cell 2 _ rfl, Krb0.out.cell 3 _ rfl, Krb0.out.cell 4 _ rfl, (Drb0.out.cell (p := ⟨g, _, none⟩) HG.out).trans C0.out, (Drb0.out.cell (p := ⟨g, _, none⟩) HG.out).trans C1.out⟩) ?_
      clear hK K
      try simp only [Act.put, List.setIfInBounds_toArray, List.set_cons_zero, List.set_cons_succ]
      refine until_one 20 (by rfl) (by kernel_rfl) (fun K hK => ?_)
      go_simp
      refine (cFR rb0).mono ?_
      rintro e rb1 ⟨rfl, hb⟩
      have Krb1 : Hid (Blk rb1 w.heap.size #[.int .i64 x.term, .int .i64 x.vote, .int .i64 x.base, .int .i64 x.bterm, .slice (some ⟨g, off, none⟩) n cap] 26) := Krb0.out.on hb Krb0.out.lt
      have Drb1 : Hid (Below w.heap.size w rb1) := Drb0.out.trans (hb.mono Drb0.out.size)
      clear hb Krb0 Drb0
      go_wp2_with fail
      refine hK.out _ _ (fun _ _ => ⟨Krb1.out.cell 0 _ rfl, Krb1.out.cell 1 _ rfl, Krb1.out.cell 2 _ rfl, Krb1.out.cell 3 _ rfl, Krb1.out.cell 4 _ rfl, (Drb1.out.cell (p := ⟨g, _, none⟩) HG.out).trans C0.out, (Drb1.out.cell (p := ⟨g, _, none⟩) HG.out).trans C1.out⟩) ?_
      clear hK K
      try simp only [Act.put, List.setIfInBounds_toArray, List.set_cons_zero, List.set_cons_succ]
      refine until_pure 21 (v := ?_) (by rfl) (by kernel_rfl) (by exact fun _ _ _ h => h) (by rfl) ?_ ?_
      rotate_left
      · intro w
        go_simp
        try with_reducible rfl
      try simp only [Act.put, List.setIfInBounds_toArray, List.set_cons_zero, List.set_cons_succ]
      refine until_pure 22 (v := ?_) (by rfl) (by kernel_rfl) (by exact fun _ _ _ h => h) (by rfl) ?_ ?_
      rotate_left
      · intro w
        go_simp
        try with_reducible rfl
      try simp only [Act.put, List.setIfInBounds_toArray, List.set_cons_zero, List.set_cons_succ]
      refine until_done (by kernel_rfl) ?_ _
      clear S0
      go_wp2_with fail
      go_roundw
      case rel => exact ⟨k + 1, by omega, by go_num, by rw [HM.out], Drb1.out, Krb1.out⟩
      case measure => simp [intOf]; omega
    · obtain rfl : k = n := by omega
      go_wp2_with fail
      go_ret
      exact ⟨by rw [HE.out]; rfl, Dwr.out⟩
end Go.Proofs.YtajodeahigmcoaaDoor
