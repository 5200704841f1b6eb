/- WtSpec PlSpec PnSpec LawPlanLog -/
import Derived.Test.YtepffbgelaajnaaGreatDoorRows
import Derived.Test.YtepffbgelaajnaaGreatDoorQn13
import Derived.Test.YtepffbgelaajnaaGreatDoorQn12
import Derived.Test.YtepffbgelaajnaaGreatDoorQn17
import Derived.Deep.RegionHeld3
import Derived.Test.YtepffbgelaajnaaGreatDoorQn16
import Derived.Test.YtepffbgelaajnaaGreatDoorQn14
import Derived.Test.YtepffbgelaajnaaGreatDoorQn15
import Derived.Test.YtepffbgelaajnaaGreatDoorQn8
import Derived.Test.YtepffbgelaajnaaGreatDoorQn10
import Derived.Test.YtepffbgelaajnaaGreatDoorQn9
import Derived.Lib.OwnKind
open List (setIfInBounds_toArray set_cons_zero set_cons_succ)
namespace Go.Proofs.YtepffbgelaajnaaGreatDoor
open Go.ChangeShapes Go.WideShapes Go.ChangeAt Go.RowKit Go.PlainAid
set_option linter.unusedVariables false
def twoR (x : Wl) : List Rcd := [⟨4, x.bterm, x.base, 0, ByteArray.empty⟩, ⟨1, x.term, 0, x.vote, ByteArray.empty⟩]
theorem two_cat (x : Wl) : catF (twoR x) = frame (showR ⟨4, x.bterm, x.base, 0, ByteArray.empty⟩) ++ frame (showR ⟨1, x.term, 0, x.vote, ByteArray.empty⟩) := by
 unfold catF twoR
 simp only [List.foldl_cons, List.foldl_nil, ByteArray.empty_append]
theorem more_cat (x : Wl) (k : Nat) : catF (twoR x ++ entRecs x (k + 1)) = catF (twoR x ++ entRecs x k) ++ frame (showR (recAt x k)) := by
 rw [entRecs_succ, ← List.append_assoc, catF_snoc]
set_option maxRecDepth 20000 in
set_option maxHeartbeats 8000000 in
theorem specWalText (x : Wl) (v : Value) (w : World) (B : Nat) (hv : WalV w B v x) (hf : FitsW x) (hB : B ≤ w.heap.size) : Calls Tryz.prog 29 #[v] w fun e w' => e = .returned (.string (walT x)) ∧ Below w.heap.size w w' := by
 have HV : Hid (WalV w B v x) := hv
 have HB : Hid (B ≤ w.heap.size) := hB
 have cO := fun wx hx hb => specWalOk x v wx B hx hf hb
 have HE : Hid (walT x = if walOk x = true then catF (walRecs x) else ⟨#[]⟩) := rfl
 obtain ⟨u, rfl, hl⟩ := hv
 obtain ⟨A, cap, rfl, hlk⟩ := ent_look hl
 have HL : Hid (∀ j, j < x.ents.length → ∃ g off, A = some ⟨g, off, none⟩ ∧ g < B ∧ _) := hlk
 clear hB hf hl hlk
 generalize hN : x.ents.length = n at *
 have b0 : Below w.heap.size w (w.alloc (.cells #[.int .i64 x.term, .int .i64 x.vote, .int .i64 x.base, .int .i64 x.bterm, .slice A n cap] 42)) := (Below.refl _ _).alloc (Nat.le_refl _) _
 have k0 := Blk.new w #[.int .i64 x.term, .int .i64 x.vote, .int .i64 x.base, .int .i64 x.bterm, .slice A n cap] 42
 cases ho : walOk x
 ·rw [ho] at cO HE
  clear ho
  go_enter Tryz.func29, Tryz.ntmps29
  go_wp2_with fail
  generalize w.alloc (.cells #[.int .i64 x.term, .int .i64 x.vote, .int .i64 x.base, .int .i64 x.bterm, .slice A n cap] 42) = W at *
  refine (cO W (HV.out.on (b0.mono HB.out)) (Nat.le_trans HB.out b0.size)).mono ?_
  rintro e w1 ⟨rfl, hb1⟩
  have B1 : Hid (Below w.heap.size w w1) := b0.trans (hb1.mono b0.size)
  clear hb1 cO k0 b0
  go_wp2_with fail
  go_ret
  exact ⟨by rw [HE.out]; rfl, B1.out⟩
 obtain ⟨n60, ⟨base0, base1⟩, hdd⟩ := ok_in x ho
 have HE : Hid (walT x = catF (twoR x ++ entRecs x n)) := by unfold Hid; rw [HE.out, ho, ← hN]; rfl
 have HDD : Hid (∀ e ∈ x.ents, e.data.size ≤ 900) := hdd
 have HC2 : Hid (frame (showR ⟨4, x.bterm, x.base, 0, ByteArray.empty⟩) ++ frame (showR ⟨1, x.term, 0, x.vote, ByteArray.empty⟩) = catF (twoR x ++ entRecs x 0)) := by unfold Hid; rw [← two_cat]; simp [entRecs]
 have cB : ∀ wx, Calls Tryz.prog 66 #[.agg #[.int .i64 4, .int .i64 x.bterm, .int .i64 x.base, .int .i64 0, .string ⟨#[]⟩]] wx fun e w' => e = .returned (.string (showR ⟨4, x.bterm, x.base, 0, ByteArray.empty⟩)) ∧ Below wx.heap.size wx w' := fun wx => specShowRec ⟨4, x.bterm, x.base, 0, ByteArray.empty⟩ wx (Nat.zero_le _)
 have cH : ∀ wx, Calls Tryz.prog 66 #[.agg #[.int .i64 1, .int .i64 x.term, .int .i64 0, .int .i64 x.vote, .string ⟨#[]⟩]] wx fun e w' => e = .returned (.string (showR ⟨1, x.term, 0, x.vote, ByteArray.empty⟩)) ∧ Below wx.heap.size wx w' := fun wx => specShowRec ⟨1, x.term, 0, x.vote, ByteArray.empty⟩ wx (Nat.zero_le _)
 have cFB := fun wx => spec_frame (showR ⟨4, x.bterm, x.base, 0, ByteArray.empty⟩) wx (by have := showR_size ⟨4, x.bterm, x.base, 0, ByteArray.empty⟩ (Nat.zero_le _); omega)
 have cFH := fun wx => spec_frame (showR ⟨1, x.term, 0, x.vote, ByteArray.empty⟩) wx (by have := showR_size ⟨1, x.term, 0, x.vote, ByteArray.empty⟩ (Nat.zero_le _); omega)
 have s1 := frame_size (showR ⟨4, x.bterm, x.base, 0, ByteArray.empty⟩)
 have s2 := frame_size (showR ⟨1, x.term, 0, x.vote, ByteArray.empty⟩)
 rw [ho] at cO
 rw [hN] at n60
 clear ho hdd
 generalize showR ⟨4, x.bterm, x.base, 0, ByteArray.empty⟩ = sb at *
 generalize showR ⟨1, x.term, 0, x.vote, ByteArray.empty⟩ = sh at *
 generalize frame sb = fb at *
 generalize frame sh = fh at *
 have g1 : ¬ 9223372036854775807 < fb.size + fh.size := by omega
 have qn : (n : Int) ≤ 60 := by omega
 clear s1 s2
 go_enter Tryz.func29, Tryz.ntmps29
 go_wp2_with fail
 generalize w.alloc (.cells #[.int .i64 x.term, .int .i64 x.vote, .int .i64 x.base, .int .i64 x.bterm, .slice A n cap] 42) = W at *
 refine (cO W (HV.out.on (b0.mono HB.out)) (Nat.le_trans HB.out b0.size)).mono ?_
 rintro e w1 ⟨rfl, hb1⟩
 have Dw1 : Hid (Below w.heap.size w w1) := b0.trans (hb1.mono b0.size)
 have Kw1 : Hid (Blk w1 w.heap.size #[.int .i64 x.term, .int .i64 x.vote, .int .i64 x.base, .int .i64 x.bterm, .slice A n cap] 42) := k0.on hb1 k0.lt
 clear hb1 cO k0 b0
 have S0 : Hid (w1.drew.cell? ⟨w.heap.size, 0, none⟩ = some (.int .i64 x.term) ∧ w1.drew.cell? ⟨w.heap.size, 1, none⟩ = some (.int .i64 x.vote) ∧ w1.drew.cell? ⟨w.heap.size, 2, none⟩ = some (.int .i64 x.base) ∧ w1.drew.cell? ⟨w.heap.size, 3, none⟩ = some (.int .i64 x.bterm) ∧ w1.drew.cell? ⟨w.heap.size, 4, none⟩ = some (.slice A n cap)) := ⟨Kw1.out.cell 0 _ rfl, Kw1.out.cell 1 _ rfl, Kw1.out.cell 2 _ rfl, Kw1.out.cell 3 _ rfl, Kw1.out.cell 4 _ rfl⟩
 have DraX : Hid (Below w.heap.size w w1.drew) := Dw1.out.drew
 have KraX : Hid (Blk w1.drew w.heap.size #[.int .i64 x.term, .int .i64 x.vote, .int .i64 x.base, .int .i64 x.bterm, .slice A n cap] 42) := Kw1.out
 clear Kw1 Dw1
 go_wp2_with fail
 refine wp_region_until (fun w' => w'.cell? ⟨w.heap.size, 0, none⟩ = some (.int .i64 x.term) ∧ w'.cell? ⟨w.heap.size, 1, none⟩ = some (.int .i64 x.vote) ∧ w'.cell? ⟨w.heap.size, 2, none⟩ = some (.int .i64 x.base) ∧ w'.cell? ⟨w.heap.size, 3, none⟩ = some (.int .i64 x.bterm) ∧ w'.cell? ⟨w.heap.size, 4, none⟩ = some (.slice A n cap)) (fun i => false) 16 (by rfl) (by kernel_rfl) ?_
 generalize w1.drew = raX at *
 refine until_take 0 (v := ?_) (by rfl) (by kernel_rfl) (by exact fun _ _ _ h => h) (by rfl) ?_ S0.out ?_
 rotate_left
 ·intro w hSw
  try dsimp only at hSw
  go_simp
  try with_reducible rfl
 try simp only [Act.put, setIfInBounds_toArray, set_cons_zero, set_cons_succ]
 refine until_take 1 (v := ?_) (by rfl) (by kernel_rfl) (by exact fun _ _ _ h => h) (by rfl) ?_ S0.out ?_
 rotate_left
 ·intro w hSw
  try dsimp only at hSw
  go_simp
  try with_reducible rfl
 try simp only [Act.put, setIfInBounds_toArray, set_cons_zero, set_cons_succ]
 refine until_take 2 (v := ?_) (by rfl) (by kernel_rfl) (by exact fun _ _ _ h => h) (by rfl) ?_ S0.out ?_
 rotate_left
 ·intro w hSw
  try dsimp only at hSw
  go_simp
  try with_reducible rfl
 try simp only [Act.put, setIfInBounds_toArray, set_cons_zero, set_cons_succ]
 refine until_take 3 (v := ?_) (by rfl) (by kernel_rfl) (by exact fun _ _ _ h => h) (by rfl) ?_ S0.out ?_
 rotate_left
 ·intro w hSw
  try dsimp only at hSw
  go_simp
  try with_reducible rfl
 try simp only [Act.put, setIfInBounds_toArray, set_cons_zero, set_cons_succ]
 refine until_pure 4 (v := ?_) (by rfl) (by kernel_rfl) (by exact fun _ _ _ h => h) (by rfl) ?_ ?_
 rotate_left
 ·intro w
  go_simp
  try with_reducible rfl
 try simp only [Act.put, setIfInBounds_toArray, set_cons_zero, set_cons_succ]
 refine until_take 7 (v := ?_) (by rfl) (by kernel_rfl) (by exact fun _ _ _ h => h) (by rfl) ?_ S0.out ?_
 rotate_left
 ·intro w hSw
  try dsimp only at hSw
  go_simp
  try with_reducible rfl
 try simp only [Act.put, setIfInBounds_toArray, set_cons_zero, set_cons_succ]
 refine until_take 8 (v := ?_) (by rfl) (by kernel_rfl) (by exact fun _ _ _ h => h) (by rfl) ?_ S0.out ?_
 rotate_left
 ·intro w hSw
  try dsimp only at hSw
  go_simp
  try with_reducible rfl
 try simp only [Act.put, setIfInBounds_toArray, set_cons_zero, set_cons_succ]
 refine until_take 9 (v := ?_) (by rfl) (by kernel_rfl) (by exact fun _ _ _ h => h) (by rfl) ?_ S0.out ?_
 rotate_left
 ·intro w hSw
  try dsimp only at hSw
  go_simp
  try with_reducible rfl
 try simp only [Act.put, setIfInBounds_toArray, set_cons_zero, set_cons_succ]
 refine until_take 10 (v := ?_) (by rfl) (by kernel_rfl) (by exact fun _ _ _ h => h) (by rfl) ?_ S0.out ?_
 rotate_left
 ·intro w hSw
  try dsimp only at hSw
  go_simp
  try with_reducible rfl
 try simp only [Act.put, setIfInBounds_toArray, set_cons_zero, set_cons_succ]
 refine until_pure 11 (v := ?_) (by rfl) (by kernel_rfl) (by exact fun _ _ _ h => h) (by rfl) ?_ ?_
 rotate_left
 ·intro w
  go_simp
  try with_reducible rfl
 try simp only [Act.put, setIfInBounds_toArray, set_cons_zero, set_cons_succ]
 refine until_one 5 (by rfl) (by kernel_rfl) (fun K hK => ?_)
 go_simp
 refine (cB raX).mono ?_
 rintro e ra0 ⟨rfl, hb⟩
 have Kra0 : Hid (Blk ra0 w.heap.size #[.int .i64 x.term, .int .i64 x.vote, .int .i64 x.base, .int .i64 x.bterm, .slice A n cap] 42) := KraX.out.on hb KraX.out.lt
 have Dra0 : Hid (Below w.heap.size w ra0) := DraX.out.trans (hb.mono DraX.out.size)
 clear hb KraX DraX
 go_wp2_with fail
 refine hK.out _ _ (fun _ _ => ⟨Kra0.out.cell 0 _ rfl, Kra0.out.cell 1 _ rfl, Kra0.out.cell 2 _ rfl, Kra0.out.cell 3 _ rfl, Kra0.out.cell 4 _ rfl⟩) ?_
 clear hK K
 try simp only [Act.put, setIfInBounds_toArray, set_cons_zero, set_cons_succ]
 refine until_one 6 (by rfl) (by kernel_rfl) (fun K hK => ?_)
 go_simp
 refine (cFB ra0).mono ?_
 rintro e ra1 ⟨rfl, hb⟩
 have Kra1 : Hid (Blk ra1 w.heap.size #[.int .i64 x.term, .int .i64 x.vote, .int .i64 x.base, .int .i64 x.bterm, .slice A n cap] 42) := Kra0.out.on hb Kra0.out.lt
 have Dra1 : Hid (Below w.heap.size w ra1) := Dra0.out.trans (hb.mono Dra0.out.size)
 clear hb Kra0 Dra0
 go_wp2_with fail
 refine hK.out _ _ (fun _ _ => ⟨Kra1.out.cell 0 _ rfl, Kra1.out.cell 1 _ rfl, Kra1.out.cell 2 _ rfl, Kra1.out.cell 3 _ rfl, Kra1.out.cell 4 _ rfl⟩) ?_
 clear hK K
 try simp only [Act.put, setIfInBounds_toArray, set_cons_zero, set_cons_succ]
 refine until_one 12 (by rfl) (by kernel_rfl) (fun K hK => ?_)
 go_simp
 refine (cH ra1).mono ?_
 rintro e ra2 ⟨rfl, hb⟩
 have Kra2 : Hid (Blk ra2 w.heap.size #[.int .i64 x.term, .int .i64 x.vote, .int .i64 x.base, .int .i64 x.bterm, .slice A n cap] 42) := Kra1.out.on hb Kra1.out.lt
 have Dra2 : Hid (Below w.heap.size w ra2) := Dra1.out.trans (hb.mono Dra1.out.size)
 clear hb Kra1 Dra1
 go_wp2_with fail
 refine hK.out _ _ (fun _ _ => ⟨Kra2.out.cell 0 _ rfl, Kra2.out.cell 1 _ rfl, Kra2.out.cell 2 _ rfl, Kra2.out.cell 3 _ rfl, Kra2.out.cell 4 _ rfl⟩) ?_
 clear hK K
 try simp only [Act.put, setIfInBounds_toArray, set_cons_zero, set_cons_succ]
 refine until_one 13 (by rfl) (by kernel_rfl) (fun K hK => ?_)
 go_simp
 refine (cFH ra2).mono ?_
 rintro e ra3 ⟨rfl, hb⟩
 have Kra3 : Hid (Blk ra3 w.heap.size #[.int .i64 x.term, .int .i64 x.vote, .int .i64 x.base, .int .i64 x.bterm, .slice A n cap] 42) := Kra2.out.on hb Kra2.out.lt
 have Dra3 : Hid (Below w.heap.size w ra3) := Dra2.out.trans (hb.mono Dra2.out.size)
 clear hb Kra2 Dra2
 go_wp2_with fail
 refine hK.out _ _ (fun _ _ => ⟨Kra3.out.cell 0 _ rfl, Kra3.out.cell 1 _ rfl, Kra3.out.cell 2 _ rfl, Kra3.out.cell 3 _ rfl, Kra3.out.cell 4 _ rfl⟩) ?_
 clear hK K
 try simp only [Act.put, setIfInBounds_toArray, set_cons_zero, set_cons_succ]
 refine until_pure 14 (v := ?_) (by rfl) (by kernel_rfl) (by exact fun _ _ _ h => h) (by rfl) ?_ ?_
 rotate_left
 ·intro w
  go_simp
  try with_reducible rfl
 try simp only [Act.put, setIfInBounds_toArray, set_cons_zero, set_cons_succ]
 refine until_pure 15 (v := ?_) (by rfl) (by kernel_rfl) (by exact fun _ _ _ h => h) (by rfl) ?_ ?_
 rotate_left
 ·intro w
  go_simp
  try with_reducible rfl
 try simp only [Act.put, setIfInBounds_toArray, set_cons_zero, set_cons_succ]
 refine until_done (by kernel_rfl) ?_ _
 clear S0
 rw [HC2.out]
 have st : Below w.heap.size w ra3 ∧ Blk ra3 w.heap.size #[.int .i64 x.term, .int .i64 x.vote, .int .i64 x.base, .int .i64 x.bterm, .slice A n cap] 42 := ⟨Dra3.out, Kra3.out⟩
 clear Kra3 Dra3 HC2 cB cH cFB cFH g1
 go_wp2_with fail
 go_loopw [3, 4] (fun v3 v4 wr => ∃ k : Nat, k ≤ n ∧ v4 = .int .i64 (k : Int) ∧ v3 = .string (catF (twoR x ++ entRecs x k)) ∧ Below w.heap.size w wr ∧ Blk wr w.heap.size #[.int .i64 x.term, .int .i64 x.vote, .int .i64 x.base, .int .i64 x.bterm, .slice A n cap] 42) (fun _ i _ => n - (intOf i).toNat)
 case atStart => exact ⟨0, by omega, rfl, rfl, st⟩
 case round =>
  obtain ⟨k, hk, rfl, rfl, hD, hK⟩ := hrel
  have Dwr : Hid (Below w.heap.size w wr) := hD
  have Kwr : Hid (Blk wr w.heap.size #[.int .i64 x.term, .int .i64 x.vote, .int .i64 x.base, .int .i64 x.bterm, .slice A n cap] 42) := hK
  clear hD hK st
  have e4 := Kwr.out.cell 4 (.slice A n cap) rfl
  by_cases hlt : k < n
  ·have q4 : (k : Int) < (n : Int) := by omega
   obtain ⟨g, off, rfl, hg, hc0, hc1⟩ := HL.out k (by omega)
   have hgw : g < w.heap.size := Nat.lt_of_lt_of_le hg HB.out
   have HG : Hid (g < w.heap.size) := hgw
   have HM : Hid (catF (twoR x ++ entRecs x (k + 1)) = catF (twoR x ++ entRecs x k) ++ frame (showR (recAt x k))) := more_cat x k
   have hrs : (showR (recAt x k)).size ≤ 1000 := showR_size _ (HDD.out _ (getD_mem x.ents k (by omega)))
   have cR : ∀ wx, Calls Tryz.prog 66 #[.agg #[.int .i64 2, .int .i64 (x.ents.getD k default).term, .int .i64 (x.base + 1 + (k : Int)), .int .i64 0, .string (x.ents.getD k default).data]] wx fun e w' => e = .returned (.string (showR (recAt x k))) ∧ Below wx.heap.size wx w' := fun wx => specShowRec (recAt x k) wx (Nat.le_trans (HDD.out _ (getD_mem x.ents k (by omega))) (by omega))
   have cFR := fun wx => spec_frame (showR (recAt x k)) wx (by omega)
   have s1 := frame_size (showR (recAt x k))
   have s2 := catF_size (twoR x ++ entRecs x k)
   rw [List.length_append, entRecs_length] at s2
   have s3 : (twoR x).length = 2 := rfl
   have Z1 : Hid (IntKind.i64.wrap (x.base + 1) = x.base + 1) := by unfold Hid; rw [IntKind.wrap_i64]; omega
   have Z2 : Hid (IntKind.i64.wrap (x.base + 1 + (k : Int)) = x.base + 1 + (k : Int)) := by unfold Hid; rw [IntKind.wrap_i64]; omega
   generalize showR (recAt x k) = sr at *
   generalize frame sr = fr at *
   generalize catF (twoR x ++ entRecs x k) = sc at *
   have g2 : ¬ 9223372036854775807 < sc.size + fr.size := by omega
   generalize x.ents.getD k default = y at *
   obtain ⟨yt, yd⟩ := y
   simp only at hc0 hc1 cR
   have C0 : Hid (w.cell? ⟨g, off + k * 2, none⟩ = some (.int .i64 yt)) := hc0
   have C1 : Hid (w.cell? ⟨g, off + k * 2 + 1, none⟩ = some (.string yd)) := hc1
   clear hc0 hc1 hg hgw s1 s2 s3
   go_wp2_with fail
   clear e4
   have S0 : Hid (wr.drew.cell? ⟨w.heap.size, 0, none⟩ = some (.int .i64 x.term) ∧ wr.drew.cell? ⟨w.heap.size, 1, none⟩ = some (.int .i64 x.vote) ∧ wr.drew.cell? ⟨w.heap.size, 2, none⟩ = some (.int .i64 x.base) ∧ wr.drew.cell? ⟨w.heap.size, 3, none⟩ = some (.int .i64 x.bterm) ∧ wr.drew.cell? ⟨w.heap.size, 4, none⟩ = some (.slice (some ⟨g, off, none⟩) n cap) ∧ wr.drew.cell? ⟨g, off + k * 2, none⟩ = some (.int .i64 yt) ∧ wr.drew.cell? ⟨g, off + k * 2 + 1, none⟩ = some (.string yd)) := ⟨Kwr.out.cell 0 _ rfl, Kwr.out.cell 1 _ rfl, Kwr.out.cell 2 _ rfl, Kwr.out.cell 3 _ rfl, Kwr.out.cell 4 _ rfl, (Dwr.out.cell (p := ⟨g, _, none⟩) HG.out).trans C0.out, (Dwr.out.cell (p := ⟨g, _, none⟩) HG.out).trans C1.out⟩
   have DrbX : Hid (Below w.heap.size w wr.drew) := Dwr.out.drew
   have KrbX : Hid (Blk wr.drew w.heap.size #[.int .i64 x.term, .int .i64 x.vote, .int .i64 x.base, .int .i64 x.bterm, .slice (some ⟨g, off, none⟩) n cap] 42) := Kwr.out
   clear Kwr Dwr
   refine wp_region_until (fun w' => w'.cell? ⟨w.heap.size, 0, none⟩ = some (.int .i64 x.term) ∧ w'.cell? ⟨w.heap.size, 1, none⟩ = some (.int .i64 x.vote) ∧ w'.cell? ⟨w.heap.size, 2, none⟩ = some (.int .i64 x.base) ∧ w'.cell? ⟨w.heap.size, 3, none⟩ = some (.int .i64 x.bterm) ∧ w'.cell? ⟨w.heap.size, 4, none⟩ = some (.slice (some ⟨g, off, none⟩) n cap) ∧ w'.cell? ⟨g, off + k * 2, none⟩ = some (.int .i64 yt) ∧ w'.cell? ⟨g, off + k * 2 + 1, none⟩ = some (.string yd)) (fun i => false) 23 (by rfl) (by kernel_rfl) ?_
   generalize wr.drew = rbX at *
   refine until_pure 0 (v := ?_) (by rfl) (by kernel_rfl) (by exact fun _ _ _ h => h) (by rfl) ?_ ?_
   rotate_left
   ·intro w
    go_simp
    try with_reducible rfl
   try simp only [Act.put, setIfInBounds_toArray, set_cons_zero, set_cons_succ]
   refine until_take 1 (v := ?_) (by rfl) (by kernel_rfl) (by exact fun _ _ _ h => h) (by rfl) ?_ S0.out ?_
   rotate_left
   ·intro w hSw
    try dsimp only at hSw
    go_simp
    try with_reducible rfl
   try simp only [Act.put, setIfInBounds_toArray, set_cons_zero, set_cons_succ]
   refine until_take 2 (v := ?_) (by rfl) (by kernel_rfl) (by exact fun _ _ _ h => h) (by rfl) ?_ S0.out ?_
   rotate_left
   ·intro w hSw
    try dsimp only at hSw
    go_simp
    try with_reducible rfl
   try simp only [Act.put, setIfInBounds_toArray, set_cons_zero, set_cons_succ]
   refine until_pure 3 (v := ?_) (by rfl) (by kernel_rfl) (by exact fun _ _ _ h => h) (by rfl) ?_ ?_
   rotate_left
   ·intro w
    go_simp
    try with_reducible rfl
   try simp only [Act.put, setIfInBounds_toArray, set_cons_zero, set_cons_succ]
   refine until_pure 4 (v := ?_) (by rfl) (by kernel_rfl) (by exact fun _ _ _ h => h) (by rfl) ?_ ?_
   rotate_left
   ·intro w
    go_simp
    try with_reducible rfl
   try simp only [Act.put, setIfInBounds_toArray, set_cons_zero, set_cons_succ]
   refine until_pure 5 (v := ?_) (by rfl) (by kernel_rfl) (by exact fun _ _ _ h => h) (by rfl) ?_ ?_
   rotate_left
   ·intro w
    go_simp
    try with_reducible rfl
   try simp only [Act.put, setIfInBounds_toArray, set_cons_zero, set_cons_succ]
   refine until_take 6 (v := ?_) (by rfl) (by kernel_rfl) (by exact fun _ _ _ h => h) (by rfl) ?_ S0.out ?_
   rotate_left
   ·intro w hSw
    try dsimp only at hSw
    go_simp
    try with_reducible rfl
   try simp only [Act.put, setIfInBounds_toArray, set_cons_zero, set_cons_succ]
   refine until_take 7 (v := ?_) (by rfl) (by kernel_rfl) (by exact fun _ _ _ h => h) (by rfl) ?_ S0.out ?_
   rotate_left
   ·intro w hSw
    try dsimp only at hSw
    go_simp
    try with_reducible rfl
   try simp only [Act.put, setIfInBounds_toArray, set_cons_zero, set_cons_succ]
   refine until_take 8 (v := ?_) (by rfl) (by kernel_rfl) (by exact fun _ _ _ h => h) (by rfl) ?_ S0.out ?_
   rotate_left
   ·intro w hSw
    try dsimp only at hSw
    go_simp
    try with_reducible rfl
   try simp only [Act.put, setIfInBounds_toArray, set_cons_zero, set_cons_succ]
   refine until_pure 9 (v := ?_) (by rfl) (by kernel_rfl) (by exact fun _ _ _ h => h) (by rfl) ?_ ?_
   rotate_left
   ·intro w
    go_simp
    try with_reducible rfl
   try simp only [Act.put, setIfInBounds_toArray, set_cons_zero, set_cons_succ]
   refine until_pure 10 (v := ?_) (by rfl) (by kernel_rfl) (by exact fun _ _ _ h => h) (by rfl) ?_ ?_
   rotate_left
   ·intro w
    go_simp
    try with_reducible rfl
   try simp only [Act.put, setIfInBounds_toArray, set_cons_zero, set_cons_succ]
   refine until_pure 11 (v := ?_) (by rfl) (by kernel_rfl) (by exact fun _ _ _ h => h) (by rfl) ?_ ?_
   rotate_left
   ·intro w
    go_simp
    try with_reducible rfl
   try simp only [Act.put, setIfInBounds_toArray, set_cons_zero, set_cons_succ]
   refine until_take 12 (v := ?_) (by rfl) (by kernel_rfl) (by exact fun _ _ _ h => h) (by rfl) ?_ S0.out ?_
   rotate_left
   ·intro w hSw
    try dsimp only at hSw
    go_simp
    try with_reducible rfl
   try simp only [Act.put, setIfInBounds_toArray, set_cons_zero, set_cons_succ]
   refine until_take 13 (v := ?_) (by rfl) (by kernel_rfl) (by exact fun _ _ _ h => h) (by rfl) ?_ S0.out ?_
   rotate_left
   ·intro w hSw
    try dsimp only at hSw
    go_simp
    try with_reducible rfl
   try simp only [Act.put, setIfInBounds_toArray, set_cons_zero, set_cons_succ]
   refine until_pure 14 (v := ?_) (by rfl) (by kernel_rfl) (by exact fun _ _ _ h => h) (by rfl) ?_ ?_
   rotate_left
   ·intro w
    go_simp
    try with_reducible rfl
   try simp only [Act.put, setIfInBounds_toArray, set_cons_zero, set_cons_succ]
   refine until_pure 15 (v := ?_) (by rfl) (by kernel_rfl) (by exact fun _ _ _ h => h) (by rfl) ?_ ?_
   rotate_left
   ·intro w
    go_simp
    try with_reducible rfl
   try simp only [Act.put, setIfInBounds_toArray, set_cons_zero, set_cons_succ]
   refine until_pure 16 (v := ?_) (by rfl) (by kernel_rfl) (by exact fun _ _ _ h => h) (by rfl) ?_ ?_
   rotate_left
   ·intro w
    go_simp
    try with_reducible rfl
   try simp only [Act.put, setIfInBounds_toArray, set_cons_zero, set_cons_succ]
   refine until_take 17 (v := ?_) (by rfl) (by kernel_rfl) (by exact fun _ _ _ h => h) (by rfl) ?_ S0.out ?_
   rotate_left
   ·intro w hSw
    try dsimp only at hSw
    go_simp
    try with_reducible rfl
   try simp only [Act.put, setIfInBounds_toArray, set_cons_zero, set_cons_succ]
   refine until_pure 18 (v := ?_) (by rfl) (by kernel_rfl) (by exact fun _ _ _ h => h) (by rfl) ?_ ?_
   rotate_left
   ·intro w
    go_simp
    try with_reducible rfl
   try simp only [Act.put, setIfInBounds_toArray, set_cons_zero, set_cons_succ]
   refine until_one 19 (by rfl) (by kernel_rfl) (fun K hK => ?_)
   go_simp
   rw [Z1.out, Z2.out]
   refine (cR rbX).mono ?_
   rintro e rb0 ⟨rfl, hb⟩
   have Krb0 : Hid (Blk rb0 w.heap.size #[.int .i64 x.term, .int .i64 x.vote, .int .i64 x.base, .int .i64 x.bterm, .slice (some ⟨g, off, none⟩) n cap] 42) := KrbX.out.on hb KrbX.out.lt
   have Drb0 : Hid (Below w.heap.size w rb0) := DrbX.out.trans (hb.mono DrbX.out.size)
   clear hb KrbX DrbX
   go_wp2_with fail
   refine hK.out _ _ (fun _ _ => ⟨Krb0.out.cell 0 _ rfl, Krb0.out.cell 1 _ rfl, Krb0.out.cell 2 _ rfl, Krb0.out.cell 3 _ rfl, Krb0.out.cell 4 _ rfl, (Drb0.out.cell (p := ⟨g, _, none⟩) HG.out).trans C0.out, (Drb0.out.cell (p := ⟨g, _, none⟩) HG.out).trans C1.out⟩) ?_
   clear hK K
   try simp only [Act.put, setIfInBounds_toArray, set_cons_zero, set_cons_succ]
   refine until_one 20 (by rfl) (by kernel_rfl) (fun K hK => ?_)
   go_simp
   refine (cFR rb0).mono ?_
   rintro e rb1 ⟨rfl, hb⟩
   have Krb1 : Hid (Blk rb1 w.heap.size #[.int .i64 x.term, .int .i64 x.vote, .int .i64 x.base, .int .i64 x.bterm, .slice (some ⟨g, off, none⟩) n cap] 42) := Krb0.out.on hb Krb0.out.lt
   have Drb1 : Hid (Below w.heap.size w rb1) := Drb0.out.trans (hb.mono Drb0.out.size)
   clear hb Krb0 Drb0
   go_wp2_with fail
   refine hK.out _ _ (fun _ _ => ⟨Krb1.out.cell 0 _ rfl, Krb1.out.cell 1 _ rfl, Krb1.out.cell 2 _ rfl, Krb1.out.cell 3 _ rfl, Krb1.out.cell 4 _ rfl, (Drb1.out.cell (p := ⟨g, _, none⟩) HG.out).trans C0.out, (Drb1.out.cell (p := ⟨g, _, none⟩) HG.out).trans C1.out⟩) ?_
   clear hK K
   try simp only [Act.put, setIfInBounds_toArray, set_cons_zero, set_cons_succ]
   refine until_pure 21 (v := ?_) (by rfl) (by kernel_rfl) (by exact fun _ _ _ h => h) (by rfl) ?_ ?_
   rotate_left
   ·intro w
    go_simp
    try with_reducible rfl
   try simp only [Act.put, setIfInBounds_toArray, set_cons_zero, set_cons_succ]
   refine until_pure 22 (v := ?_) (by rfl) (by kernel_rfl) (by exact fun _ _ _ h => h) (by rfl) ?_ ?_
   rotate_left
   ·intro w
    go_simp
    try with_reducible rfl
   try simp only [Act.put, setIfInBounds_toArray, set_cons_zero, set_cons_succ]
   refine until_done (by kernel_rfl) ?_ _
   clear S0
   go_wp2_with fail
   go_roundw
   case rel => exact ⟨k + 1, by omega, by go_num, by rw [HM.out], Drb1.out, Krb1.out⟩
   case measure => simp [intOf]; omega
  ·obtain rfl : k = n := by omega
   go_wp2_with fail
   go_ret
   exact ⟨by rw [HE.out]; rfl, Dwr.out⟩
end Go.Proofs.YtepffbgelaajnaaGreatDoor
namespace Go.Proofs.YtepffbgelaajnaaGreatDoor
open Go.ChangeShapes Go.WideShapes Go.ChangeAt Go.RowKit Go.PlainAid
set_option linter.unusedVariables false
theorem load_has {d : Dsk} {name : ByteArray} (h : diskOk d = true) : (loadR d name).2 = (find d name).isSome := by
 rcases e : find d name with _ | k
 ·rw [loadR_none h e]
  rfl
 ·rw [loadR_some h e]
  rfl
set_option maxRecDepth 20000 in
set_option maxHeartbeats 4000000 in
theorem anewV (d : Dsk) (v : Value) (nm txt : ByteArray) (w : World) (B : Nat) (hv : DiskV w B v d) (hf : Fits d) (hw : wtD d ≤ 1048576) (hok : diskOk d = true) (hB : B ≤ w.heap.size) (hs : nm.size ≤ 1048576) :
  Calls Tryz.prog 28 #[v, .string nm, .string txt] w fun e w' => ∃ u, e = .returned u ∧ Owns w' w.heap.size 75 4 u (stpR (anewL d nm txt)) ∧ Below w.heap.size w w' := by
 have HV : Hid (DiskV w B v d) := hv
 have HB : Hid (B ≤ w.heap.size) := hB
 obtain ⟨u, ub, uc, rfl, _, _, _⟩ := hv
 have cL := fun wx hx hb => specLoadV d (.agg #[.int .i64 d.room, .int .i64 d.next, u, ub, uc]) (nm ++ dotNew) wx B hx hf hw hb
 rw [load_has hok] at cL
 generalize (loadR d (nm ++ dotNew)).1 = got at *
 have g1 : ¬ 9223372036854775807 < nm.size + 4 := by omega
 clear hs hok hf hw hB
 have HY := fun h => @anew_yes d nm txt h
 have HN := fun h => @anew_no d nm txt h
 have hb0 : Below w.heap.size w ((w.alloc (.cells #[.int .i64 d.room, .int .i64 d.next, u, ub, uc] 38)).alloc (.cells #[] 75)) := ((Below.refl _ w).alloc (Nat.le_refl _) _).alloc (by simp) _
 have hE := Owns.empty (w.alloc (.cells #[.int .i64 d.room, .int .i64 d.next, u, ub, uc] 38)) w.heap.size 75 4 (by rw [World.size_alloc]; omega)
 have k0 := (Blk.new w #[.int .i64 d.room, .int .i64 d.next, u, ub, uc] 38).alloc (.cells #[] 75)
 rw [World.size_alloc] at hE
 cases hh : (find d (nm ++ dotNew)).isSome
 ·have HR : Hid (stpR (anewL d nm txt) = stpR (five (nm ++ dotNew) nm txt)) := HN hh
  rw [hh] at cL
  clear HY HN hh
  unfold dotNew at *
  have y0 := k0.cell 0 _ rfl
  have y1 := k0.cell 1 _ rfl
  have y2 := k0.cell 2 _ rfl
  have y3 := k0.cell 3 _ rfl
  have y4 := k0.cell 4 _ rfl
  go_enter Tryz.func28, Tryz.ntmps28
  go_wp2_with fail
  generalize (w.alloc (.cells #[.int .i64 d.room, .int .i64 d.next, u, ub, uc] 38)).alloc (.cells #[] 75) = W at *
  have B0 : Hid (Below w.heap.size w W) := hb0
  refine (cL W (HV.out.on (B0.out.mono HB.out)) (Nat.le_trans HB.out B0.out.size)).mono ?_
  rintro e w1 ⟨rfl, hb1⟩
  have hO1 := hE.on hb1
  have B1 : Hid (Below w.heap.size w w1) := B0.out.trans (hb1.mono B0.out.size)
  clear cL hb0 hb1 hE k0 y0 y1 y2 y3 y4
  have hL := five_lies w1 (nm ++ ⟨#[46, 110, 101, 119]⟩) nm txt
  have bF : Below w.heap.size w1 (w1.alloc (.cells #[.int .i64 1, .string (nm ++ ⟨#[46, 110, 101, 119]⟩), .string ⟨#[]⟩, .string ⟨#[]⟩, .int .i64 2, .string (nm ++ ⟨#[46, 110, 101, 119]⟩), .string ⟨#[]⟩, .string txt, .int .i64 3, .string (nm ++ ⟨#[46, 110, 101, 119]⟩), .string ⟨#[]⟩, .string ⟨#[]⟩, .int .i64 4, .string (nm ++ ⟨#[46, 110, 101, 119]⟩), .string nm, .string ⟨#[]⟩, .int .i64 6, .string ⟨#[]⟩, .string ⟨#[]⟩, .string ⟨#[]⟩] 75)) := (Below.refl _ _).alloc B1.out.size _
  have oF := hO1.alloc (.cells #[.int .i64 1, .string (nm ++ ⟨#[46, 110, 101, 119]⟩), .string ⟨#[]⟩, .string ⟨#[]⟩, .int .i64 2, .string (nm ++ ⟨#[46, 110, 101, 119]⟩), .string ⟨#[]⟩, .string txt, .int .i64 3, .string (nm ++ ⟨#[46, 110, 101, 119]⟩), .string ⟨#[]⟩, .string ⟨#[]⟩, .int .i64 4, .string (nm ++ ⟨#[46, 110, 101, 119]⟩), .string nm, .string ⟨#[]⟩, .int .i64 6, .string ⟨#[]⟩, .string ⟨#[]⟩, .string ⟨#[]⟩] 75)
  have h1 := five_one (nm ++ ⟨#[46, 110, 101, 119]⟩) nm txt
  have s1 : ([] : List (List Value)).length + (stpR (five (nm ++ ⟨#[46, 110, 101, 119]⟩) nm txt)).length ≤ 2097152 := by simp [stpR, five]
  have s2 : w.heap.size ≤ (w1.alloc (.cells #[.int .i64 1, .string (nm ++ ⟨#[46, 110, 101, 119]⟩), .string ⟨#[]⟩, .string ⟨#[]⟩, .int .i64 2, .string (nm ++ ⟨#[46, 110, 101, 119]⟩), .string ⟨#[]⟩, .string txt, .int .i64 3, .string (nm ++ ⟨#[46, 110, 101, 119]⟩), .string ⟨#[]⟩, .string ⟨#[]⟩, .int .i64 4, .string (nm ++ ⟨#[46, 110, 101, 119]⟩), .string nm, .string ⟨#[]⟩, .int .i64 6, .string ⟨#[]⟩, .string ⟨#[]⟩, .string ⟨#[]⟩] 75)).heap.size := Nat.le_trans B1.out.size bF.size
  go_wp2_with (at_builtin; refine Shut.out ?_)
  unfold Shut
  refine wpList_append_all rfl _ _ 32 75 (.agg #[.int .i64 0, .string ⟨#[]⟩, .string ⟨#[]⟩, .string ⟨#[]⟩]) 4 56 rfl Tryz.underlying32 Tryz.infoStp rfl (by omega) w.heap.size _ _ _ (stpR (five (nm ++ ⟨#[46, 110, 101, 119]⟩) nm txt)) _ rfl oF hL h1 rfl s1 (by omega) s2 ?_
  intro v' w2 hO2 hb2 _ _
  go_wp2_with fail
  go_ret
  exact ⟨_, rfl, by rw [HR.out]; exact hO2, (B1.out.trans bF).trans hb2⟩
 ·have HR : Hid (stpR (anewL d nm txt) = stpR [⟨5, nm ++ dotNew, ⟨#[]⟩, ⟨#[]⟩⟩] ++ stpR (five (nm ++ dotNew) nm txt)) := HY hh
  rw [hh] at cL
  clear HY HN hh
  unfold dotNew at *
  have y0 := k0.cell 0 _ rfl
  have y1 := k0.cell 1 _ rfl
  have y2 := k0.cell 2 _ rfl
  have y3 := k0.cell 3 _ rfl
  have y4 := k0.cell 4 _ rfl
  go_enter Tryz.func28, Tryz.ntmps28
  go_wp2_with fail
  generalize (w.alloc (.cells #[.int .i64 d.room, .int .i64 d.next, u, ub, uc] 38)).alloc (.cells #[] 75) = W at *
  have B0 : Hid (Below w.heap.size w W) := hb0
  refine (cL W (HV.out.on (B0.out.mono HB.out)) (Nat.le_trans HB.out B0.out.size)).mono ?_
  rintro e w1 ⟨rfl, hb1⟩
  have hO1 := hE.on hb1
  have B1 : Hid (Below w.heap.size w w1) := B0.out.trans (hb1.mono B0.out.size)
  clear cL hb0 hb1 hE k0 y0 y1 y2 y3 y4
  have s0 := B1.out.size
  obtain ⟨f, hf⟩ : ∃ f, f = nm ++ (⟨#[46, 110, 101, 119]⟩ : ByteArray) := ⟨_, rfl⟩
  have HR1 := HR.out
  rw [← hf] at HR1
  have HR2 : Hid (stpR (anewL d nm txt) = stpR [⟨5, f, ⟨#[]⟩, ⟨#[]⟩⟩] ++ stpR (five f nm txt)) := HR1
  clear HR HR1
  have HF : Hid (f = nm ++ (⟨#[46, 110, 101, 119]⟩ : ByteArray)) := hf
  clear hf
  go_wp2_with (at_builtin; refine Shut.out ?_)
  unfold Shut
  rw [← HF.out]
  refine wpList_append_row (w := w1) rfl (.tmp 19) (.tmp 23) 32 75 (.agg #[.int .i64 0, .string ⟨#[]⟩, .string ⟨#[]⟩, .string ⟨#[]⟩]) 4 56 rfl Tryz.underlying32 Tryz.infoStp rfl (by omega) w.heap.size (.slice (some ⟨w.heap.size + 1, 0, none⟩) 0 0) [] rfl hO1 [.int .i64 5, .string f, .string ⟨#[]⟩, .string ⟨#[]⟩] rfl (by intro y hy; simp at hy; rcases hy with rfl | rfl | rfl | rfl <;> rfl) (by rfl) (by simp) (by omega) s0 ?_
  intro v' w2 hO2 hb2 _ _
  obtain ⟨A1, m1, c1, rfl⟩ := hO2.shape
  have hL := five_lies w2 f nm txt
  have B2 : Hid (Below w.heap.size w w2) := B1.out.trans hb2
  have bF : Below w.heap.size w2 (w2.alloc (.cells #[.int .i64 1, .string f, .string ⟨#[]⟩, .string ⟨#[]⟩, .int .i64 2, .string f, .string ⟨#[]⟩, .string txt, .int .i64 3, .string f, .string ⟨#[]⟩, .string ⟨#[]⟩, .int .i64 4, .string f, .string nm, .string ⟨#[]⟩, .int .i64 6, .string ⟨#[]⟩, .string ⟨#[]⟩, .string ⟨#[]⟩] 75)) := (Below.refl _ _).alloc B2.out.size _
  have oF := hO2.alloc (.cells #[.int .i64 1, .string f, .string ⟨#[]⟩, .string ⟨#[]⟩, .int .i64 2, .string f, .string ⟨#[]⟩, .string txt, .int .i64 3, .string f, .string ⟨#[]⟩, .string ⟨#[]⟩, .int .i64 4, .string f, .string nm, .string ⟨#[]⟩, .int .i64 6, .string ⟨#[]⟩, .string ⟨#[]⟩, .string ⟨#[]⟩] 75)
  have h1 := five_one f nm txt
  have s1 : (([] : List (List Value)) ++ ([[Value.int .i64 5, Value.string f, Value.string ⟨#[]⟩, Value.string ⟨#[]⟩]] : List (List Value))).length + (stpR (five f nm txt)).length ≤ 2097152 := by simp [stpR, five]
  have s2 : w.heap.size ≤ (w2.alloc (.cells #[.int .i64 1, .string f, .string ⟨#[]⟩, .string ⟨#[]⟩, .int .i64 2, .string f, .string ⟨#[]⟩, .string txt, .int .i64 3, .string f, .string ⟨#[]⟩, .string ⟨#[]⟩, .int .i64 4, .string f, .string nm, .string ⟨#[]⟩, .int .i64 6, .string ⟨#[]⟩, .string ⟨#[]⟩, .string ⟨#[]⟩] 75)).heap.size := Nat.le_trans B2.out.size bF.size
  clear hO1 hb2
  go_wp2_with (at_builtin; refine Shut.out ?_)
  unfold Shut
  rw [← HF.out]
  refine wpList_append_all rfl _ _ 32 75 (.agg #[.int .i64 0, .string ⟨#[]⟩, .string ⟨#[]⟩, .string ⟨#[]⟩]) 4 56 rfl Tryz.underlying32 Tryz.infoStp rfl (by omega) w.heap.size _ _ _ (stpR (five f nm txt)) _ rfl oF hL h1 rfl s1 (by omega) s2 ?_
  intro v' w3 hO3 hb3 _ _
  go_wp2_with fail
  go_ret
  exact ⟨_, rfl, by rw [HR2.out]; exact hO3, (B2.out.trans bF).trans hb3⟩
end Go.Proofs.YtepffbgelaajnaaGreatDoor
namespace Go.Proofs.YtepffbgelaajnaaGreatDoor
open Go.ChangeShapes Go.WideShapes Go.ChangeAt Go.RowKit Go.PlainAid
set_option linter.unusedVariables false
set_option maxRecDepth 20000 in
set_option maxHeartbeats 4000000 in
theorem specPlanSnap (x : Dsk) (s : Snp) (y : Wl) (v v1 : Value) (w : World) (B : Nat) (hv : DiskV w B v x) (hv1 : WalV w B v1 y) (hf : Fits x) (hf1 : FitsW y) (hd : s.data.size ≤ maxLen) (hw : wtD x ≤ 1048576) (hB : B ≤ w.heap.size) :
  Calls Tryz.prog 19 #[v, vSnp s, v1] w fun e w' => ∃ u, e = .returned u ∧ Owns w' w.heap.size 75 4 u (stpR (psnapR x s y)) ∧ Below w.heap.size w w' := by
 have HV : Hid (DiskV w B v x) := hv
 have HV1 : Hid (WalV w B v1 y) := hv1
 have HB : Hid (B ≤ w.heap.size) := hB
 have HF : Hid (Fits x) := hf
 have HW : Hid (wtD x ≤ 1048576) := hw
 have HF1 : Hid (FitsW y) := hf1
 have HD : Hid (s.data.size ≤ maxLen) := hd
 obtain ⟨u, ub, uc, rfl, _, _, _⟩ := hv
 obtain ⟨u1, rfl, _⟩ := hv1
 have cO := fun wx hx hb => specOkV x (.agg #[.int .i64 x.room, .int .i64 x.next, u, ub, uc]) wx B hx hf hw hb
 have cW := fun wx hx hb => specWalOk y (.agg #[.int .i64 y.term, .int .i64 y.vote, .int .i64 y.base, .int .i64 y.bterm, u1]) wx B hx HF1.out hb
 have cI := fun wx => specSnapOk s wx HD.out
 have cT := fun wx hx hb => specWalText y (.agg #[.int .i64 y.term, .int .i64 y.vote, .int .i64 y.base, .int .i64 y.bterm, u1]) wx B hx HF1.out hb
 have cN := fun wx => specShowSnap s wx HD.out
 unfold vSnp at *
 clear hB hf hw hf1 hd
 go_enter Tryz.func19, Tryz.ntmps19
 go_wp2_with fail
 have hb0 : Below w.heap.size w (((w.alloc (.cells #[.int .i64 x.room, .int .i64 x.next, u, ub, uc] 38)).alloc (.cells #[.int .i64 s.index, .int .i64 s.term, .string s.data] 55)).alloc (.cells #[.int .i64 y.term, .int .i64 y.vote, .int .i64 y.base, .int .i64 y.bterm, u1] 42)) := (((Below.refl _ w).alloc (Nat.le_refl _) _).alloc (by simp) _).alloc (by simp; omega) _
 have k0 := ((Blk.new w #[.int .i64 x.room, .int .i64 x.next, u, ub, uc] 38).alloc (.cells #[.int .i64 s.index, .int .i64 s.term, .string s.data] 55)).alloc (.cells #[.int .i64 y.term, .int .i64 y.vote, .int .i64 y.base, .int .i64 y.bterm, u1] 42)
 have s0 := (Blk.new (w.alloc (.cells #[.int .i64 x.room, .int .i64 x.next, u, ub, uc] 38)) #[.int .i64 s.index, .int .i64 s.term, .string s.data] 55).alloc (.cells #[.int .i64 y.term, .int .i64 y.vote, .int .i64 y.base, .int .i64 y.bterm, u1] 42)
 have j0 := Blk.new ((w.alloc (.cells #[.int .i64 x.room, .int .i64 x.next, u, ub, uc] 38)).alloc (.cells #[.int .i64 s.index, .int .i64 s.term, .string s.data] 55)) #[.int .i64 y.term, .int .i64 y.vote, .int .i64 y.base, .int .i64 y.bterm, u1] 42
 simp only [World.size_alloc] at j0 s0
 generalize ((w.alloc (.cells #[.int .i64 x.room, .int .i64 x.next, u, ub, uc] 38)).alloc (.cells #[.int .i64 s.index, .int .i64 s.term, .string s.data] 55)).alloc (.cells #[.int .i64 y.term, .int .i64 y.vote, .int .i64 y.base, .int .i64 y.bterm, u1] 42) = W at *
 have B0 : Hid (Below w.heap.size w W) := hb0
 have K0 : Hid (Blk W w.heap.size #[.int .i64 x.room, .int .i64 x.next, u, ub, uc] 38) := k0
 have S0 : Hid (Blk W (w.heap.size + 1) #[.int .i64 s.index, .int .i64 s.term, .string s.data] 55) := s0
 have J0 : Hid (Blk W (w.heap.size + 1 + 1) #[.int .i64 y.term, .int .i64 y.vote, .int .i64 y.base, .int .i64 y.bterm, u1] 42) := j0
 clear hb0 j0 s0 k0
 refine (cO W (HV.out.on (B0.out.mono HB.out)) (Nat.le_trans HB.out B0.out.size)).mono ?_
 rintro e w1 ⟨rfl, hb⟩
 have B1 : Hid (Below w.heap.size w w1) := B0.out.trans (hb.mono B0.out.size)
 have K1 : Hid (Blk w1 w.heap.size #[.int .i64 x.room, .int .i64 x.next, u, ub, uc] 38) := K0.out.on hb K0.out.lt
 have S1 : Hid (Blk w1 (w.heap.size + 1) #[.int .i64 s.index, .int .i64 s.term, .string s.data] 55) := S0.out.on hb S0.out.lt
 have J1 : Hid (Blk w1 (w.heap.size + 1 + 1) #[.int .i64 y.term, .int .i64 y.vote, .int .i64 y.base, .int .i64 y.bterm, u1] 42) := J0.out.on hb J0.out.lt
 clear hb cO K0 S0 J0
 cases hn : diskOk x
 ·have HR : Hid (psnapR x s y = []) := by unfold Hid psnapR; rw [if_neg (by rw [hn]; simp)]
  clear hn cW cT cI cN
  have hE := Owns.empty w1 w.heap.size 75 4 B1.out.size
  go_wp2_with fail
  go_ret
  exact ⟨_, rfl, by rw [HR.out]; exact hE, B1.out.alloc B1.out.size _⟩
 have HY : Hid (diskOk x = true) := hn
 clear hn
 have y0 := J1.out.cell 0 _ rfl
 have y1 := J1.out.cell 1 _ rfl
 have y2 := J1.out.cell 2 _ rfl
 have y3 := J1.out.cell 3 _ rfl
 have y4 := J1.out.cell 4 _ rfl
 go_wp2_with fail
 refine (cW w1 (HV1.out.on (B1.out.mono HB.out)) (Nat.le_trans HB.out B1.out.size)).mono ?_
 rintro e w2 ⟨rfl, hb⟩
 have B2 : Hid (Below w.heap.size w w2) := B1.out.trans (hb.mono B1.out.size)
 have K2 : Hid (Blk w2 w.heap.size #[.int .i64 x.room, .int .i64 x.next, u, ub, uc] 38) := K1.out.on hb K1.out.lt
 have S2 : Hid (Blk w2 (w.heap.size + 1) #[.int .i64 s.index, .int .i64 s.term, .string s.data] 55) := S1.out.on hb S1.out.lt
 have J2 : Hid (Blk w2 (w.heap.size + 1 + 1) #[.int .i64 y.term, .int .i64 y.vote, .int .i64 y.base, .int .i64 y.bterm, u1] 42) := J1.out.on hb J1.out.lt
 clear hb cW y0 y1 y2 y3 y4 B1 K1 S1 J1
 cases hk : walOk y
 ·have HR : Hid (psnapR x s y = []) := by unfold Hid psnapR; rw [if_neg (by rw [hk]; simp)]
  clear hk cT cI cN
  have hE := Owns.empty w2 w.heap.size 75 4 B2.out.size
  go_wp2_with fail
  go_ret
  exact ⟨_, rfl, by rw [HR.out]; exact hE, B2.out.alloc B2.out.size _⟩
 have HK : Hid (walOk y = true) := hk
 clear hk
 have y0 := S2.out.cell 0 _ rfl
 have y1 := S2.out.cell 1 _ rfl
 have y2 := S2.out.cell 2 _ rfl
 go_wp2_with fail
 refine (cI w2).mono ?_
 rintro e w3 ⟨rfl, hb⟩
 have B3 : Hid (Below w.heap.size w w3) := B2.out.trans (hb.mono B2.out.size)
 have K3 : Hid (Blk w3 w.heap.size #[.int .i64 x.room, .int .i64 x.next, u, ub, uc] 38) := K2.out.on hb K2.out.lt
 have S3 : Hid (Blk w3 (w.heap.size + 1) #[.int .i64 s.index, .int .i64 s.term, .string s.data] 55) := S2.out.on hb S2.out.lt
 have J3 : Hid (Blk w3 (w.heap.size + 1 + 1) #[.int .i64 y.term, .int .i64 y.vote, .int .i64 y.base, .int .i64 y.bterm, u1] 42) := J2.out.on hb J2.out.lt
 clear hb cI y0 y1 y2 B2 K2 S2 J2
 cases hs : snapOk s
 ·have HR : Hid (psnapR x s y = []) := by unfold Hid psnapR; rw [if_neg (by unfold isSn; rw [hs]; simp)]
  clear hs cT cN
  have hE := Owns.empty w3 w.heap.size 75 4 B3.out.size
  go_wp2_with fail
  go_ret
  exact ⟨_, rfl, by rw [HR.out]; exact hE, B3.out.alloc B3.out.size _⟩
 have z0 := S3.out.cell 0 (.int .i64 s.index) rfl
 by_cases hz : s.index = 0
 ·have z1 : decide (s.index = 0) = true := decide_eq_true hz
  have z2 : (s.index == 0) = true := by simpa using hz
  have HR : Hid (psnapR x s y = []) := by unfold Hid psnapR; rw [if_neg (by unfold isSn; rw [hs]; simp [hz])]
  clear hs cT cN hz
  have hE := Owns.empty w3 w.heap.size 75 4 B3.out.size
  go_wp2_with fail
  go_ret
  exact ⟨_, rfl, by rw [HR.out]; exact hE, B3.out.alloc B3.out.size _⟩
 have z1 : decide (s.index = 0) = false := decide_eq_false hz
 have z2 : (s.index == 0) = false := by simpa using hz
 have HR : Hid (psnapR x s y = anewL x snapN (showSn s) ++ anewL x logN (walT y)) := by unfold Hid psnapR; rw [if_pos ⟨HY.out, by unfold isSn; rw [hs]; simp [hz], HK.out⟩]
 clear hs hz
 have Q0 : Hid (w3.drew.cell? ⟨w.heap.size, 0, none⟩ = some (.int .i64 x.room) ∧ w3.drew.cell? ⟨w.heap.size, 1, none⟩ = some (.int .i64 x.next) ∧ w3.drew.cell? ⟨w.heap.size, 2, none⟩ = some (u) ∧ w3.drew.cell? ⟨w.heap.size, 3, none⟩ = some (ub) ∧ w3.drew.cell? ⟨w.heap.size, 4, none⟩ = some (uc) ∧ w3.drew.cell? ⟨w.heap.size + 1, 0, none⟩ = some (.int .i64 s.index) ∧ w3.drew.cell? ⟨w.heap.size + 1, 1, none⟩ = some (.int .i64 s.term) ∧ w3.drew.cell? ⟨w.heap.size + 1, 2, none⟩ = some (.string s.data) ∧ w3.drew.cell? ⟨w.heap.size + 1 + 1, 0, none⟩ = some (.int .i64 y.term) ∧ w3.drew.cell? ⟨w.heap.size + 1 + 1, 1, none⟩ = some (.int .i64 y.vote) ∧ w3.drew.cell? ⟨w.heap.size + 1 + 1, 2, none⟩ = some (.int .i64 y.base) ∧ w3.drew.cell? ⟨w.heap.size + 1 + 1, 3, none⟩ = some (.int .i64 y.bterm) ∧ w3.drew.cell? ⟨w.heap.size + 1 + 1, 4, none⟩ = some (u1)) := ⟨K3.out.cell 0 _ rfl, K3.out.cell 1 _ rfl, K3.out.cell 2 _ rfl, K3.out.cell 3 _ rfl, K3.out.cell 4 _ rfl, S3.out.cell 0 _ rfl, S3.out.cell 1 _ rfl, S3.out.cell 2 _ rfl, J3.out.cell 0 _ rfl, J3.out.cell 1 _ rfl, J3.out.cell 2 _ rfl, J3.out.cell 3 _ rfl, J3.out.cell 4 _ rfl⟩
 go_wp2_with fail
 refine wp_region_until (fun w' => w'.cell? ⟨w.heap.size, 0, none⟩ = some (.int .i64 x.room) ∧ w'.cell? ⟨w.heap.size, 1, none⟩ = some (.int .i64 x.next) ∧ w'.cell? ⟨w.heap.size, 2, none⟩ = some (u) ∧ w'.cell? ⟨w.heap.size, 3, none⟩ = some (ub) ∧ w'.cell? ⟨w.heap.size, 4, none⟩ = some (uc) ∧ w'.cell? ⟨w.heap.size + 1, 0, none⟩ = some (.int .i64 s.index) ∧ w'.cell? ⟨w.heap.size + 1, 1, none⟩ = some (.int .i64 s.term) ∧ w'.cell? ⟨w.heap.size + 1, 2, none⟩ = some (.string s.data) ∧ w'.cell? ⟨w.heap.size + 1 + 1, 0, none⟩ = some (.int .i64 y.term) ∧ w'.cell? ⟨w.heap.size + 1 + 1, 1, none⟩ = some (.int .i64 y.vote) ∧ w'.cell? ⟨w.heap.size + 1 + 1, 2, none⟩ = some (.int .i64 y.base) ∧ w'.cell? ⟨w.heap.size + 1 + 1, 3, none⟩ = some (.int .i64 y.bterm) ∧ w'.cell? ⟨w.heap.size + 1 + 1, 4, none⟩ = some (u1)) (fun i => false) 10 (by rfl) (by kernel_rfl) ?_
 have BX : Hid (Below w.heap.size w w3.drew) := B3.out.drew
 have KX : Hid (Blk w3.drew w.heap.size #[.int .i64 x.room, .int .i64 x.next, u, ub, uc] 38) := K3.out
 have SX : Hid (Blk w3.drew (w.heap.size + 1) #[.int .i64 s.index, .int .i64 s.term, .string s.data] 55) := S3.out
 have JX : Hid (Blk w3.drew (w.heap.size + 1 + 1) #[.int .i64 y.term, .int .i64 y.vote, .int .i64 y.base, .int .i64 y.bterm, u1] 42) := J3.out
 clear B3 K3 S3 J3
 generalize w3.drew = wX at *
 refine until_take 0 (v := ?_) (by rfl) (by kernel_rfl) (by exact fun _ _ _ h => h) (by rfl) ?_ Q0.out ?_
 rotate_left
 ·intro w hSw
  try dsimp only at hSw
  go_simp
  try with_reducible rfl
 try simp only [Act.put, setIfInBounds_toArray, set_cons_zero, set_cons_succ]
 refine until_take 1 (v := ?_) (by rfl) (by kernel_rfl) (by exact fun _ _ _ h => h) (by rfl) ?_ Q0.out ?_
 rotate_left
 ·intro w hSw
  try dsimp only at hSw
  go_simp
  try with_reducible rfl
 try simp only [Act.put, setIfInBounds_toArray, set_cons_zero, set_cons_succ]
 refine until_take 4 (v := ?_) (by rfl) (by kernel_rfl) (by exact fun _ _ _ h => h) (by rfl) ?_ Q0.out ?_
 rotate_left
 ·intro w hSw
  try dsimp only at hSw
  go_simp
  try with_reducible rfl
 try simp only [Act.put, setIfInBounds_toArray, set_cons_zero, set_cons_succ]
 refine until_take 5 (v := ?_) (by rfl) (by kernel_rfl) (by exact fun _ _ _ h => h) (by rfl) ?_ Q0.out ?_
 rotate_left
 ·intro w hSw
  try dsimp only at hSw
  go_simp
  try with_reducible rfl
 try simp only [Act.put, setIfInBounds_toArray, set_cons_zero, set_cons_succ]
 refine until_one 2 (by rfl) (by kernel_rfl) (fun K hK => ?_)
 go_simp
 refine (cN wX).mono ?_
 rintro e w4 ⟨rfl, hb4⟩
 have B4 : Hid (Below w.heap.size w w4) := BX.out.trans (hb4.mono BX.out.size)
 have K4 : Hid (Blk w4 w.heap.size #[.int .i64 x.room, .int .i64 x.next, u, ub, uc] 38) := KX.out.on hb4 KX.out.lt
 have S4 : Hid (Blk w4 (w.heap.size + 1) #[.int .i64 s.index, .int .i64 s.term, .string s.data] 55) := SX.out.on hb4 SX.out.lt
 have J4 : Hid (Blk w4 (w.heap.size + 1 + 1) #[.int .i64 y.term, .int .i64 y.vote, .int .i64 y.base, .int .i64 y.bterm, u1] 42) := JX.out.on hb4 JX.out.lt
 have P3 : Hid (w.heap.size < w4.heap.size) := K4.out.lt
 have P4 : Hid (w.heap.size + 1 < w4.heap.size) := S4.out.lt
 have P5 : Hid (w.heap.size + 1 + 1 < w4.heap.size) := J4.out.lt
 clear hb4 cN BX KX SX JX
 go_wp2_with fail
 refine hK.out _ _ (fun _ _ => ⟨K4.out.cell 0 _ rfl, K4.out.cell 1 _ rfl, K4.out.cell 2 _ rfl, K4.out.cell 3 _ rfl, K4.out.cell 4 _ rfl, S4.out.cell 0 _ rfl, S4.out.cell 1 _ rfl, S4.out.cell 2 _ rfl, J4.out.cell 0 _ rfl, J4.out.cell 1 _ rfl, J4.out.cell 2 _ rfl, J4.out.cell 3 _ rfl, J4.out.cell 4 _ rfl⟩) ?_
 clear hK K
 try simp only [Act.put, setIfInBounds_toArray, set_cons_zero, set_cons_succ]
 refine until_one 3 (by rfl) (by kernel_rfl) (fun K hK => ?_)
 go_simp
 have cR := anewV x (.agg #[.int .i64 x.room, .int .i64 x.next, u, ub, uc]) snapN (showSn s) w4 B (HV.out.on (B4.out.mono HB.out)) HF.out HW.out HY.out (Nat.le_trans HB.out B4.out.size) (by unfold snapN; decide)
 unfold snapN at cR
 refine cR.mono ?_
 rintro e w5 ⟨v5, rfl, hO5, hb5⟩
 have B5 : Hid (Below w.heap.size w w5) := B4.out.trans (hb5.mono B4.out.size)
 have K5 : Hid (Blk w5 w.heap.size #[.int .i64 x.room, .int .i64 x.next, u, ub, uc] 38) := K4.out.on hb5 K4.out.lt
 have S5 : Hid (Blk w5 (w.heap.size + 1) #[.int .i64 s.index, .int .i64 s.term, .string s.data] 55) := S4.out.on hb5 S4.out.lt
 have J5 : Hid (Blk w5 (w.heap.size + 1 + 1) #[.int .i64 y.term, .int .i64 y.vote, .int .i64 y.base, .int .i64 y.bterm, u1] 42) := J4.out.on hb5 J4.out.lt
 have O5 : Hid (Owns w5 w4.heap.size 75 4 v5 (stpR (anewL x snapN (showSn s)))) := hO5
 have C5 : Hid (Below w4.heap.size w4 w5) := hb5
 clear hb5 hO5 cR K4 S4 J4
 go_wp2_with fail
 refine hK.out _ _ (fun _ _ => ⟨K5.out.cell 0 _ rfl, K5.out.cell 1 _ rfl, K5.out.cell 2 _ rfl, K5.out.cell 3 _ rfl, K5.out.cell 4 _ rfl, S5.out.cell 0 _ rfl, S5.out.cell 1 _ rfl, S5.out.cell 2 _ rfl, J5.out.cell 0 _ rfl, J5.out.cell 1 _ rfl, J5.out.cell 2 _ rfl, J5.out.cell 3 _ rfl, J5.out.cell 4 _ rfl⟩) ?_
 clear hK K
 try simp only [Act.put, setIfInBounds_toArray, set_cons_zero, set_cons_succ]
 refine until_one 6 (by rfl) (by kernel_rfl) (fun K hK => ?_)
 go_simp
 refine (cT w5 (HV1.out.on (B5.out.mono HB.out)) (Nat.le_trans HB.out B5.out.size)).mono ?_
 rintro e w6 ⟨rfl, hb6⟩
 have B6 : Hid (Below w.heap.size w w6) := B5.out.trans (hb6.mono B5.out.size)
 have K6 : Hid (Blk w6 w.heap.size #[.int .i64 x.room, .int .i64 x.next, u, ub, uc] 38) := K5.out.on hb6 K5.out.lt
 have S6 : Hid (Blk w6 (w.heap.size + 1) #[.int .i64 s.index, .int .i64 s.term, .string s.data] 55) := S5.out.on hb6 S5.out.lt
 have J6 : Hid (Blk w6 (w.heap.size + 1 + 1) #[.int .i64 y.term, .int .i64 y.vote, .int .i64 y.base, .int .i64 y.bterm, u1] 42) := J5.out.on hb6 J5.out.lt
 have O6 : Hid (Owns w6 w4.heap.size 75 4 v5 (stpR (anewL x snapN (showSn s)))) := O5.out.on hb6
 have C6 : Hid (Below w4.heap.size w4 w6) := C5.out.trans (hb6.mono C5.out.size)
 clear hb6 cT B5 K5 S5 J5 O5 C5
 go_wp2_with fail
 refine hK.out _ _ (fun _ _ => ⟨K6.out.cell 0 _ rfl, K6.out.cell 1 _ rfl, K6.out.cell 2 _ rfl, K6.out.cell 3 _ rfl, K6.out.cell 4 _ rfl, S6.out.cell 0 _ rfl, S6.out.cell 1 _ rfl, S6.out.cell 2 _ rfl, J6.out.cell 0 _ rfl, J6.out.cell 1 _ rfl, J6.out.cell 2 _ rfl, J6.out.cell 3 _ rfl, J6.out.cell 4 _ rfl⟩) ?_
 clear hK K
 try simp only [Act.put, setIfInBounds_toArray, set_cons_zero, set_cons_succ]
 refine until_one 7 (by rfl) (by kernel_rfl) (fun K hK => ?_)
 go_simp
 have cR := anewV x (.agg #[.int .i64 x.room, .int .i64 x.next, u, ub, uc]) logN (walT y) w6 B (HV.out.on (B6.out.mono HB.out)) HF.out HW.out HY.out (Nat.le_trans HB.out B6.out.size) (by unfold logN; decide)
 unfold logN at cR
 refine cR.mono ?_
 rintro e w7 ⟨v7, rfl, hO7, hb7⟩
 have B7 : Hid (Below w.heap.size w w7) := B6.out.trans (hb7.mono B6.out.size)
 have K7 : Hid (Blk w7 w.heap.size #[.int .i64 x.room, .int .i64 x.next, u, ub, uc] 38) := K6.out.on hb7 K6.out.lt
 have S7 : Hid (Blk w7 (w.heap.size + 1) #[.int .i64 s.index, .int .i64 s.term, .string s.data] 55) := S6.out.on hb7 S6.out.lt
 have J7 : Hid (Blk w7 (w.heap.size + 1 + 1) #[.int .i64 y.term, .int .i64 y.vote, .int .i64 y.base, .int .i64 y.bterm, u1] 42) := J6.out.on hb7 J6.out.lt
 have O7 : Hid (Owns w7 w4.heap.size 75 4 v5 (stpR (anewL x snapN (showSn s)))) := O6.out.on hb7
 have L7 : Hid (Lies w7 w7.heap.size 4 v7 (stpR (anewL x logN (walT y)))) := hO7.lies
 have C7 : Hid (Below w4.heap.size w4 w7) := C6.out.trans (hb7.mono C6.out.size)
 clear hb7 hO7 cR B6 K6 S6 J6 O6 C6
 go_wp2_with fail
 refine hK.out _ _ (fun _ _ => ⟨K7.out.cell 0 _ rfl, K7.out.cell 1 _ rfl, K7.out.cell 2 _ rfl, K7.out.cell 3 _ rfl, K7.out.cell 4 _ rfl, S7.out.cell 0 _ rfl, S7.out.cell 1 _ rfl, S7.out.cell 2 _ rfl, J7.out.cell 0 _ rfl, J7.out.cell 1 _ rfl, J7.out.cell 2 _ rfl, J7.out.cell 3 _ rfl, J7.out.cell 4 _ rfl⟩) ?_
 clear hK K
 try simp only [Act.put, setIfInBounds_toArray, set_cons_zero, set_cons_succ]
 refine until_one 8 (by rfl) (by kernel_rfl) (fun K hK => ?_)
 have n1 : (stpR (anewL x snapN (showSn s))).length + (stpR (anewL x logN (walT y))).length ≤ 2097152 := by rw [stpR_length, stpR_length]; have := anewL_length x snapN (showSn s); have := anewL_length x logN (walT y); omega
 obtain ⟨Ap, mp, cp, w8, hr, hOp, hbp, hkp⟩ := run_append_all (P := Tryz.prog) w7 32 32 75 (.agg #[.int .i64 0, .string ⟨#[]⟩, .string ⟨#[]⟩, .string ⟨#[]⟩]) 4 56 Tryz.underlying32 Tryz.infoStp rfl (by omega) w4.heap.size _ _ _ _ w7.heap.size O7.out L7.out (stp_one _) n1 (by omega) C7.out.size
 refine step_append_run (by rfl) _ _ 32 (by rfl) _ _ _ _ (by rfl) (by rfl) hr ?_
 have O8 : Hid (Owns w8 w4.heap.size 75 4 (.slice Ap mp cp) (stpR (anewL x snapN (showSn s)) ++ stpR (anewL x logN (walT y)))) := hOp
 have B8 : Hid (Below w.heap.size w w8) := B7.out.trans (hbp.mono B4.out.size)
 have K8 : Hid (Blk w8 w.heap.size #[.int .i64 x.room, .int .i64 x.next, u, ub, uc] 38) := K7.out.on hbp P3.out
 have S8 : Hid (Blk w8 (w.heap.size + 1) #[.int .i64 s.index, .int .i64 s.term, .string s.data] 55) := S7.out.on hbp P4.out
 have J8 : Hid (Blk w8 (w.heap.size + 1 + 1) #[.int .i64 y.term, .int .i64 y.vote, .int .i64 y.base, .int .i64 y.bterm, u1] 42) := J7.out.on hbp P5.out
 clear hr hOp hbp hkp n1
 refine hK.out _ _ (fun _ _ => ⟨K8.out.cell 0 _ rfl, K8.out.cell 1 _ rfl, K8.out.cell 2 _ rfl, K8.out.cell 3 _ rfl, K8.out.cell 4 _ rfl, S8.out.cell 0 _ rfl, S8.out.cell 1 _ rfl, S8.out.cell 2 _ rfl, J8.out.cell 0 _ rfl, J8.out.cell 1 _ rfl, J8.out.cell 2 _ rfl, J8.out.cell 3 _ rfl, J8.out.cell 4 _ rfl⟩) ?_
 clear hK K
 try simp only [Act.put, setIfInBounds_toArray, set_cons_zero, set_cons_succ]
 refine until_pure 9 (v := ?_) (by rfl) (by kernel_rfl) (by exact fun _ _ _ h => h) (by rfl) ?_ ?_
 rotate_left
 ·intro w
  go_simp
  try with_reducible rfl
 try simp only [Act.put, setIfInBounds_toArray, set_cons_zero, set_cons_succ]
 clear Q0
 refine until_done (by kernel_rfl) ?_ _
 go_wp2_with fail
 go_ret
 exact ⟨_, rfl, by rw [HR.out, stpR_append]; exact O8.out.mono B4.out.size, B8.out⟩
end Go.Proofs.YtepffbgelaajnaaGreatDoor
namespace Go.Proofs.YtepffbgelaajnaaGreatDoor
open Go.ChangeShapes Go.WideShapes Go.ChangeAt Go.RowKit Go.PlainAid
set_option linter.unusedVariables false
theorem Owns.spare {w w' : World} {base : Nat} {e : TypeId} {sz : Nat} {v u : Value} {rows : List (List Value)} (h : Owns w base e sz v rows) (hk : ∀ g, g < w.heap.size → u.ownBlock ≠ some g → w'.heap[g]? = w.heap[g]?) (hu : ∀ g, u.ownBlock = some g → g < base) : Owns w' base e sz v rows :=
 h.kept fun g hg ho => hk g hg fun e => by have := hu g e; have := (h.lt g ho).1; omega
theorem Owns.past {w w' : World} {base C : Nat} {e : TypeId} {sz : Nat} {v : Value} {rows : List (List Value)} (h : Owns w base e sz v rows) (hk : ∀ g, C ≤ g → g < w.heap.size → w'.heap[g]? = w.heap[g]?) (hu : C ≤ base) : Owns w' base e sz v rows :=
 h.kept fun g hg ho => hk g (Nat.le_trans hu (h.lt g ho).1) hg
theorem Blk.past {w w' : World} {g C : Nat} {cs : Array Value} {t : TypeId} (h : Blk w g cs t) (hk : ∀ g, C ≤ g → g < w.heap.size → w'.heap[g]? = w.heap[g]?) (hu : C ≤ g) : Blk w' g cs t := by
 unfold Blk
 rw [hk g hu h.lt]
 exact h
theorem wt_parts {d : Dsk} (h : wtD d ≤ 1048576) : (nodR d.nods).length ≤ 1048576 ∧ (lnkR d.dir).length ≤ 1048576 ∧ (movR d.movs).length ≤ 1048576 := by
 unfold wtD at h
 rw [nodR_length, lnkR_length, movR_length]
 omega
end Go.Proofs.YtepffbgelaajnaaGreatDoor
