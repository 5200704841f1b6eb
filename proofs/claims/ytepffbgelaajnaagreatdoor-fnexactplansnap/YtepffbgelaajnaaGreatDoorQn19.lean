/- LawPlanSnap -/
import Derived.Test.YtepffbgelaajnaaGreatDoorRows
import Derived.Test.YtepffbgelaajnaaGreatDoorQn8
import Derived.Test.YtepffbgelaajnaaGreatDoorQn10
import Derived.Test.YtepffbgelaajnaaGreatDoorQn9
import Derived.Test.YtepffbgelaajnaaGreatDoorQn15
import Derived.Test.YtepffbgelaajnaaGreatDoorQn18
import Derived.Test.YtepffbgelaajnaaGreatDoorQn13
import Derived.Lib.OwnKind
open List (setIfInBounds_toArray set_cons_zero set_cons_succ)
namespace Go.Proofs.YtepffbgelaajnaaGreatDoor
open Go.ChangeShapes Go.WideShapes Go.ChangeAt Go.RowKit Go.PlainAid
set_option linter.unusedVariables false
set_option maxRecDepth 20000 in
set_option maxHeartbeats 100000000 in
theorem law_fnExactPlanSnap (x : Dsk) (v : Value) (s : Snp) (y : Wl) (v1 : Value) (w : World) (hv : DiskV w w.heap.size v x) (hf : Fits x) (hi : IntsOk x) (hv1 : WalV w w.heap.size v1 y) (hf1 : FitsW y) (hd : s.data.size ≤ maxLen) (ht : SumTab w) :
  Calls Tryz.prog 4 #[v, vSnp s, v1] w fun e w' => e = .returned (.bool true) ∧ Below w.heap.size w w' := by
 have HV : Hid (DiskV w w.heap.size v x) := hv
 have HV1 : Hid (WalV w w.heap.size v1 y) := hv1
 have HF : Hid (Fits x) := hf
 have HI : Hid (IntsOk x) := hi
 have HF1 : Hid (FitsW y) := hf1
 have HT : Hid (SumTab w) := ht
 have HD : Hid (s.data.size ≤ maxLen) := hd
 clear ht
 obtain ⟨u, ub, uc, rfl, h1, h1b, h1c⟩ := hv
 obtain ⟨u1, rfl, h2⟩ := hv1
 have cS := fun wx hx hb => szDisk x (.agg #[.int .i64 x.room, .int .i64 x.next, u, ub, uc]) wx w.heap.size 1048576 (by omega) (by omega) hx hf hb
 have cS1 := fun wx left h0 h1 hx hb => szWal y (.agg #[.int .i64 y.term, .int .i64 y.vote, .int .i64 y.base, .int .i64 y.bterm, u1]) wx w.heap.size left h0 h1 hx hf1 hb
 have cSg := fun wx left h0 h1 => szSnap s left wx h0 h1 HD.out
 have cQ := fun wx => toSnap s wx
 unfold vSnp at *
 clear h1 h1b h1c h2 hf hi hf1 hd
 go_enter Tryz.func4, Tryz.ntmps4
 go_wp2_with fail
 have hb0 : Below w.heap.size w (((w.alloc (.cells #[.int .i64 x.room, .int .i64 x.next, u, ub, uc] 26)).alloc (.cells #[.int .i64 s.index, .int .i64 s.term, .string s.data] 52)).alloc (.cells #[.int .i64 y.term, .int .i64 y.vote, .int .i64 y.base, .int .i64 y.bterm, u1] 29)) := (((Below.refl _ w).alloc (Nat.le_refl _) _).alloc (by simp) _).alloc (by simp; omega) _
 have k0 := ((Blk.new w #[.int .i64 x.room, .int .i64 x.next, u, ub, uc] 26).alloc (.cells #[.int .i64 s.index, .int .i64 s.term, .string s.data] 52)).alloc (.cells #[.int .i64 y.term, .int .i64 y.vote, .int .i64 y.base, .int .i64 y.bterm, u1] 29)
 have g0 := (Blk.new (w.alloc (.cells #[.int .i64 x.room, .int .i64 x.next, u, ub, uc] 26)) #[.int .i64 s.index, .int .i64 s.term, .string s.data] 52).alloc (.cells #[.int .i64 y.term, .int .i64 y.vote, .int .i64 y.base, .int .i64 y.bterm, u1] 29)
 have j0 := Blk.new ((w.alloc (.cells #[.int .i64 x.room, .int .i64 x.next, u, ub, uc] 26)).alloc (.cells #[.int .i64 s.index, .int .i64 s.term, .string s.data] 52)) #[.int .i64 y.term, .int .i64 y.vote, .int .i64 y.base, .int .i64 y.bterm, u1] 29
 simp only [World.size_alloc] at j0 g0
 generalize ((w.alloc (.cells #[.int .i64 x.room, .int .i64 x.next, u, ub, uc] 26)).alloc (.cells #[.int .i64 s.index, .int .i64 s.term, .string s.data] 52)).alloc (.cells #[.int .i64 y.term, .int .i64 y.vote, .int .i64 y.base, .int .i64 y.bterm, u1] 29) = w0 at *
 have Bw0 : Hid (Below w.heap.size w w0) := hb0
 have Kw0 : Hid (Blk w0 w.heap.size #[.int .i64 x.room, .int .i64 x.next, u, ub, uc] 26) := k0
 have Gw0 : Hid (Blk w0 (w.heap.size + 1) #[.int .i64 s.index, .int .i64 s.term, .string s.data] 52) := g0
 have Jw0 : Hid (Blk w0 (w.heap.size + 1 + 1) #[.int .i64 y.term, .int .i64 y.vote, .int .i64 y.base, .int .i64 y.bterm, u1] 29) := j0
 clear hb0 k0 j0 g0
 refine (cS w0 (HV.out.on Bw0.out) Bw0.out.size).mono ?_
 rintro e w1 ⟨q1, rfl, hr, hb1⟩
 have Bw1 : Hid (Below w.heap.size w w1) := Bw0.out.trans (hb1.mono Bw0.out.size)
 have Kw1 : Hid (Blk w1 w.heap.size #[.int .i64 x.room, .int .i64 x.next, u, ub, uc] 26) := Kw0.out.on hb1 Kw0.out.lt
 have Gw1 : Hid (Blk w1 (w.heap.size + 1) #[.int .i64 s.index, .int .i64 s.term, .string s.data] 52) := Gw0.out.on hb1 Gw0.out.lt
 have Jw1 : Hid (Blk w1 (w.heap.size + 1 + 1) #[.int .i64 y.term, .int .i64 y.vote, .int .i64 y.base, .int .i64 y.bterm, u1] 29) := Jw0.out.on hb1 Jw0.out.lt
 clear hb1 cS Bw0 Kw0 Gw0 Jw0
 rcases hr with rfl | ⟨hr0, hr1⟩
 ·go_wp2_with fail
  go_ret
  exact ⟨rfl, Bw1.out⟩
 have HW : Hid (wtD x ≤ 1048576) := by unfold Hid; omega
 have z1 : decide (q1 < 0) = false := decide_eq_false (by omega)
 have z2 : q1 ≤ 1048576 := by omega
 have y0 := Gw1.out.cell 0 (.int .i64 s.index) rfl
 have y1 := Gw1.out.cell 1 (.int .i64 s.term) rfl
 have y2 := Gw1.out.cell 2 (.string s.data) rfl
 go_wp2_with fail
 refine (cSg w1 q1 hr0 z2).mono ?_
 rintro e wv ⟨⟨q3, rfl, hg⟩, hb2⟩
 have Bwv : Hid (Below w.heap.size w wv) := Bw1.out.trans (hb2.mono Bw1.out.size)
 have Kwv : Hid (Blk wv w.heap.size #[.int .i64 x.room, .int .i64 x.next, u, ub, uc] 26) := Kw1.out.on hb2 Kw1.out.lt
 have Gwv : Hid (Blk wv (w.heap.size + 1) #[.int .i64 s.index, .int .i64 s.term, .string s.data] 52) := Gw1.out.on hb2 Gw1.out.lt
 have Jwv : Hid (Blk wv (w.heap.size + 1 + 1) #[.int .i64 y.term, .int .i64 y.vote, .int .i64 y.base, .int .i64 y.bterm, u1] 29) := Jw1.out.on hb2 Jw1.out.lt
 clear hb2 cSg y0 y1 y2 Bw1 Kw1 Gw1 Jw1
 rcases hg.out with rfl | ⟨hg0, hg1⟩
 ·go_wp2_with fail
  go_ret
  exact ⟨rfl, Bwv.out⟩
 have z5 : decide (q3 < 0) = false := decide_eq_false (by omega)
 have z6 : q3 ≤ 1048576 := by omega
 clear hg1
 have y0 := Jwv.out.cell 0 (.int .i64 y.term) rfl
 have y1 := Jwv.out.cell 1 (.int .i64 y.vote) rfl
 have y2 := Jwv.out.cell 2 (.int .i64 y.base) rfl
 have y3 := Jwv.out.cell 3 (.int .i64 y.bterm) rfl
 have y4 := Jwv.out.cell 4 (u1) rfl
 go_wp2_with fail
 refine (cS1 wv q3 hg0 z6 (HV1.out.on Bwv.out) Bwv.out.size).mono ?_
 rintro e w2 ⟨q2, rfl, hr', hb2⟩
 have Bw2 : Hid (Below w.heap.size w w2) := Bwv.out.trans (hb2.mono Bwv.out.size)
 have Kw2 : Hid (Blk w2 w.heap.size #[.int .i64 x.room, .int .i64 x.next, u, ub, uc] 26) := Kwv.out.on hb2 Kwv.out.lt
 have Gw2 : Hid (Blk w2 (w.heap.size + 1) #[.int .i64 s.index, .int .i64 s.term, .string s.data] 52) := Gwv.out.on hb2 Gwv.out.lt
 have Jw2 : Hid (Blk w2 (w.heap.size + 1 + 1) #[.int .i64 y.term, .int .i64 y.vote, .int .i64 y.base, .int .i64 y.bterm, u1] 29) := Jwv.out.on hb2 Jwv.out.lt
 clear hb2 cS1 y0 y1 y2 y3 y4 Bwv Kwv Gwv Jwv
 rcases hr' with rfl | ⟨hq0, hq1⟩
 ·go_wp2_with fail
  go_ret
  exact ⟨rfl, Bw2.out⟩
 have HW1 : Hid (wtW y ≤ 1048576) := by unfold Hid; omega
 have z3 : decide (q2 < 0) = false := decide_eq_false (by omega)
 have cT := fun wx hx hb => toDisk x (.agg #[.int .i64 x.room, .int .i64 x.next, u, ub, uc]) wx w.heap.size hx HW.out hb
 have cT1 := fun wx hx hb => toWal y (.agg #[.int .i64 y.term, .int .i64 y.vote, .int .i64 y.base, .int .i64 y.bterm, u1]) wx w.heap.size hx HW1.out hb
 have cSp := fun wx a b ha hb (_ : SumTab wx) => specPlanSnap x s y a b wx wx.heap.size ha hb HF.out HF1.out HD.out HW.out (Nat.le_refl _)
 have cG := fun wx a b ha hb ht => implPlanSnap x s y a b wx wx.heap.size ha hb HF.out HI.out HF1.out HD.out HW.out (Nat.le_refl _) ht
 unfold vSnp at cSp cG
 clear hr1 hq1 hr0 hq0 hg0
 have S0 : Hid (w2.drew.cell? ⟨w.heap.size, 0, none⟩ = some (.int .i64 x.room) ∧ w2.drew.cell? ⟨w.heap.size, 1, none⟩ = some (.int .i64 x.next) ∧ w2.drew.cell? ⟨w.heap.size, 2, none⟩ = some (u) ∧ w2.drew.cell? ⟨w.heap.size, 3, none⟩ = some (ub) ∧ w2.drew.cell? ⟨w.heap.size, 4, none⟩ = some (uc) ∧ w2.drew.cell? ⟨w.heap.size + 1, 0, none⟩ = some (.int .i64 s.index) ∧ w2.drew.cell? ⟨w.heap.size + 1, 1, none⟩ = some (.int .i64 s.term) ∧ w2.drew.cell? ⟨w.heap.size + 1, 2, none⟩ = some (.string s.data) ∧ w2.drew.cell? ⟨w.heap.size + 1 + 1, 0, none⟩ = some (.int .i64 y.term) ∧ w2.drew.cell? ⟨w.heap.size + 1 + 1, 1, none⟩ = some (.int .i64 y.vote) ∧ w2.drew.cell? ⟨w.heap.size + 1 + 1, 2, none⟩ = some (.int .i64 y.base) ∧ w2.drew.cell? ⟨w.heap.size + 1 + 1, 3, none⟩ = some (.int .i64 y.bterm) ∧ w2.drew.cell? ⟨w.heap.size + 1 + 1, 4, none⟩ = some (u1)) := ⟨Kw2.out.cell 0 _ rfl, Kw2.out.cell 1 _ rfl, Kw2.out.cell 2 _ rfl, Kw2.out.cell 3 _ rfl, Kw2.out.cell 4 _ rfl, Gw2.out.cell 0 _ rfl, Gw2.out.cell 1 _ rfl, Gw2.out.cell 2 _ rfl, Jw2.out.cell 0 _ rfl, Jw2.out.cell 1 _ rfl, Jw2.out.cell 2 _ rfl, Jw2.out.cell 3 _ rfl, Jw2.out.cell 4 _ rfl⟩
 go_wp2_with fail
 refine wp_region_until (fun w' => w'.cell? ⟨w.heap.size, 0, none⟩ = some (.int .i64 x.room) ∧ w'.cell? ⟨w.heap.size, 1, none⟩ = some (.int .i64 x.next) ∧ w'.cell? ⟨w.heap.size, 2, none⟩ = some (u) ∧ w'.cell? ⟨w.heap.size, 3, none⟩ = some (ub) ∧ w'.cell? ⟨w.heap.size, 4, none⟩ = some (uc) ∧ w'.cell? ⟨w.heap.size + 1, 0, none⟩ = some (.int .i64 s.index) ∧ w'.cell? ⟨w.heap.size + 1, 1, none⟩ = some (.int .i64 s.term) ∧ w'.cell? ⟨w.heap.size + 1, 2, none⟩ = some (.string s.data) ∧ w'.cell? ⟨w.heap.size + 1 + 1, 0, none⟩ = some (.int .i64 y.term) ∧ w'.cell? ⟨w.heap.size + 1 + 1, 1, none⟩ = some (.int .i64 y.vote) ∧ w'.cell? ⟨w.heap.size + 1 + 1, 2, none⟩ = some (.int .i64 y.base) ∧ w'.cell? ⟨w.heap.size + 1 + 1, 3, none⟩ = some (.int .i64 y.bterm) ∧ w'.cell? ⟨w.heap.size + 1 + 1, 4, none⟩ = some (u1)) (fun i => false) 8 (by rfl) (by kernel_rfl) ?_
 have BraX : Hid (Below w.heap.size w w2.drew) := Bw2.out.drew
 have KraX : Hid (Blk w2.drew w.heap.size #[.int .i64 x.room, .int .i64 x.next, u, ub, uc] 26) := Kw2.out
 have GraX : Hid (Blk w2.drew (w.heap.size + 1) #[.int .i64 s.index, .int .i64 s.term, .string s.data] 52) := Gw2.out
 have JraX : Hid (Blk w2.drew (w.heap.size + 1 + 1) #[.int .i64 y.term, .int .i64 y.vote, .int .i64 y.base, .int .i64 y.bterm, u1] 29) := Jw2.out
 clear Bw2 Kw2 Gw2 Jw2
 generalize w2.drew = raX at *
 refine until_take 0 (v := ?_) (by rfl) (by kernel_rfl) (by exact fun _ _ _ h => h) (by rfl) ?_ S0.out ?_
 rotate_left
 ·intro w hSw
  try dsimp only at hSw
  go_simp
  try with_reducible rfl
 try simp only [Act.put, setIfInBounds_toArray, set_cons_zero, set_cons_succ]
 refine until_take 2 (v := ?_) (by rfl) (by kernel_rfl) (by exact fun _ _ _ h => h) (by rfl) ?_ S0.out ?_
 rotate_left
 ·intro w hSw
  try dsimp only at hSw
  go_simp
  try with_reducible rfl
 try simp only [Act.put, setIfInBounds_toArray, set_cons_zero, set_cons_succ]
 refine until_take 4 (v := ?_) (by rfl) (by kernel_rfl) (by exact fun _ _ _ h => h) (by rfl) ?_ S0.out ?_
 rotate_left
 ·intro w hSw
  try dsimp only at hSw
  go_simp
  try with_reducible rfl
 try simp only [Act.put, setIfInBounds_toArray, set_cons_zero, set_cons_succ]
 refine until_one 1 (by rfl) (by kernel_rfl) (fun K hK => ?_)
 go_simp
 refine (cT raX (HV.out.on BraX.out) BraX.out.size).mono ?_
 rintro e ra1 ⟨uara, rfl, hOa, hba⟩
 have Bra1 : Hid (Below w.heap.size w ra1) := BraX.out.trans (hba.mono BraX.out.size)
 have Kra1 : Hid (Blk ra1 w.heap.size #[.int .i64 x.room, .int .i64 x.next, u, ub, uc] 26) := KraX.out.on hba KraX.out.lt
 have Gra1 : Hid (Blk ra1 (w.heap.size + 1) #[.int .i64 s.index, .int .i64 s.term, .string s.data] 52) := GraX.out.on hba GraX.out.lt
 have Jra1 : Hid (Blk ra1 (w.heap.size + 1 + 1) #[.int .i64 y.term, .int .i64 y.vote, .int .i64 y.base, .int .i64 y.bterm, u1] 29) := JraX.out.on hba JraX.out.lt
 have UAra1 : Hid (DiskO ra1 raX.heap.size uara x) := hOa
 clear hba hOa
 clear BraX KraX GraX JraX
 go_wp2_with fail
 refine hK.out _ _ (fun _ _ => ⟨Kra1.out.cell 0 _ rfl, Kra1.out.cell 1 _ rfl, Kra1.out.cell 2 _ rfl, Kra1.out.cell 3 _ rfl, Kra1.out.cell 4 _ rfl, Gra1.out.cell 0 _ rfl, Gra1.out.cell 1 _ rfl, Gra1.out.cell 2 _ rfl, Jra1.out.cell 0 _ rfl, Jra1.out.cell 1 _ rfl, Jra1.out.cell 2 _ rfl, Jra1.out.cell 3 _ rfl, Jra1.out.cell 4 _ rfl⟩) ?_
 clear hK K
 try simp only [Act.put, setIfInBounds_toArray, set_cons_zero, set_cons_succ]
 refine until_one 3 (by rfl) (by kernel_rfl) (fun K hK => ?_)
 go_simp
 refine (cQ ra1).mono ?_
 rintro e ra2 ⟨rfl, hba⟩
 have Bra2 : Hid (Below w.heap.size w ra2) := Bra1.out.trans (hba.mono Bra1.out.size)
 have Kra2 : Hid (Blk ra2 w.heap.size #[.int .i64 x.room, .int .i64 x.next, u, ub, uc] 26) := Kra1.out.on hba Kra1.out.lt
 have Gra2 : Hid (Blk ra2 (w.heap.size + 1) #[.int .i64 s.index, .int .i64 s.term, .string s.data] 52) := Gra1.out.on hba Gra1.out.lt
 have Jra2 : Hid (Blk ra2 (w.heap.size + 1 + 1) #[.int .i64 y.term, .int .i64 y.vote, .int .i64 y.base, .int .i64 y.bterm, u1] 29) := Jra1.out.on hba Jra1.out.lt
 have UAra2 : Hid (DiskO ra2 raX.heap.size uara x) := UAra1.out.on hba
 clear hba UAra1
 clear Bra1 Kra1 Gra1 Jra1
 go_wp2_with fail
 refine hK.out _ _ (fun _ _ => ⟨Kra2.out.cell 0 _ rfl, Kra2.out.cell 1 _ rfl, Kra2.out.cell 2 _ rfl, Kra2.out.cell 3 _ rfl, Kra2.out.cell 4 _ rfl, Gra2.out.cell 0 _ rfl, Gra2.out.cell 1 _ rfl, Gra2.out.cell 2 _ rfl, Jra2.out.cell 0 _ rfl, Jra2.out.cell 1 _ rfl, Jra2.out.cell 2 _ rfl, Jra2.out.cell 3 _ rfl, Jra2.out.cell 4 _ rfl⟩) ?_
 clear hK K
 try simp only [Act.put, setIfInBounds_toArray, set_cons_zero, set_cons_succ]
 refine until_one 5 (by rfl) (by kernel_rfl) (fun K hK => ?_)
 go_simp
 refine (cT1 ra2 (HV1.out.on Bra2.out) Bra2.out.size).mono ?_
 rintro e ra3 ⟨ubra, rfl, hOa, hba⟩
 have Bra3 : Hid (Below w.heap.size w ra3) := Bra2.out.trans (hba.mono Bra2.out.size)
 have Kra3 : Hid (Blk ra3 w.heap.size #[.int .i64 x.room, .int .i64 x.next, u, ub, uc] 26) := Kra2.out.on hba Kra2.out.lt
 have Gra3 : Hid (Blk ra3 (w.heap.size + 1) #[.int .i64 s.index, .int .i64 s.term, .string s.data] 52) := Gra2.out.on hba Gra2.out.lt
 have Jra3 : Hid (Blk ra3 (w.heap.size + 1 + 1) #[.int .i64 y.term, .int .i64 y.vote, .int .i64 y.base, .int .i64 y.bterm, u1] 29) := Jra2.out.on hba Jra2.out.lt
 have UAra3 : Hid (DiskO ra3 raX.heap.size uara x) := UAra2.out.on hba
 have UBra3 : Hid (WalO ra3 ra2.heap.size ubra y) := hOa
 clear hba hOa UAra2
 clear Bra2 Kra2 Gra2 Jra2
 go_wp2_with fail
 refine hK.out _ _ (fun _ _ => ⟨Kra3.out.cell 0 _ rfl, Kra3.out.cell 1 _ rfl, Kra3.out.cell 2 _ rfl, Kra3.out.cell 3 _ rfl, Kra3.out.cell 4 _ rfl, Gra3.out.cell 0 _ rfl, Gra3.out.cell 1 _ rfl, Gra3.out.cell 2 _ rfl, Jra3.out.cell 0 _ rfl, Jra3.out.cell 1 _ rfl, Jra3.out.cell 2 _ rfl, Jra3.out.cell 3 _ rfl, Jra3.out.cell 4 _ rfl⟩) ?_
 clear hK K
 try simp only [Act.put, setIfInBounds_toArray, set_cons_zero, set_cons_succ]
 refine until_one 6 (by rfl) (by kernel_rfl) (fun K hK => ?_)
 go_simp
 refine (cSp ra3 uara ubra UAra3.out.look UBra3.out.lies (HT.out.on Bra3.out)).mono ?_
 rintro e w5 ⟨uS, rfl, hOra, hba⟩
 have Bw5 : Hid (Below w.heap.size w w5) := Bra3.out.trans (hba.mono Bra3.out.size)
 have Kw5 : Hid (Blk w5 w.heap.size #[.int .i64 x.room, .int .i64 x.next, u, ub, uc] 26) := Kra3.out.on hba Kra3.out.lt
 have Gw5 : Hid (Blk w5 (w.heap.size + 1) #[.int .i64 s.index, .int .i64 s.term, .string s.data] 52) := Gra3.out.on hba Gra3.out.lt
 have Jw5 : Hid (Blk w5 (w.heap.size + 1 + 1) #[.int .i64 y.term, .int .i64 y.vote, .int .i64 y.base, .int .i64 y.bterm, u1] 29) := Jra3.out.on hba Jra3.out.lt
 have HOra : Hid (Owns w5 ra3.heap.size 75 4 uS (stpR (psnapR x s y))) := hOra
 clear hba hOra UAra3 UBra3
 clear Bra3 Kra3 Gra3 Jra3
 go_wp2_with fail
 refine hK.out _ _ (fun _ _ => ⟨Kw5.out.cell 0 _ rfl, Kw5.out.cell 1 _ rfl, Kw5.out.cell 2 _ rfl, Kw5.out.cell 3 _ rfl, Kw5.out.cell 4 _ rfl, Gw5.out.cell 0 _ rfl, Gw5.out.cell 1 _ rfl, Gw5.out.cell 2 _ rfl, Jw5.out.cell 0 _ rfl, Jw5.out.cell 1 _ rfl, Jw5.out.cell 2 _ rfl, Jw5.out.cell 3 _ rfl, Jw5.out.cell 4 _ rfl⟩) ?_
 clear hK K
 try simp only [Act.put, setIfInBounds_toArray, set_cons_zero, set_cons_succ]
 refine until_pure 7 (v := ?_) (by rfl) (by kernel_rfl) (by exact fun _ _ _ h => h) (by rfl) ?_ ?_
 rotate_left
 ·intro w
  go_simp
  try with_reducible rfl
 try simp only [Act.put, setIfInBounds_toArray, set_cons_zero, set_cons_succ]
 clear S0
 refine until_done (by kernel_rfl) ?_ _
 have TS : Hid (Lies w5 w5.heap.size 4 uS (stpR (psnapR x s y))) := HOra.out.lies
 have LN : Hid ((psnapR x s y).length ≤ 12) := psnapR_length x s y
 have Cw5 : Hid (Below w5.heap.size w5 w5) := Below.refl _ _
 have LK : Hid (w.heap.size < w5.heap.size) := Kw5.out.lt
 have LG : Hid (w.heap.size + 1 < w5.heap.size) := Gw5.out.lt
 have LJ : Hid (w.heap.size + 1 + 1 < w5.heap.size) := Jw5.out.lt
 clear HOra
 have y0 := Kw5.out.cell 0 (.int .i64 x.room) rfl
 have y1 := Kw5.out.cell 1 (.int .i64 x.next) rfl
 have y2 := Kw5.out.cell 2 (u) rfl
 have y3 := Kw5.out.cell 3 (ub) rfl
 have y4 := Kw5.out.cell 4 (uc) rfl
 go_wp2_with fail
 refine (cT w5 (HV.out.on Bw5.out) Bw5.out.size).mono ?_
 rintro e w6 ⟨u6, rfl, hO6, hb6⟩
 have Bw6 : Hid (Below w.heap.size w w6) := Bw5.out.trans (hb6.mono Bw5.out.size)
 have Cw6 : Hid (Below w5.heap.size w5 w6) := Cw5.out.trans (hb6.mono Cw5.out.size)
 have Kw6 : Hid (Blk w6 w.heap.size #[.int .i64 x.room, .int .i64 x.next, u, ub, uc] 26) := Kw5.out.on hb6 Kw5.out.lt
 have Gw6 : Hid (Blk w6 (w.heap.size + 1) #[.int .i64 s.index, .int .i64 s.term, .string s.data] 52) := Gw5.out.on hb6 Gw5.out.lt
 have Jw6 : Hid (Blk w6 (w.heap.size + 1 + 1) #[.int .i64 y.term, .int .i64 y.vote, .int .i64 y.base, .int .i64 y.bterm, u1] 29) := Jw5.out.on hb6 Jw5.out.lt
 obtain ⟨z6, z6b, z6c, rfl, q6, q6b, q6c⟩ := hO6
 obtain ⟨A1, m1, c1, rfl⟩ := q6.shape
 obtain ⟨Ab, mb, cb, rfl⟩ := q6b.shape
 obtain ⟨Ac, mc, cc, rfl⟩ := q6c.shape
 have q3 : Rows3 w6 w5.heap.size w6.heap.size (.slice A1 m1 c1) (.slice Ab mb cb) (.slice Ac mc cc) (nodR x.nods) (lnkR x.dir) (movR x.movs) := ⟨q6, q6b, q6c, fun g hg => (q6.lt g hg).2, fun g hg => (q6b.lt g hg).2, fun g hg => (q6c.lt g hg).2⟩
 have bx : Below w6.heap.size w6 (w6.alloc (.cells #[.int .i64 x.room, .int .i64 x.next, .slice A1 m1 c1, .slice Ab mb cb, .slice Ac mc cc] 38)) := (Below.refl _ _).alloc (Nat.le_refl _) _
 have kx := Blk.new w6 #[.int .i64 x.room, .int .i64 x.next, .slice A1 m1 c1, .slice Ab mb cb, .slice Ac mc cc] 38
 have oX := q3.on bx
 have lx : w6.heap.size < (w6.alloc (.cells #[.int .i64 x.room, .int .i64 x.next, .slice A1 m1 c1, .slice Ab mb cb, .slice Ac mc cc] 38)).heap.size := by rw [World.size_alloc]; omega
 clear hb6 y0 y1 y2 y3 y4 Bw5 Kw5 Gw5 Jw5 Cw5 q6 q6b q6c q3
 have j0 := (Jw6.out.on bx Jw6.out.lt).cell 0 (.int .i64 y.term) rfl
 have j1 := (Jw6.out.on bx Jw6.out.lt).cell 1 (.int .i64 y.vote) rfl
 have j2 := (Jw6.out.on bx Jw6.out.lt).cell 2 (.int .i64 y.base) rfl
 have j3 := (Jw6.out.on bx Jw6.out.lt).cell 3 (.int .i64 y.bterm) rfl
 have j4 := (Jw6.out.on bx Jw6.out.lt).cell 4 (u1) rfl
 go_wp2_with fail
 generalize w6.alloc (.cells #[.int .i64 x.room, .int .i64 x.next, .slice A1 m1 c1, .slice Ab mb cb, .slice Ac mc cc] 38) = w7 at *
 have Bw7 : Hid (Below w.heap.size w w7) := Bw6.out.trans (bx.mono Bw6.out.size)
 have Cw7 : Hid (Below w5.heap.size w5 w7) := Cw6.out.trans (bx.mono Cw6.out.size)
 have Kw7 : Hid (Blk w7 w.heap.size #[.int .i64 x.room, .int .i64 x.next, u, ub, uc] 26) := Kw6.out.on bx Kw6.out.lt
 have Gw7 : Hid (Blk w7 (w.heap.size + 1) #[.int .i64 s.index, .int .i64 s.term, .string s.data] 52) := Gw6.out.on bx Gw6.out.lt
 have Jw7 : Hid (Blk w7 (w.heap.size + 1 + 1) #[.int .i64 y.term, .int .i64 y.vote, .int .i64 y.base, .int .i64 y.bterm, u1] 29) := Jw6.out.on bx Jw6.out.lt
 have P6 : Hid (w5.heap.size ≤ w6.heap.size) := Cw6.out.size
 clear j0 j1 j2 j3 j4 bx Bw6 Cw6 Kw6 Gw6 Jw6
 generalize w6.heap.size = px at *
 have Xw7 : Hid (Blk w7 px #[.int .i64 x.room, .int .i64 x.next, .slice A1 m1 c1, .slice Ab mb cb, .slice Ac mc cc] 38) := kx
 have Ow7 : Hid (Rows3 w7 w5.heap.size px (.slice A1 m1 c1) (.slice Ab mb cb) (.slice Ac mc cc) (nodR x.nods) (lnkR x.dir) (movR x.movs)) := oX
 have P7 : Hid (px < w7.heap.size) := lx
 clear kx oX lx
 refine (cT1 w7 (HV1.out.on Bw7.out) Bw7.out.size).mono ?_
 rintro e w8 ⟨u8, rfl, hO8, hb8⟩
 have Bw8 : Hid (Below w.heap.size w w8) := Bw7.out.trans (hb8.mono Bw7.out.size)
 have Cw8 : Hid (Below w5.heap.size w5 w8) := Cw7.out.trans (hb8.mono Cw7.out.size)
 have Kw8 : Hid (Blk w8 w.heap.size #[.int .i64 x.room, .int .i64 x.next, u, ub, uc] 26) := Kw7.out.on hb8 Kw7.out.lt
 have Gw8 : Hid (Blk w8 (w.heap.size + 1) #[.int .i64 s.index, .int .i64 s.term, .string s.data] 52) := Gw7.out.on hb8 Gw7.out.lt
 have Jw8 : Hid (Blk w8 (w.heap.size + 1 + 1) #[.int .i64 y.term, .int .i64 y.vote, .int .i64 y.base, .int .i64 y.bterm, u1] 29) := Jw7.out.on hb8 Jw7.out.lt
 have Xw8 : Hid (Blk w8 px #[.int .i64 x.room, .int .i64 x.next, .slice A1 m1 c1, .slice Ab mb cb, .slice Ac mc cc] 38) := Xw7.out.on hb8 Xw7.out.lt
 have Ow8 : Hid (Rows3 w8 w5.heap.size px (.slice A1 m1 c1) (.slice Ab mb cb) (.slice Ac mc cc) (nodR x.nods) (lnkR x.dir) (movR x.movs)) := Ow7.out.on hb8
 obtain ⟨z8, rfl, q8⟩ := hO8
 obtain ⟨A2, m2, c2, rfl⟩ := q8.shape
 have BC7 : Hid (w5.heap.size ≤ w7.heap.size) := Cw7.out.size
 have by8 : Below w8.heap.size w8 (w8.alloc (.cells #[.int .i64 y.term, .int .i64 y.vote, .int .i64 y.base, .int .i64 y.bterm, .slice A2 m2 c2] 42)) := (Below.refl _ _).alloc (Nat.le_refl _) _
 have ky := Blk.new w8 #[.int .i64 y.term, .int .i64 y.vote, .int .i64 y.base, .int .i64 y.bterm, .slice A2 m2 c2] 42
 have oY := q8.on by8
 have C78 : w7.heap.size ≤ w8.heap.size := hb8.size
 have C78H : Hid (w7.heap.size ≤ w8.heap.size) := C78
 have C79' : w7.heap.size ≤ (w8.alloc (.cells #[.int .i64 y.term, .int .i64 y.vote, .int .i64 y.base, .int .i64 y.bterm, .slice A2 m2 c2] 42)).heap.size := Nat.le_trans C78 by8.size
 have C79 : Hid (w7.heap.size ≤ (w8.alloc (.cells #[.int .i64 y.term, .int .i64 y.vote, .int .i64 y.base, .int .i64 y.bterm, .slice A2 m2 c2] 42)).heap.size) := C79'
 clear hb8 Bw7 Cw7 Kw7 Gw7 Jw7 Xw7 Ow7 C78 C79'
 go_wp2_with fail
 generalize w8.alloc (.cells #[.int .i64 y.term, .int .i64 y.vote, .int .i64 y.base, .int .i64 y.bterm, .slice A2 m2 c2] 42) = w9 at *
 have Bw9 : Hid (Below w.heap.size w w9) := Bw8.out.trans (by8.mono Bw8.out.size)
 have Cw9 : Hid (Below w5.heap.size w5 w9) := Cw8.out.trans (by8.mono Cw8.out.size)
 have Kw9 : Hid (Blk w9 w.heap.size #[.int .i64 x.room, .int .i64 x.next, u, ub, uc] 26) := Kw8.out.on by8 Kw8.out.lt
 have Gw9 : Hid (Blk w9 (w.heap.size + 1) #[.int .i64 s.index, .int .i64 s.term, .string s.data] 52) := Gw8.out.on by8 Gw8.out.lt
 have Jw9 : Hid (Blk w9 (w.heap.size + 1 + 1) #[.int .i64 y.term, .int .i64 y.vote, .int .i64 y.base, .int .i64 y.bterm, u1] 29) := Jw8.out.on by8 Jw8.out.lt
 have Xw9 : Hid (Blk w9 px #[.int .i64 x.room, .int .i64 x.next, .slice A1 m1 c1, .slice Ab mb cb, .slice Ac mc cc] 38) := Xw8.out.on by8 Xw8.out.lt
 have Ow9 : Hid (Rows3 w9 w5.heap.size px (.slice A1 m1 c1) (.slice Ab mb cb) (.slice Ac mc cc) (nodR x.nods) (lnkR x.dir) (movR x.movs)) := Ow8.out.on by8
 clear by8 Bw8 Cw8 Kw8 Gw8 Jw8 Xw8 Ow8 q8
 generalize w8.heap.size = py at *
 have Yw9 : Hid (Blk w9 py #[.int .i64 y.term, .int .i64 y.vote, .int .i64 y.base, .int .i64 y.bterm, .slice A2 m2 c2] 42) := ky
 have Pw9 : Hid (Owns w9 w7.heap.size 110 2 (.slice A2 m2 c2) (entR y.ents)) := oY
 clear ky oY
 have Dw9 : Hid (w7.heap.size ≤ w9.heap.size) := C79.out
 have S0 : Hid (w9.drew.cell? ⟨px, 0, none⟩ = some (.int .i64 x.room) ∧ w9.drew.cell? ⟨px, 1, none⟩ = some (.int .i64 x.next) ∧ w9.drew.cell? ⟨px, 2, none⟩ = some (.slice A1 m1 c1) ∧ w9.drew.cell? ⟨px, 3, none⟩ = some (.slice Ab mb cb) ∧ w9.drew.cell? ⟨px, 4, none⟩ = some (.slice Ac mc cc) ∧ w9.drew.cell? ⟨w.heap.size + 1, 0, none⟩ = some (.int .i64 s.index) ∧ w9.drew.cell? ⟨w.heap.size + 1, 1, none⟩ = some (.int .i64 s.term) ∧ w9.drew.cell? ⟨w.heap.size + 1, 2, none⟩ = some (.string s.data) ∧ w9.drew.cell? ⟨py, 0, none⟩ = some (.int .i64 y.term) ∧ w9.drew.cell? ⟨py, 1, none⟩ = some (.int .i64 y.vote) ∧ w9.drew.cell? ⟨py, 2, none⟩ = some (.int .i64 y.base) ∧ w9.drew.cell? ⟨py, 3, none⟩ = some (.int .i64 y.bterm) ∧ w9.drew.cell? ⟨py, 4, none⟩ = some (.slice A2 m2 c2)) := ⟨Xw9.out.cell 0 _ rfl, Xw9.out.cell 1 _ rfl, Xw9.out.cell 2 _ rfl, Xw9.out.cell 3 _ rfl, Xw9.out.cell 4 _ rfl, Gw9.out.cell 0 _ rfl, Gw9.out.cell 1 _ rfl, Gw9.out.cell 2 _ rfl, Yw9.out.cell 0 _ rfl, Yw9.out.cell 1 _ rfl, Yw9.out.cell 2 _ rfl, Yw9.out.cell 3 _ rfl, Yw9.out.cell 4 _ rfl⟩
 refine wp_region_until (fun w' => w'.cell? ⟨px, 0, none⟩ = some (.int .i64 x.room) ∧ w'.cell? ⟨px, 1, none⟩ = some (.int .i64 x.next) ∧ w'.cell? ⟨px, 2, none⟩ = some (.slice A1 m1 c1) ∧ w'.cell? ⟨px, 3, none⟩ = some (.slice Ab mb cb) ∧ w'.cell? ⟨px, 4, none⟩ = some (.slice Ac mc cc) ∧ w'.cell? ⟨w.heap.size + 1, 0, none⟩ = some (.int .i64 s.index) ∧ w'.cell? ⟨w.heap.size + 1, 1, none⟩ = some (.int .i64 s.term) ∧ w'.cell? ⟨w.heap.size + 1, 2, none⟩ = some (.string s.data) ∧ w'.cell? ⟨py, 0, none⟩ = some (.int .i64 y.term) ∧ w'.cell? ⟨py, 1, none⟩ = some (.int .i64 y.vote) ∧ w'.cell? ⟨py, 2, none⟩ = some (.int .i64 y.base) ∧ w'.cell? ⟨py, 3, none⟩ = some (.int .i64 y.bterm) ∧ w'.cell? ⟨py, 4, none⟩ = some (.slice A2 m2 c2)) (fun i => false) 6 (by rfl) (by kernel_rfl) ?_
 have BrmX : Hid (Below w.heap.size w w9.drew) := Bw9.out.drew
 have CrmX : Hid (Below w5.heap.size w5 w9.drew) := Cw9.out.drew
 have KrmX : Hid (Blk w9.drew w.heap.size #[.int .i64 x.room, .int .i64 x.next, u, ub, uc] 26) := Kw9.out
 have GrmX : Hid (Blk w9.drew (w.heap.size + 1) #[.int .i64 s.index, .int .i64 s.term, .string s.data] 52) := Gw9.out
 have JrmX : Hid (Blk w9.drew (w.heap.size + 1 + 1) #[.int .i64 y.term, .int .i64 y.vote, .int .i64 y.base, .int .i64 y.bterm, u1] 29) := Jw9.out
 have XrmX : Hid (Blk w9.drew px #[.int .i64 x.room, .int .i64 x.next, .slice A1 m1 c1, .slice Ab mb cb, .slice Ac mc cc] 38) := Xw9.out
 have OrmX : Hid (Rows3 w9.drew w5.heap.size px (.slice A1 m1 c1) (.slice Ab mb cb) (.slice Ac mc cc) (nodR x.nods) (lnkR x.dir) (movR x.movs)) := ⟨Ow9.out.o1, Ow9.out.o2, Ow9.out.o3, Ow9.out.c1, Ow9.out.c2, Ow9.out.c3⟩
 have YrmX : Hid (Blk w9.drew py #[.int .i64 y.term, .int .i64 y.vote, .int .i64 y.base, .int .i64 y.bterm, .slice A2 m2 c2] 42) := Yw9.out
 have PrmX : Hid (Owns w9.drew w7.heap.size 110 2 (.slice A2 m2 c2) (entR y.ents)) := Pw9.out
 have DrmX : Hid (w7.heap.size ≤ w9.drew.heap.size) := Dw9.out
 clear Bw9 Cw9 Kw9 Gw9 Jw9 Xw9 Ow9 Yw9 Pw9 Dw9
 generalize w9.drew = rmX at *
 refine until_take 0 (v := ?_) (by rfl) (by kernel_rfl) (by exact fun _ _ _ h => h) (by rfl) ?_ S0.out ?_
 rotate_left
 ·intro w hSw
  try dsimp only at hSw
  go_simp
  try with_reducible rfl
 try simp only [Act.put, setIfInBounds_toArray, set_cons_zero, set_cons_succ]
 refine until_take 1 (v := ?_) (by rfl) (by kernel_rfl) (by exact fun _ _ _ h => h) (by rfl) ?_ S0.out ?_
 rotate_left
 ·intro w hSw
  try dsimp only at hSw
  go_simp
  try with_reducible rfl
 try simp only [Act.put, setIfInBounds_toArray, set_cons_zero, set_cons_succ]
 refine until_take 3 (v := ?_) (by rfl) (by kernel_rfl) (by exact fun _ _ _ h => h) (by rfl) ?_ S0.out ?_
 rotate_left
 ·intro w hSw
  try dsimp only at hSw
  go_simp
  try with_reducible rfl
 try simp only [Act.put, setIfInBounds_toArray, set_cons_zero, set_cons_succ]
 refine until_one 2 (by rfl) (by kernel_rfl) (fun K hK => ?_)
 go_simp
 refine (cQ rmX).mono ?_
 rintro e rm1 ⟨rfl, hba⟩
 have Brm1 : Hid (Below w.heap.size w rm1) := BrmX.out.trans (hba.mono BrmX.out.size)
 have Crm1 : Hid (Below w5.heap.size w5 rm1) := CrmX.out.trans (hba.mono CrmX.out.size)
 have Krm1 : Hid (Blk rm1 w.heap.size #[.int .i64 x.room, .int .i64 x.next, u, ub, uc] 26) := KrmX.out.on hba KrmX.out.lt
 have Grm1 : Hid (Blk rm1 (w.heap.size + 1) #[.int .i64 s.index, .int .i64 s.term, .string s.data] 52) := GrmX.out.on hba GrmX.out.lt
 have Jrm1 : Hid (Blk rm1 (w.heap.size + 1 + 1) #[.int .i64 y.term, .int .i64 y.vote, .int .i64 y.base, .int .i64 y.bterm, u1] 29) := JrmX.out.on hba JrmX.out.lt
 have Xrm1 : Hid (Blk rm1 px #[.int .i64 x.room, .int .i64 x.next, .slice A1 m1 c1, .slice Ab mb cb, .slice Ac mc cc] 38) := XrmX.out.on hba XrmX.out.lt
 have Orm1 : Hid (Rows3 rm1 w5.heap.size px (.slice A1 m1 c1) (.slice Ab mb cb) (.slice Ac mc cc) (nodR x.nods) (lnkR x.dir) (movR x.movs)) := OrmX.out.on hba
 have Yrm1 : Hid (Blk rm1 py #[.int .i64 y.term, .int .i64 y.vote, .int .i64 y.base, .int .i64 y.bterm, .slice A2 m2 c2] 42) := YrmX.out.on hba YrmX.out.lt
 have Prm1 : Hid (Owns rm1 w7.heap.size 110 2 (.slice A2 m2 c2) (entR y.ents)) := PrmX.out.on hba
 have Drm1 : Hid (w7.heap.size ≤ rm1.heap.size) := Nat.le_trans DrmX.out hba.size
 clear hba
 clear BrmX CrmX KrmX GrmX JrmX XrmX OrmX YrmX PrmX DrmX
 go_wp2_with fail
 refine hK.out _ _ (fun _ _ => ⟨Xrm1.out.cell 0 _ rfl, Xrm1.out.cell 1 _ rfl, Xrm1.out.cell 2 _ rfl, Xrm1.out.cell 3 _ rfl, Xrm1.out.cell 4 _ rfl, Grm1.out.cell 0 _ rfl, Grm1.out.cell 1 _ rfl, Grm1.out.cell 2 _ rfl, Yrm1.out.cell 0 _ rfl, Yrm1.out.cell 1 _ rfl, Yrm1.out.cell 2 _ rfl, Yrm1.out.cell 3 _ rfl, Yrm1.out.cell 4 _ rfl⟩) ?_
 clear hK K
 try simp only [Act.put, setIfInBounds_toArray, set_cons_zero, set_cons_succ]
 refine until_one 4 (by rfl) (by kernel_rfl) (fun K hK => ?_)
 go_simp
 refine (cG rm1 (.agg #[.int .i64 x.room, .int .i64 x.next, .slice A1 m1 c1, .slice Ab mb cb, .slice Ac mc cc]) (.agg #[.int .i64 y.term, .int .i64 y.vote, .int .i64 y.base, .int .i64 y.bterm, .slice A2 m2 c2]) ⟨_, _, _, rfl, Orm1.out.o1.lies, Orm1.out.o2.lies, Orm1.out.o3.lies⟩ ⟨_, rfl, Prm1.out.lies⟩ (HT.out.on Brm1.out)).mono ?_
 rintro e wa ⟨uI, rfl, hOI, hba⟩
 have Bwa : Hid (Below w.heap.size w wa) := Brm1.out.trans (hba.mono Brm1.out.size)
 have Cwa : Hid (Below w5.heap.size w5 wa) := Crm1.out.trans (hba.mono Crm1.out.size)
 have Kwa : Hid (Blk wa w.heap.size #[.int .i64 x.room, .int .i64 x.next, u, ub, uc] 26) := Krm1.out.on hba Krm1.out.lt
 have Gwa : Hid (Blk wa (w.heap.size + 1) #[.int .i64 s.index, .int .i64 s.term, .string s.data] 52) := Grm1.out.on hba Grm1.out.lt
 have Jwa : Hid (Blk wa (w.heap.size + 1 + 1) #[.int .i64 y.term, .int .i64 y.vote, .int .i64 y.base, .int .i64 y.bterm, u1] 29) := Jrm1.out.on hba Jrm1.out.lt
 have Xwa : Hid (Blk wa px #[.int .i64 x.room, .int .i64 x.next, .slice A1 m1 c1, .slice Ab mb cb, .slice Ac mc cc] 38) := Xrm1.out.on hba Xrm1.out.lt
 have Owa : Hid (Rows3 wa w5.heap.size px (.slice A1 m1 c1) (.slice Ab mb cb) (.slice Ac mc cc) (nodR x.nods) (lnkR x.dir) (movR x.movs)) := Orm1.out.on hba
 have Ywa : Hid (Blk wa py #[.int .i64 y.term, .int .i64 y.vote, .int .i64 y.base, .int .i64 y.bterm, .slice A2 m2 c2] 42) := Yrm1.out.on hba Yrm1.out.lt
 have Pwa : Hid (Owns wa w7.heap.size 110 2 (.slice A2 m2 c2) (entR y.ents)) := Prm1.out.on hba
 have Iwa : Hid (Owns wa rm1.heap.size 75 4 (uI) (stpR (psnapR x s y))) := hOI
 have BY9 : Hid (∀ g, (Value.slice A2 m2 c2).ownBlock = some g → g < rm1.heap.size) := fun g hg => (Prm1.out.lt g hg).2
 have BC9 : Hid (w5.heap.size ≤ rm1.heap.size) := Crm1.out.size
 have Zwa : Hid (rm1.heap.size ≤ wa.heap.size) := hba.size
 have BC79 : Hid (w7.heap.size ≤ rm1.heap.size) := Drm1.out
 clear hba hOI
 clear Brm1 Crm1 Krm1 Grm1 Jrm1 Xrm1 Orm1 Yrm1 Prm1 Drm1
 go_wp2_with fail
 refine hK.out _ _ (fun _ _ => ⟨Xwa.out.cell 0 _ rfl, Xwa.out.cell 1 _ rfl, Xwa.out.cell 2 _ rfl, Xwa.out.cell 3 _ rfl, Xwa.out.cell 4 _ rfl, Gwa.out.cell 0 _ rfl, Gwa.out.cell 1 _ rfl, Gwa.out.cell 2 _ rfl, Ywa.out.cell 0 _ rfl, Ywa.out.cell 1 _ rfl, Ywa.out.cell 2 _ rfl, Ywa.out.cell 3 _ rfl, Ywa.out.cell 4 _ rfl⟩) ?_
 clear hK K
 try simp only [Act.put, setIfInBounds_toArray, set_cons_zero, set_cons_succ]
 refine until_pure 5 (v := ?_) (by rfl) (by kernel_rfl) (by exact fun _ _ _ h => h) (by rfl) ?_ ?_
 rotate_left
 ·intro w
  go_simp
  try with_reducible rfl
 try simp only [Act.put, setIfInBounds_toArray, set_cons_zero, set_cons_succ]
 clear S0
 refine until_done (by kernel_rfl) ?_ _
 go_wp2_with fail
 refine (eqStepS (psnapR x s y) uI uS wa wa.heap.size Iwa.out.lies ((TS.out.on Cwa.out).mono Cwa.out.size) (by have := LN.out; omega) (Nat.le_refl _)).mono ?_
 rintro e wb ⟨rfl, hbq⟩
 have Bwb : Hid (Below w.heap.size w wb) := Bwa.out.trans (hbq.mono Bwa.out.size)
 have Cwb : Hid (Below w5.heap.size w5 wb) := Cwa.out.trans (hbq.mono Cwa.out.size)
 have Kwb : Hid (Blk wb w.heap.size #[.int .i64 x.room, .int .i64 x.next, u, ub, uc] 26) := Kwa.out.on hbq Kwa.out.lt
 have Gwb : Hid (Blk wb (w.heap.size + 1) #[.int .i64 s.index, .int .i64 s.term, .string s.data] 52) := Gwa.out.on hbq Gwa.out.lt
 have Jwb : Hid (Blk wb (w.heap.size + 1 + 1) #[.int .i64 y.term, .int .i64 y.vote, .int .i64 y.base, .int .i64 y.bterm, u1] 29) := Jwa.out.on hbq Jwa.out.lt
 have Xwb : Hid (Blk wb px #[.int .i64 x.room, .int .i64 x.next, .slice A1 m1 c1, .slice Ab mb cb, .slice Ac mc cc] 38) := Xwa.out.on hbq Xwa.out.lt
 have Owb : Hid (Rows3 wb w5.heap.size px (.slice A1 m1 c1) (.slice Ab mb cb) (.slice Ac mc cc) (nodR x.nods) (lnkR x.dir) (movR x.movs)) := Owa.out.on hbq
 have Ywb : Hid (Blk wb py #[.int .i64 y.term, .int .i64 y.vote, .int .i64 y.base, .int .i64 y.bterm, .slice A2 m2 c2] 42) := Ywa.out.on hbq Ywa.out.lt
 have Pwb : Hid (Owns wb w7.heap.size 110 2 (.slice A2 m2 c2) (entR y.ents)) := Pwa.out.on hbq
 have Iwb : Hid (Owns wb rm1.heap.size 75 4 (uI) (stpR (psnapR x s y))) := Iwa.out.on hbq
 have Zwb : Hid (rm1.heap.size ≤ wb.heap.size) := Nat.le_trans Zwa.out hbq.size
 clear hbq
 clear Bwa Cwa Kwa Gwa Jwa Xwa Owa Ywa Pwa Iwa Zwa
 have S0 : Hid (wb.drew.cell? ⟨px, 0, none⟩ = some (.int .i64 x.room) ∧ wb.drew.cell? ⟨px, 1, none⟩ = some (.int .i64 x.next) ∧ wb.drew.cell? ⟨px, 2, none⟩ = some (.slice A1 m1 c1) ∧ wb.drew.cell? ⟨px, 3, none⟩ = some (.slice Ab mb cb) ∧ wb.drew.cell? ⟨px, 4, none⟩ = some (.slice Ac mc cc) ∧ wb.drew.cell? ⟨w.heap.size, 0, none⟩ = some (.int .i64 x.room) ∧ wb.drew.cell? ⟨w.heap.size, 1, none⟩ = some (.int .i64 x.next) ∧ wb.drew.cell? ⟨w.heap.size, 2, none⟩ = some (u) ∧ wb.drew.cell? ⟨w.heap.size, 3, none⟩ = some (ub) ∧ wb.drew.cell? ⟨w.heap.size, 4, none⟩ = some (uc)) := ⟨Xwb.out.cell 0 _ rfl, Xwb.out.cell 1 _ rfl, Xwb.out.cell 2 _ rfl, Xwb.out.cell 3 _ rfl, Xwb.out.cell 4 _ rfl, Kwb.out.cell 0 _ rfl, Kwb.out.cell 1 _ rfl, Kwb.out.cell 2 _ rfl, Kwb.out.cell 3 _ rfl, Kwb.out.cell 4 _ rfl⟩
 go_wp2_with fail
 refine wp_region_until (fun w' => w'.cell? ⟨px, 0, none⟩ = some (.int .i64 x.room) ∧ w'.cell? ⟨px, 1, none⟩ = some (.int .i64 x.next) ∧ w'.cell? ⟨px, 2, none⟩ = some (.slice A1 m1 c1) ∧ w'.cell? ⟨px, 3, none⟩ = some (.slice Ab mb cb) ∧ w'.cell? ⟨px, 4, none⟩ = some (.slice Ac mc cc) ∧ w'.cell? ⟨w.heap.size, 0, none⟩ = some (.int .i64 x.room) ∧ w'.cell? ⟨w.heap.size, 1, none⟩ = some (.int .i64 x.next) ∧ w'.cell? ⟨w.heap.size, 2, none⟩ = some (u) ∧ w'.cell? ⟨w.heap.size, 3, none⟩ = some (ub) ∧ w'.cell? ⟨w.heap.size, 4, none⟩ = some (uc)) (fun i => false) 5 (by rfl) (by kernel_rfl) ?_
 have BrbX : Hid (Below w.heap.size w wb.drew) := Bwb.out.drew
 have CrbX : Hid (Below w5.heap.size w5 wb.drew) := Cwb.out.drew
 have KrbX : Hid (Blk wb.drew w.heap.size #[.int .i64 x.room, .int .i64 x.next, u, ub, uc] 26) := Kwb.out
 have GrbX : Hid (Blk wb.drew (w.heap.size + 1) #[.int .i64 s.index, .int .i64 s.term, .string s.data] 52) := Gwb.out
 have JrbX : Hid (Blk wb.drew (w.heap.size + 1 + 1) #[.int .i64 y.term, .int .i64 y.vote, .int .i64 y.base, .int .i64 y.bterm, u1] 29) := Jwb.out
 have XrbX : Hid (Blk wb.drew px #[.int .i64 x.room, .int .i64 x.next, .slice A1 m1 c1, .slice Ab mb cb, .slice Ac mc cc] 38) := Xwb.out
 have OrbX : Hid (Rows3 wb.drew w5.heap.size px (.slice A1 m1 c1) (.slice Ab mb cb) (.slice Ac mc cc) (nodR x.nods) (lnkR x.dir) (movR x.movs)) := ⟨Owb.out.o1, Owb.out.o2, Owb.out.o3, Owb.out.c1, Owb.out.c2, Owb.out.c3⟩
 have YrbX : Hid (Blk wb.drew py #[.int .i64 y.term, .int .i64 y.vote, .int .i64 y.base, .int .i64 y.bterm, .slice A2 m2 c2] 42) := Ywb.out
 have PrbX : Hid (Owns wb.drew w7.heap.size 110 2 (.slice A2 m2 c2) (entR y.ents)) := Pwb.out
 have IrbX : Hid (Owns wb.drew rm1.heap.size 75 4 (uI) (stpR (psnapR x s y))) := Iwb.out
 have ZrbX : Hid (rm1.heap.size ≤ wb.drew.heap.size) := Zwb.out
 clear Bwb Cwb Kwb Gwb Jwb Xwb Owb Ywb Pwb Iwb Zwb
 generalize wb.drew = rbX at *
 refine until_take 0 (v := ?_) (by rfl) (by kernel_rfl) (by exact fun _ _ _ h => h) (by rfl) ?_ S0.out ?_
 rotate_left
 ·intro w hSw
  try dsimp only at hSw
  go_simp
  try with_reducible rfl
 try simp only [Act.put, setIfInBounds_toArray, set_cons_zero, set_cons_succ]
 refine until_take 1 (v := ?_) (by rfl) (by kernel_rfl) (by exact fun _ _ _ h => h) (by rfl) ?_ S0.out ?_
 rotate_left
 ·intro w hSw
  try dsimp only at hSw
  go_simp
  try with_reducible rfl
 try simp only [Act.put, setIfInBounds_toArray, set_cons_zero, set_cons_succ]
 refine until_one 2 (by rfl) (by kernel_rfl) (fun K hK => ?_)
 go_simp
 refine (cT rbX (HV.out.on BrbX.out) BrbX.out.size).mono ?_
 rintro e rb1 ⟨yrb, rfl, hO7, hb7⟩
 have Brb1 : Hid (Below w.heap.size w rb1) := BrbX.out.trans (hb7.mono BrbX.out.size)
 have Crb1 : Hid (Below w5.heap.size w5 rb1) := CrbX.out.trans (hb7.mono CrbX.out.size)
 have Krb1 : Hid (Blk rb1 w.heap.size #[.int .i64 x.room, .int .i64 x.next, u, ub, uc] 26) := KrbX.out.on hb7 KrbX.out.lt
 have Grb1 : Hid (Blk rb1 (w.heap.size + 1) #[.int .i64 s.index, .int .i64 s.term, .string s.data] 52) := GrbX.out.on hb7 GrbX.out.lt
 have Jrb1 : Hid (Blk rb1 (w.heap.size + 1 + 1) #[.int .i64 y.term, .int .i64 y.vote, .int .i64 y.base, .int .i64 y.bterm, u1] 29) := JrbX.out.on hb7 JrbX.out.lt
 have Xrb1 : Hid (Blk rb1 px #[.int .i64 x.room, .int .i64 x.next, .slice A1 m1 c1, .slice Ab mb cb, .slice Ac mc cc] 38) := XrbX.out.on hb7 XrbX.out.lt
 have Orb1 : Hid (Rows3 rb1 w5.heap.size px (.slice A1 m1 c1) (.slice Ab mb cb) (.slice Ac mc cc) (nodR x.nods) (lnkR x.dir) (movR x.movs)) := OrbX.out.on hb7
 have Yrb1 : Hid (Blk rb1 py #[.int .i64 y.term, .int .i64 y.vote, .int .i64 y.base, .int .i64 y.bterm, .slice A2 m2 c2] 42) := YrbX.out.on hb7 YrbX.out.lt
 have Prb1 : Hid (Owns rb1 w7.heap.size 110 2 (.slice A2 m2 c2) (entR y.ents)) := PrbX.out.on hb7
 have Irb1 : Hid (Owns rb1 rm1.heap.size 75 4 (uI) (stpR (psnapR x s y))) := IrbX.out.on hb7
 have Zrb1 : Hid (rm1.heap.size ≤ rb1.heap.size) := Nat.le_trans ZrbX.out hb7.size
 have cE := eqDisk x (.agg #[.int .i64 x.room, .int .i64 x.next, .slice A1 m1 c1, .slice Ab mb cb, .slice Ac mc cc]) yrb rb1 rb1.heap.size ⟨_, _, _, rfl, Orb1.out.o1.lies, Orb1.out.o2.lies, Orb1.out.o3.lies⟩ hO7.look HW.out (Nat.le_refl _)
 clear hb7 hO7
 clear BrbX CrbX KrbX GrbX JrbX XrbX OrbX YrbX PrbX IrbX ZrbX
 go_wp2_with fail
 refine hK.out _ _ (fun _ _ => ⟨Xrb1.out.cell 0 _ rfl, Xrb1.out.cell 1 _ rfl, Xrb1.out.cell 2 _ rfl, Xrb1.out.cell 3 _ rfl, Xrb1.out.cell 4 _ rfl, Krb1.out.cell 0 _ rfl, Krb1.out.cell 1 _ rfl, Krb1.out.cell 2 _ rfl, Krb1.out.cell 3 _ rfl, Krb1.out.cell 4 _ rfl⟩) ?_
 clear hK K
 try simp only [Act.put, setIfInBounds_toArray, set_cons_zero, set_cons_succ]
 refine until_one 3 (by rfl) (by kernel_rfl) (fun K hK => ?_)
 go_simp
 refine cE.mono ?_
 rintro e wc ⟨rfl, hb8⟩
 have Bwc : Hid (Below w.heap.size w wc) := Brb1.out.trans (hb8.mono Brb1.out.size)
 have Cwc : Hid (Below w5.heap.size w5 wc) := Crb1.out.trans (hb8.mono Crb1.out.size)
 have Kwc : Hid (Blk wc w.heap.size #[.int .i64 x.room, .int .i64 x.next, u, ub, uc] 26) := Krb1.out.on hb8 Krb1.out.lt
 have Gwc : Hid (Blk wc (w.heap.size + 1) #[.int .i64 s.index, .int .i64 s.term, .string s.data] 52) := Grb1.out.on hb8 Grb1.out.lt
 have Jwc : Hid (Blk wc (w.heap.size + 1 + 1) #[.int .i64 y.term, .int .i64 y.vote, .int .i64 y.base, .int .i64 y.bterm, u1] 29) := Jrb1.out.on hb8 Jrb1.out.lt
 have Xwc : Hid (Blk wc px #[.int .i64 x.room, .int .i64 x.next, .slice A1 m1 c1, .slice Ab mb cb, .slice Ac mc cc] 38) := Xrb1.out.on hb8 Xrb1.out.lt
 have Owc : Hid (Rows3 wc w5.heap.size px (.slice A1 m1 c1) (.slice Ab mb cb) (.slice Ac mc cc) (nodR x.nods) (lnkR x.dir) (movR x.movs)) := Orb1.out.on hb8
 have Ywc : Hid (Blk wc py #[.int .i64 y.term, .int .i64 y.vote, .int .i64 y.base, .int .i64 y.bterm, .slice A2 m2 c2] 42) := Yrb1.out.on hb8 Yrb1.out.lt
 have Pwc : Hid (Owns wc w7.heap.size 110 2 (.slice A2 m2 c2) (entR y.ents)) := Prb1.out.on hb8
 have Iwc : Hid (Owns wc rm1.heap.size 75 4 (uI) (stpR (psnapR x s y))) := Irb1.out.on hb8
 have Zwc : Hid (rm1.heap.size ≤ wc.heap.size) := Nat.le_trans Zrb1.out hb8.size
 clear hb8 cE
 clear Brb1 Crb1 Krb1 Grb1 Jrb1 Xrb1 Orb1 Yrb1 Prb1 Irb1 Zrb1
 go_wp2_with fail
 refine hK.out _ _ (fun _ _ => ⟨Xwc.out.cell 0 _ rfl, Xwc.out.cell 1 _ rfl, Xwc.out.cell 2 _ rfl, Xwc.out.cell 3 _ rfl, Xwc.out.cell 4 _ rfl, Kwc.out.cell 0 _ rfl, Kwc.out.cell 1 _ rfl, Kwc.out.cell 2 _ rfl, Kwc.out.cell 3 _ rfl, Kwc.out.cell 4 _ rfl⟩) ?_
 clear hK K
 try simp only [Act.put, setIfInBounds_toArray, set_cons_zero, set_cons_succ]
 refine until_pure 4 (v := ?_) (by rfl) (by kernel_rfl) (by exact fun _ _ _ h => h) (by rfl) ?_ ?_
 rotate_left
 ·intro w
  go_simp
  try with_reducible rfl
 try simp only [Act.put, setIfInBounds_toArray, set_cons_zero, set_cons_succ]
 clear S0
 refine until_done (by kernel_rfl) ?_ _
 have S0 : Hid (wc.drew.cell? ⟨py, 0, none⟩ = some (.int .i64 y.term) ∧ wc.drew.cell? ⟨py, 1, none⟩ = some (.int .i64 y.vote) ∧ wc.drew.cell? ⟨py, 2, none⟩ = some (.int .i64 y.base) ∧ wc.drew.cell? ⟨py, 3, none⟩ = some (.int .i64 y.bterm) ∧ wc.drew.cell? ⟨py, 4, none⟩ = some (.slice A2 m2 c2) ∧ wc.drew.cell? ⟨w.heap.size + 1 + 1, 0, none⟩ = some (.int .i64 y.term) ∧ wc.drew.cell? ⟨w.heap.size + 1 + 1, 1, none⟩ = some (.int .i64 y.vote) ∧ wc.drew.cell? ⟨w.heap.size + 1 + 1, 2, none⟩ = some (.int .i64 y.base) ∧ wc.drew.cell? ⟨w.heap.size + 1 + 1, 3, none⟩ = some (.int .i64 y.bterm) ∧ wc.drew.cell? ⟨w.heap.size + 1 + 1, 4, none⟩ = some (u1)) := ⟨Ywc.out.cell 0 _ rfl, Ywc.out.cell 1 _ rfl, Ywc.out.cell 2 _ rfl, Ywc.out.cell 3 _ rfl, Ywc.out.cell 4 _ rfl, Jwc.out.cell 0 _ rfl, Jwc.out.cell 1 _ rfl, Jwc.out.cell 2 _ rfl, Jwc.out.cell 3 _ rfl, Jwc.out.cell 4 _ rfl⟩
 go_wp2_with fail
 refine wp_region_until (fun w' => w'.cell? ⟨py, 0, none⟩ = some (.int .i64 y.term) ∧ w'.cell? ⟨py, 1, none⟩ = some (.int .i64 y.vote) ∧ w'.cell? ⟨py, 2, none⟩ = some (.int .i64 y.base) ∧ w'.cell? ⟨py, 3, none⟩ = some (.int .i64 y.bterm) ∧ w'.cell? ⟨py, 4, none⟩ = some (.slice A2 m2 c2) ∧ w'.cell? ⟨w.heap.size + 1 + 1, 0, none⟩ = some (.int .i64 y.term) ∧ w'.cell? ⟨w.heap.size + 1 + 1, 1, none⟩ = some (.int .i64 y.vote) ∧ w'.cell? ⟨w.heap.size + 1 + 1, 2, none⟩ = some (.int .i64 y.base) ∧ w'.cell? ⟨w.heap.size + 1 + 1, 3, none⟩ = some (.int .i64 y.bterm) ∧ w'.cell? ⟨w.heap.size + 1 + 1, 4, none⟩ = some (u1)) (fun i => false) 5 (by rfl) (by kernel_rfl) ?_
 have BrcX : Hid (Below w.heap.size w wc.drew) := Bwc.out.drew
 have CrcX : Hid (Below w5.heap.size w5 wc.drew) := Cwc.out.drew
 have KrcX : Hid (Blk wc.drew w.heap.size #[.int .i64 x.room, .int .i64 x.next, u, ub, uc] 26) := Kwc.out
 have GrcX : Hid (Blk wc.drew (w.heap.size + 1) #[.int .i64 s.index, .int .i64 s.term, .string s.data] 52) := Gwc.out
 have JrcX : Hid (Blk wc.drew (w.heap.size + 1 + 1) #[.int .i64 y.term, .int .i64 y.vote, .int .i64 y.base, .int .i64 y.bterm, u1] 29) := Jwc.out
 have XrcX : Hid (Blk wc.drew px #[.int .i64 x.room, .int .i64 x.next, .slice A1 m1 c1, .slice Ab mb cb, .slice Ac mc cc] 38) := Xwc.out
 have OrcX : Hid (Rows3 wc.drew w5.heap.size px (.slice A1 m1 c1) (.slice Ab mb cb) (.slice Ac mc cc) (nodR x.nods) (lnkR x.dir) (movR x.movs)) := ⟨Owc.out.o1, Owc.out.o2, Owc.out.o3, Owc.out.c1, Owc.out.c2, Owc.out.c3⟩
 have YrcX : Hid (Blk wc.drew py #[.int .i64 y.term, .int .i64 y.vote, .int .i64 y.base, .int .i64 y.bterm, .slice A2 m2 c2] 42) := Ywc.out
 have PrcX : Hid (Owns wc.drew w7.heap.size 110 2 (.slice A2 m2 c2) (entR y.ents)) := Pwc.out
 have IrcX : Hid (Owns wc.drew rm1.heap.size 75 4 (uI) (stpR (psnapR x s y))) := Iwc.out
 have ZrcX : Hid (rm1.heap.size ≤ wc.drew.heap.size) := Zwc.out
 clear Bwc Cwc Kwc Gwc Jwc Xwc Owc Ywc Pwc Iwc Zwc
 generalize wc.drew = rcX at *
 refine until_take 0 (v := ?_) (by rfl) (by kernel_rfl) (by exact fun _ _ _ h => h) (by rfl) ?_ S0.out ?_
 rotate_left
 ·intro w hSw
  try dsimp only at hSw
  go_simp
  try with_reducible rfl
 try simp only [Act.put, setIfInBounds_toArray, set_cons_zero, set_cons_succ]
 refine until_take 1 (v := ?_) (by rfl) (by kernel_rfl) (by exact fun _ _ _ h => h) (by rfl) ?_ S0.out ?_
 rotate_left
 ·intro w hSw
  try dsimp only at hSw
  go_simp
  try with_reducible rfl
 try simp only [Act.put, setIfInBounds_toArray, set_cons_zero, set_cons_succ]
 refine until_one 2 (by rfl) (by kernel_rfl) (fun K hK => ?_)
 go_simp
 refine (cT1 rcX (HV1.out.on BrcX.out) BrcX.out.size).mono ?_
 rintro e rc1 ⟨yrc, rfl, hO7, hb7⟩
 have Brc1 : Hid (Below w.heap.size w rc1) := BrcX.out.trans (hb7.mono BrcX.out.size)
 have Crc1 : Hid (Below w5.heap.size w5 rc1) := CrcX.out.trans (hb7.mono CrcX.out.size)
 have Krc1 : Hid (Blk rc1 w.heap.size #[.int .i64 x.room, .int .i64 x.next, u, ub, uc] 26) := KrcX.out.on hb7 KrcX.out.lt
 have Grc1 : Hid (Blk rc1 (w.heap.size + 1) #[.int .i64 s.index, .int .i64 s.term, .string s.data] 52) := GrcX.out.on hb7 GrcX.out.lt
 have Jrc1 : Hid (Blk rc1 (w.heap.size + 1 + 1) #[.int .i64 y.term, .int .i64 y.vote, .int .i64 y.base, .int .i64 y.bterm, u1] 29) := JrcX.out.on hb7 JrcX.out.lt
 have Xrc1 : Hid (Blk rc1 px #[.int .i64 x.room, .int .i64 x.next, .slice A1 m1 c1, .slice Ab mb cb, .slice Ac mc cc] 38) := XrcX.out.on hb7 XrcX.out.lt
 have Orc1 : Hid (Rows3 rc1 w5.heap.size px (.slice A1 m1 c1) (.slice Ab mb cb) (.slice Ac mc cc) (nodR x.nods) (lnkR x.dir) (movR x.movs)) := OrcX.out.on hb7
 have Yrc1 : Hid (Blk rc1 py #[.int .i64 y.term, .int .i64 y.vote, .int .i64 y.base, .int .i64 y.bterm, .slice A2 m2 c2] 42) := YrcX.out.on hb7 YrcX.out.lt
 have Prc1 : Hid (Owns rc1 w7.heap.size 110 2 (.slice A2 m2 c2) (entR y.ents)) := PrcX.out.on hb7
 have Irc1 : Hid (Owns rc1 rm1.heap.size 75 4 (uI) (stpR (psnapR x s y))) := IrcX.out.on hb7
 have Zrc1 : Hid (rm1.heap.size ≤ rc1.heap.size) := Nat.le_trans ZrcX.out hb7.size
 have cE := eqWal y (.agg #[.int .i64 y.term, .int .i64 y.vote, .int .i64 y.base, .int .i64 y.bterm, .slice A2 m2 c2]) yrc rc1 rc1.heap.size ⟨_, rfl, Prc1.out.lies⟩ hO7.lies (by have := HW1.out; unfold wtW at this; omega) (Nat.le_refl _)
 clear hb7 hO7
 clear BrcX CrcX KrcX GrcX JrcX XrcX OrcX YrcX PrcX IrcX ZrcX
 go_wp2_with fail
 refine hK.out _ _ (fun _ _ => ⟨Yrc1.out.cell 0 _ rfl, Yrc1.out.cell 1 _ rfl, Yrc1.out.cell 2 _ rfl, Yrc1.out.cell 3 _ rfl, Yrc1.out.cell 4 _ rfl, Jrc1.out.cell 0 _ rfl, Jrc1.out.cell 1 _ rfl, Jrc1.out.cell 2 _ rfl, Jrc1.out.cell 3 _ rfl, Jrc1.out.cell 4 _ rfl⟩) ?_
 clear hK K
 try simp only [Act.put, setIfInBounds_toArray, set_cons_zero, set_cons_succ]
 refine until_one 3 (by rfl) (by kernel_rfl) (fun K hK => ?_)
 go_simp
 refine cE.mono ?_
 rintro e wd ⟨rfl, hb8⟩
 have Bwd : Hid (Below w.heap.size w wd) := Brc1.out.trans (hb8.mono Brc1.out.size)
 have Cwd : Hid (Below w5.heap.size w5 wd) := Crc1.out.trans (hb8.mono Crc1.out.size)
 have Kwd : Hid (Blk wd w.heap.size #[.int .i64 x.room, .int .i64 x.next, u, ub, uc] 26) := Krc1.out.on hb8 Krc1.out.lt
 have Gwd : Hid (Blk wd (w.heap.size + 1) #[.int .i64 s.index, .int .i64 s.term, .string s.data] 52) := Grc1.out.on hb8 Grc1.out.lt
 have Jwd : Hid (Blk wd (w.heap.size + 1 + 1) #[.int .i64 y.term, .int .i64 y.vote, .int .i64 y.base, .int .i64 y.bterm, u1] 29) := Jrc1.out.on hb8 Jrc1.out.lt
 have Xwd : Hid (Blk wd px #[.int .i64 x.room, .int .i64 x.next, .slice A1 m1 c1, .slice Ab mb cb, .slice Ac mc cc] 38) := Xrc1.out.on hb8 Xrc1.out.lt
 have Owd : Hid (Rows3 wd w5.heap.size px (.slice A1 m1 c1) (.slice Ab mb cb) (.slice Ac mc cc) (nodR x.nods) (lnkR x.dir) (movR x.movs)) := Orc1.out.on hb8
 have Ywd : Hid (Blk wd py #[.int .i64 y.term, .int .i64 y.vote, .int .i64 y.base, .int .i64 y.bterm, .slice A2 m2 c2] 42) := Yrc1.out.on hb8 Yrc1.out.lt
 have Pwd : Hid (Owns wd w7.heap.size 110 2 (.slice A2 m2 c2) (entR y.ents)) := Prc1.out.on hb8
 have Iwd : Hid (Owns wd rm1.heap.size 75 4 (uI) (stpR (psnapR x s y))) := Irc1.out.on hb8
 have Zwd : Hid (rm1.heap.size ≤ wd.heap.size) := Nat.le_trans Zrc1.out hb8.size
 clear hb8 cE
 clear Brc1 Crc1 Krc1 Grc1 Jrc1 Xrc1 Orc1 Yrc1 Prc1 Irc1 Zrc1
 go_wp2_with fail
 refine hK.out _ _ (fun _ _ => ⟨Ywd.out.cell 0 _ rfl, Ywd.out.cell 1 _ rfl, Ywd.out.cell 2 _ rfl, Ywd.out.cell 3 _ rfl, Ywd.out.cell 4 _ rfl, Jwd.out.cell 0 _ rfl, Jwd.out.cell 1 _ rfl, Jwd.out.cell 2 _ rfl, Jwd.out.cell 3 _ rfl, Jwd.out.cell 4 _ rfl⟩) ?_
 clear hK K
 try simp only [Act.put, setIfInBounds_toArray, set_cons_zero, set_cons_succ]
 refine until_pure 4 (v := ?_) (by rfl) (by kernel_rfl) (by exact fun _ _ _ h => h) (by rfl) ?_ ?_
 rotate_left
 ·intro w
  go_simp
  try with_reducible rfl
 try simp only [Act.put, setIfInBounds_toArray, set_cons_zero, set_cons_succ]
 clear S0
 refine until_done (by kernel_rfl) ?_ _
 have WY : Hid ((entR y.ents).length ≤ 1048576) := by unfold Hid; rw [entR_length]; have := HW1.out; unfold wtW at this; omega
 obtain ⟨wx1, wx2, wx3⟩ := wt_parts HW.out
 have cM := markDisk 1 w5.heap.size px x.room x.next (.slice A1 m1 c1) (.slice Ab mb cb) (.slice Ac mc cc) (nodR x.nods) (lnkR x.dir) (movR x.movs) wd Owd.out wx1 wx2 wx3 (Nat.le_refl _) (by omega) Cwd.out.size
 have cM1 := fun wx h hb => markWal (1 + 3 * (nodR x.nods).length + 2 * (lnkR x.dir).length + 4 * (movR x.movs).length) w7.heap.size y.term y.vote y.base y.bterm (.slice A2 m2 c2) (entR y.ents) wx h WY.out (by omega) (by omega) hb
 generalize hKK : (1 + 3 * (nodR x.nods).length + 2 * (lnkR x.dir).length + 4 * (movR x.movs).length : Nat) = KK at *
 have qK0 : decide (((KK + 2 * (entR y.ents).length : Nat) : Int) < 0) = false := decide_eq_false (by omega)
 clear hKK wx1 wx2 wx3
 have y0 := Xwd.out.cell 0 (.int .i64 x.room) rfl
 have y1 := Xwd.out.cell 1 (.int .i64 x.next) rfl
 have y2 := Xwd.out.cell 2 (.slice A1 m1 c1) rfl
 have y3 := Xwd.out.cell 3 (.slice Ab mb cb) rfl
 have y4 := Xwd.out.cell 4 (.slice Ac mc cc) rfl
 go_wp2_with fail
 refine cM.mono ?_
 rintro e we ⟨rfl, _, hbe, hke⟩
 have Bwe : Hid (Below w.heap.size w we) := Bwd.out.trans (hbe.mono (Nat.le_of_lt LK.out))
 have Cwe : Hid (Below w5.heap.size w5 we) := Cwd.out.trans hbe
 have Kwe : Hid (Blk we w.heap.size #[.int .i64 x.room, .int .i64 x.next, u, ub, uc] 26) := Kwd.out.on hbe LK.out
 have Gwe : Hid (Blk we (w.heap.size + 1) #[.int .i64 s.index, .int .i64 s.term, .string s.data] 52) := Gwd.out.on hbe LG.out
 have Jwe : Hid (Blk we (w.heap.size + 1 + 1) #[.int .i64 y.term, .int .i64 y.vote, .int .i64 y.base, .int .i64 y.bterm, u1] 29) := Jwd.out.on hbe LJ.out
 have Ywe : Hid (Blk we py #[.int .i64 y.term, .int .i64 y.vote, .int .i64 y.base, .int .i64 y.bterm, .slice A2 m2 c2] 42) := Ywd.out.past hke (by have := P7.out; have := C78H.out; omega)
 have Pwe : Hid (Owns we w7.heap.size 110 2 (.slice A2 m2 c2) (entR y.ents)) := Pwd.out.past hke (by have := P7.out; omega)
 have Iwe : Hid (Owns we rm1.heap.size 75 4 (uI) (stpR (psnapR x s y))) := Iwd.out.past hke (by have := P7.out; have := BC79.out; omega)
 have Zwe : Hid (rm1.heap.size ≤ we.heap.size) := Nat.le_trans Zwd.out hbe.size
 have LPd : Hid (w7.heap.size ≤ we.heap.size) := Nat.le_trans BC79.out Zwe.out
 clear hbe hke cM y0 y1 y2 y3 y4
 clear Bwd Cwd Kwd Gwd Jwd Xwd Owd Ywd Pwd Iwd Zwd
 have y0 := Ywe.out.cell 0 (.int .i64 y.term) rfl
 have y1 := Ywe.out.cell 1 (.int .i64 y.vote) rfl
 have y2 := Ywe.out.cell 2 (.int .i64 y.base) rfl
 have y3 := Ywe.out.cell 3 (.int .i64 y.bterm) rfl
 have y4 := Ywe.out.cell 4 (.slice A2 m2 c2) rfl
 go_wp2_with fail
 refine (cM1 we Pwe.out LPd.out).mono ?_
 rintro e wf ⟨rfl, _, hbf, hkf⟩
 have hbf' : Below w5.heap.size we wf := hbf.mono BC7.out
 have Bwf : Hid (Below w.heap.size w wf) := Bwe.out.trans (hbf'.mono (Nat.le_of_lt LK.out))
 have Cwf : Hid (Below w5.heap.size w5 wf) := Cwe.out.trans hbf'
 have Kwf : Hid (Blk wf w.heap.size #[.int .i64 x.room, .int .i64 x.next, u, ub, uc] 26) := Kwe.out.on hbf' LK.out
 have Gwf : Hid (Blk wf (w.heap.size + 1) #[.int .i64 s.index, .int .i64 s.term, .string s.data] 52) := Gwe.out.on hbf' LG.out
 have Jwf : Hid (Blk wf (w.heap.size + 1 + 1) #[.int .i64 y.term, .int .i64 y.vote, .int .i64 y.base, .int .i64 y.bterm, u1] 29) := Jwe.out.on hbf' LJ.out
 have Iwf : Hid (Owns wf rm1.heap.size 75 4 (uI) (stpR (psnapR x s y))) := Iwe.out.spare hkf BY9.out
 have Zwf : Hid (rm1.heap.size ≤ wf.heap.size) := Nat.le_trans Zwe.out hbf.size
 clear hbf hbf' hkf cM1 y0 y1 y2 y3 y4
 clear Bwe Cwe Kwe Gwe Jwe Ywe Pwe Iwe Zwe
 generalize ((KK + 2 * (entR y.ents).length : Nat) : Int) = MM at *
 go_wp2_with fail
 refine (eqStepS (psnapR x s y) uI uS wf wf.heap.size Iwf.out.lies ((TS.out.on Cwf.out).mono Cwf.out.size) (by have := LN.out; omega) (Nat.le_refl _)).mono ?_
 rintro e wg ⟨rfl, hbq⟩
 have Bwg : Hid (Below w.heap.size w wg) := Bwf.out.trans (hbq.mono Bwf.out.size)
 have Cwg : Hid (Below w5.heap.size w5 wg) := Cwf.out.trans (hbq.mono Cwf.out.size)
 have Kwg : Hid (Blk wg w.heap.size #[.int .i64 x.room, .int .i64 x.next, u, ub, uc] 26) := Kwf.out.on hbq Kwf.out.lt
 have Gwg : Hid (Blk wg (w.heap.size + 1) #[.int .i64 s.index, .int .i64 s.term, .string s.data] 52) := Gwf.out.on hbq Gwf.out.lt
 have Jwg : Hid (Blk wg (w.heap.size + 1 + 1) #[.int .i64 y.term, .int .i64 y.vote, .int .i64 y.base, .int .i64 y.bterm, u1] 29) := Jwf.out.on hbq Jwf.out.lt
 have Iwg : Hid (Owns wg rm1.heap.size 75 4 (uI) (stpR (psnapR x s y))) := Iwf.out.on hbq
 have Zwg : Hid (rm1.heap.size ≤ wg.heap.size) := Nat.le_trans Zwf.out hbq.size
 clear hbq
 clear Bwf Cwf Kwf Gwf Jwf Iwf Zwf
 have RL : Hid ((stpR (psnapR x s y)).length ≤ 12) := by unfold Hid; rw [stpR_length]; exact LN.out
 have cMR := markStepS 1 rm1.heap.size uI (stpR (psnapR x s y)) wg Iwg.out (by have := RL.out; omega) (Nat.le_refl _) (by omega) Zwg.out
 have cHd := fun wx h => heldStepS 1 (stpR (psnapR x s y)).length uI wx wx.heap.size h (by have := RL.out; omega) (Nat.le_refl _) (by omega) (Nat.le_refl _)
 generalize hNN : (1 + 4 * (stpR (psnapR x s y)).length : Nat) = NN at *
 have qN0 : decide ((NN : Int) < 0) = false := decide_eq_false (by omega)
 have nN : ((NN : Int) != (NN : Int)) = false := by simp
 clear hNN
 go_wp2_with fail
 refine cMR.mono ?_
 rintro e wh ⟨rfl, hN, hbh, _⟩
 have hbh' : Below w5.heap.size wg wh := hbh.mono BC9.out
 have Bwh : Hid (Below w.heap.size w wh) := Bwg.out.trans (hbh'.mono (Nat.le_of_lt LK.out))
 have Cwh : Hid (Below w5.heap.size w5 wh) := Cwg.out.trans hbh'
 have Kwh : Hid (Blk wh w.heap.size #[.int .i64 x.room, .int .i64 x.next, u, ub, uc] 26) := Kwg.out.on hbh' LK.out
 have Gwh : Hid (Blk wh (w.heap.size + 1) #[.int .i64 s.index, .int .i64 s.term, .string s.data] 52) := Gwg.out.on hbh' LG.out
 have Jwh : Hid (Blk wh (w.heap.size + 1 + 1) #[.int .i64 y.term, .int .i64 y.vote, .int .i64 y.base, .int .i64 y.bterm, u1] 29) := Jwg.out.on hbh' LJ.out
 have Nwh : Hid (Owns wh rm1.heap.size 75 4 (uI) (newR (mkStp 1) (stpR (psnapR x s y)).length)) := hN
 clear hN hbh hbh' cMR
 clear Bwg Cwg Kwg Gwg Jwg Iwg Zwg
 go_wp2_with fail
 refine (cHd wh Nwh.out.lies).mono ?_
 rintro e wi ⟨rfl, hbi⟩
 have Bwi : Hid (Below w.heap.size w wi) := Bwh.out.trans (hbi.mono Bwh.out.size)
 have Cwi : Hid (Below w5.heap.size w5 wi) := Cwh.out.trans (hbi.mono Cwh.out.size)
 have Kwi : Hid (Blk wi w.heap.size #[.int .i64 x.room, .int .i64 x.next, u, ub, uc] 26) := Kwh.out.on hbi Kwh.out.lt
 have Gwi : Hid (Blk wi (w.heap.size + 1) #[.int .i64 s.index, .int .i64 s.term, .string s.data] 52) := Gwh.out.on hbi Gwh.out.lt
 have Jwi : Hid (Blk wi (w.heap.size + 1 + 1) #[.int .i64 y.term, .int .i64 y.vote, .int .i64 y.base, .int .i64 y.bterm, u1] 29) := Jwh.out.on hbi Jwh.out.lt
 have Nwi : Hid (Owns wi rm1.heap.size 75 4 (uI) (newR (mkStp 1) (stpR (psnapR x s y)).length)) := Nwh.out.on hbi
 clear hbi
 clear Bwh Cwh Kwh Gwh Jwh Nwh
 have S0 : Hid (wi.drew.cell? ⟨w.heap.size, 0, none⟩ = some (.int .i64 x.room) ∧ wi.drew.cell? ⟨w.heap.size, 1, none⟩ = some (.int .i64 x.next) ∧ wi.drew.cell? ⟨w.heap.size, 2, none⟩ = some (u) ∧ wi.drew.cell? ⟨w.heap.size, 3, none⟩ = some (ub) ∧ wi.drew.cell? ⟨w.heap.size, 4, none⟩ = some (uc) ∧ wi.drew.cell? ⟨w.heap.size + 1, 0, none⟩ = some (.int .i64 s.index) ∧ wi.drew.cell? ⟨w.heap.size + 1, 1, none⟩ = some (.int .i64 s.term) ∧ wi.drew.cell? ⟨w.heap.size + 1, 2, none⟩ = some (.string s.data) ∧ wi.drew.cell? ⟨w.heap.size + 1 + 1, 0, none⟩ = some (.int .i64 y.term) ∧ wi.drew.cell? ⟨w.heap.size + 1 + 1, 1, none⟩ = some (.int .i64 y.vote) ∧ wi.drew.cell? ⟨w.heap.size + 1 + 1, 2, none⟩ = some (.int .i64 y.base) ∧ wi.drew.cell? ⟨w.heap.size + 1 + 1, 3, none⟩ = some (.int .i64 y.bterm) ∧ wi.drew.cell? ⟨w.heap.size + 1 + 1, 4, none⟩ = some (u1)) := ⟨Kwi.out.cell 0 _ rfl, Kwi.out.cell 1 _ rfl, Kwi.out.cell 2 _ rfl, Kwi.out.cell 3 _ rfl, Kwi.out.cell 4 _ rfl, Gwi.out.cell 0 _ rfl, Gwi.out.cell 1 _ rfl, Gwi.out.cell 2 _ rfl, Jwi.out.cell 0 _ rfl, Jwi.out.cell 1 _ rfl, Jwi.out.cell 2 _ rfl, Jwi.out.cell 3 _ rfl, Jwi.out.cell 4 _ rfl⟩
 go_wp2_with fail
 refine wp_region_until (fun w' => w'.cell? ⟨w.heap.size, 0, none⟩ = some (.int .i64 x.room) ∧ w'.cell? ⟨w.heap.size, 1, none⟩ = some (.int .i64 x.next) ∧ w'.cell? ⟨w.heap.size, 2, none⟩ = some (u) ∧ w'.cell? ⟨w.heap.size, 3, none⟩ = some (ub) ∧ w'.cell? ⟨w.heap.size, 4, none⟩ = some (uc) ∧ w'.cell? ⟨w.heap.size + 1, 0, none⟩ = some (.int .i64 s.index) ∧ w'.cell? ⟨w.heap.size + 1, 1, none⟩ = some (.int .i64 s.term) ∧ w'.cell? ⟨w.heap.size + 1, 2, none⟩ = some (.string s.data) ∧ w'.cell? ⟨w.heap.size + 1 + 1, 0, none⟩ = some (.int .i64 y.term) ∧ w'.cell? ⟨w.heap.size + 1 + 1, 1, none⟩ = some (.int .i64 y.vote) ∧ w'.cell? ⟨w.heap.size + 1 + 1, 2, none⟩ = some (.int .i64 y.base) ∧ w'.cell? ⟨w.heap.size + 1 + 1, 3, none⟩ = some (.int .i64 y.bterm) ∧ w'.cell? ⟨w.heap.size + 1 + 1, 4, none⟩ = some (u1)) (fun i => false) 8 (by rfl) (by kernel_rfl) ?_
 have BrdX : Hid (Below w.heap.size w wi.drew) := Bwi.out.drew
 have CrdX : Hid (Below w5.heap.size w5 wi.drew) := Cwi.out.drew
 have KrdX : Hid (Blk wi.drew w.heap.size #[.int .i64 x.room, .int .i64 x.next, u, ub, uc] 26) := Kwi.out
 have GrdX : Hid (Blk wi.drew (w.heap.size + 1) #[.int .i64 s.index, .int .i64 s.term, .string s.data] 52) := Gwi.out
 have JrdX : Hid (Blk wi.drew (w.heap.size + 1 + 1) #[.int .i64 y.term, .int .i64 y.vote, .int .i64 y.base, .int .i64 y.bterm, u1] 29) := Jwi.out
 have NrdX : Hid (Owns wi.drew rm1.heap.size 75 4 (uI) (newR (mkStp 1) (stpR (psnapR x s y)).length)) := Nwi.out
 clear Bwi Cwi Kwi Gwi Jwi Nwi
 generalize wi.drew = rdX at *
 refine until_take 0 (v := ?_) (by rfl) (by kernel_rfl) (by exact fun _ _ _ h => h) (by rfl) ?_ S0.out ?_
 rotate_left
 ·intro w hSw
  try dsimp only at hSw
  go_simp
  try with_reducible rfl
 try simp only [Act.put, setIfInBounds_toArray, set_cons_zero, set_cons_succ]
 refine until_take 2 (v := ?_) (by rfl) (by kernel_rfl) (by exact fun _ _ _ h => h) (by rfl) ?_ S0.out ?_
 rotate_left
 ·intro w hSw
  try dsimp only at hSw
  go_simp
  try with_reducible rfl
 try simp only [Act.put, setIfInBounds_toArray, set_cons_zero, set_cons_succ]
 refine until_take 4 (v := ?_) (by rfl) (by kernel_rfl) (by exact fun _ _ _ h => h) (by rfl) ?_ S0.out ?_
 rotate_left
 ·intro w hSw
  try dsimp only at hSw
  go_simp
  try with_reducible rfl
 try simp only [Act.put, setIfInBounds_toArray, set_cons_zero, set_cons_succ]
 refine until_one 1 (by rfl) (by kernel_rfl) (fun K hK => ?_)
 go_simp
 refine (cT rdX (HV.out.on BrdX.out) BrdX.out.size).mono ?_
 rintro e rd1 ⟨uard, rfl, hOa, hba⟩
 have Brd1 : Hid (Below w.heap.size w rd1) := BrdX.out.trans (hba.mono BrdX.out.size)
 have Crd1 : Hid (Below w5.heap.size w5 rd1) := CrdX.out.trans (hba.mono CrdX.out.size)
 have Krd1 : Hid (Blk rd1 w.heap.size #[.int .i64 x.room, .int .i64 x.next, u, ub, uc] 26) := KrdX.out.on hba KrdX.out.lt
 have Grd1 : Hid (Blk rd1 (w.heap.size + 1) #[.int .i64 s.index, .int .i64 s.term, .string s.data] 52) := GrdX.out.on hba GrdX.out.lt
 have Jrd1 : Hid (Blk rd1 (w.heap.size + 1 + 1) #[.int .i64 y.term, .int .i64 y.vote, .int .i64 y.base, .int .i64 y.bterm, u1] 29) := JrdX.out.on hba JrdX.out.lt
 have Nrd1 : Hid (Owns rd1 rm1.heap.size 75 4 (uI) (newR (mkStp 1) (stpR (psnapR x s y)).length)) := NrdX.out.on hba
 have UArd1 : Hid (DiskO rd1 rdX.heap.size uard x) := hOa
 clear hba hOa
 clear BrdX CrdX KrdX GrdX JrdX NrdX
 go_wp2_with fail
 refine hK.out _ _ (fun _ _ => ⟨Krd1.out.cell 0 _ rfl, Krd1.out.cell 1 _ rfl, Krd1.out.cell 2 _ rfl, Krd1.out.cell 3 _ rfl, Krd1.out.cell 4 _ rfl, Grd1.out.cell 0 _ rfl, Grd1.out.cell 1 _ rfl, Grd1.out.cell 2 _ rfl, Jrd1.out.cell 0 _ rfl, Jrd1.out.cell 1 _ rfl, Jrd1.out.cell 2 _ rfl, Jrd1.out.cell 3 _ rfl, Jrd1.out.cell 4 _ rfl⟩) ?_
 clear hK K
 try simp only [Act.put, setIfInBounds_toArray, set_cons_zero, set_cons_succ]
 refine until_one 3 (by rfl) (by kernel_rfl) (fun K hK => ?_)
 go_simp
 refine (cQ rd1).mono ?_
 rintro e rd2 ⟨rfl, hba⟩
 have Brd2 : Hid (Below w.heap.size w rd2) := Brd1.out.trans (hba.mono Brd1.out.size)
 have Crd2 : Hid (Below w5.heap.size w5 rd2) := Crd1.out.trans (hba.mono Crd1.out.size)
 have Krd2 : Hid (Blk rd2 w.heap.size #[.int .i64 x.room, .int .i64 x.next, u, ub, uc] 26) := Krd1.out.on hba Krd1.out.lt
 have Grd2 : Hid (Blk rd2 (w.heap.size + 1) #[.int .i64 s.index, .int .i64 s.term, .string s.data] 52) := Grd1.out.on hba Grd1.out.lt
 have Jrd2 : Hid (Blk rd2 (w.heap.size + 1 + 1) #[.int .i64 y.term, .int .i64 y.vote, .int .i64 y.base, .int .i64 y.bterm, u1] 29) := Jrd1.out.on hba Jrd1.out.lt
 have Nrd2 : Hid (Owns rd2 rm1.heap.size 75 4 (uI) (newR (mkStp 1) (stpR (psnapR x s y)).length)) := Nrd1.out.on hba
 have UArd2 : Hid (DiskO rd2 rdX.heap.size uard x) := UArd1.out.on hba
 clear hba UArd1
 clear Brd1 Crd1 Krd1 Grd1 Jrd1 Nrd1
 go_wp2_with fail
 refine hK.out _ _ (fun _ _ => ⟨Krd2.out.cell 0 _ rfl, Krd2.out.cell 1 _ rfl, Krd2.out.cell 2 _ rfl, Krd2.out.cell 3 _ rfl, Krd2.out.cell 4 _ rfl, Grd2.out.cell 0 _ rfl, Grd2.out.cell 1 _ rfl, Grd2.out.cell 2 _ rfl, Jrd2.out.cell 0 _ rfl, Jrd2.out.cell 1 _ rfl, Jrd2.out.cell 2 _ rfl, Jrd2.out.cell 3 _ rfl, Jrd2.out.cell 4 _ rfl⟩) ?_
 clear hK K
 try simp only [Act.put, setIfInBounds_toArray, set_cons_zero, set_cons_succ]
 refine until_one 5 (by rfl) (by kernel_rfl) (fun K hK => ?_)
 go_simp
 refine (cT1 rd2 (HV1.out.on Brd2.out) Brd2.out.size).mono ?_
 rintro e rd3 ⟨ubrd, rfl, hOa, hba⟩
 have Brd3 : Hid (Below w.heap.size w rd3) := Brd2.out.trans (hba.mono Brd2.out.size)
 have Crd3 : Hid (Below w5.heap.size w5 rd3) := Crd2.out.trans (hba.mono Crd2.out.size)
 have Krd3 : Hid (Blk rd3 w.heap.size #[.int .i64 x.room, .int .i64 x.next, u, ub, uc] 26) := Krd2.out.on hba Krd2.out.lt
 have Grd3 : Hid (Blk rd3 (w.heap.size + 1) #[.int .i64 s.index, .int .i64 s.term, .string s.data] 52) := Grd2.out.on hba Grd2.out.lt
 have Jrd3 : Hid (Blk rd3 (w.heap.size + 1 + 1) #[.int .i64 y.term, .int .i64 y.vote, .int .i64 y.base, .int .i64 y.bterm, u1] 29) := Jrd2.out.on hba Jrd2.out.lt
 have Nrd3 : Hid (Owns rd3 rm1.heap.size 75 4 (uI) (newR (mkStp 1) (stpR (psnapR x s y)).length)) := Nrd2.out.on hba
 have UArd3 : Hid (DiskO rd3 rdX.heap.size uard x) := UArd2.out.on hba
 have UBrd3 : Hid (WalO rd3 rd2.heap.size ubrd y) := hOa
 clear hba hOa UArd2
 clear Brd2 Crd2 Krd2 Grd2 Jrd2 Nrd2
 go_wp2_with fail
 refine hK.out _ _ (fun _ _ => ⟨Krd3.out.cell 0 _ rfl, Krd3.out.cell 1 _ rfl, Krd3.out.cell 2 _ rfl, Krd3.out.cell 3 _ rfl, Krd3.out.cell 4 _ rfl, Grd3.out.cell 0 _ rfl, Grd3.out.cell 1 _ rfl, Grd3.out.cell 2 _ rfl, Jrd3.out.cell 0 _ rfl, Jrd3.out.cell 1 _ rfl, Jrd3.out.cell 2 _ rfl, Jrd3.out.cell 3 _ rfl, Jrd3.out.cell 4 _ rfl⟩) ?_
 clear hK K
 try simp only [Act.put, setIfInBounds_toArray, set_cons_zero, set_cons_succ]
 refine until_one 6 (by rfl) (by kernel_rfl) (fun K hK => ?_)
 go_simp
 refine (cG rd3 uard ubrd UArd3.out.look UBrd3.out.lies (HT.out.on Brd3.out)).mono ?_
 rintro e wk ⟨uH, rfl, hOrd, hba⟩
 have Bwk : Hid (Below w.heap.size w wk) := Brd3.out.trans (hba.mono Brd3.out.size)
 have Cwk : Hid (Below w5.heap.size w5 wk) := Crd3.out.trans (hba.mono Crd3.out.size)
 have Kwk : Hid (Blk wk w.heap.size #[.int .i64 x.room, .int .i64 x.next, u, ub, uc] 26) := Krd3.out.on hba Krd3.out.lt
 have Gwk : Hid (Blk wk (w.heap.size + 1) #[.int .i64 s.index, .int .i64 s.term, .string s.data] 52) := Grd3.out.on hba Grd3.out.lt
 have Jwk : Hid (Blk wk (w.heap.size + 1 + 1) #[.int .i64 y.term, .int .i64 y.vote, .int .i64 y.base, .int .i64 y.bterm, u1] 29) := Jrd3.out.on hba Jrd3.out.lt
 have Nwk : Hid (Owns wk rm1.heap.size 75 4 (uI) (newR (mkStp 1) (stpR (psnapR x s y)).length)) := Nrd3.out.on hba
 have HOrd : Hid (Owns wk rd3.heap.size 75 4 uH (stpR (psnapR x s y))) := hOrd
 clear hba hOrd UArd3 UBrd3
 clear Brd3 Crd3 Krd3 Grd3 Jrd3 Nrd3
 go_wp2_with fail
 refine hK.out _ _ (fun _ _ => ⟨Kwk.out.cell 0 _ rfl, Kwk.out.cell 1 _ rfl, Kwk.out.cell 2 _ rfl, Kwk.out.cell 3 _ rfl, Kwk.out.cell 4 _ rfl, Gwk.out.cell 0 _ rfl, Gwk.out.cell 1 _ rfl, Gwk.out.cell 2 _ rfl, Jwk.out.cell 0 _ rfl, Jwk.out.cell 1 _ rfl, Jwk.out.cell 2 _ rfl, Jwk.out.cell 3 _ rfl, Jwk.out.cell 4 _ rfl⟩) ?_
 clear hK K
 try simp only [Act.put, setIfInBounds_toArray, set_cons_zero, set_cons_succ]
 refine until_pure 7 (v := ?_) (by rfl) (by kernel_rfl) (by exact fun _ _ _ h => h) (by rfl) ?_ ?_
 rotate_left
 ·intro w
  go_simp
  try with_reducible rfl
 try simp only [Act.put, setIfInBounds_toArray, set_cons_zero, set_cons_succ]
 clear S0
 refine until_done (by kernel_rfl) ?_ _
 have Hwk : Hid (Owns wk rd3.heap.size 75 4 (uH) (stpR (psnapR x s y))) := HOrd.out
 clear HOrd
 go_wp2_with fail
 refine (eqStepS (psnapR x s y) uH uS wk wk.heap.size Hwk.out.lies ((TS.out.on Cwk.out).mono Cwk.out.size) (by have := LN.out; omega) (Nat.le_refl _)).mono ?_
 rintro e wl ⟨rfl, hbq⟩
 have Bwl : Hid (Below w.heap.size w wl) := Bwk.out.trans (hbq.mono Bwk.out.size)
 have Cwl : Hid (Below w5.heap.size w5 wl) := Cwk.out.trans (hbq.mono Cwk.out.size)
 have Nwl : Hid (Owns wl rm1.heap.size 75 4 (uI) (newR (mkStp 1) (stpR (psnapR x s y)).length)) := Nwk.out.on hbq
 have Hwl : Hid (Owns wl rd3.heap.size 75 4 (uH) (stpR (psnapR x s y))) := Hwk.out.on hbq
 clear hbq
 clear Bwk Cwk Nwk Hwk
 go_wp2_with fail
 refine (cHd wl Nwl.out.lies).mono ?_
 rintro e wm ⟨rfl, hbm⟩
 have Bwm : Hid (Below w.heap.size w wm) := Bwl.out.trans (hbm.mono Bwl.out.size)
 clear hbm
 go_wp2_with fail
 go_ret
 exact ⟨rfl, Bwm.out⟩
end Go.Proofs.YtepffbgelaajnaaGreatDoor
