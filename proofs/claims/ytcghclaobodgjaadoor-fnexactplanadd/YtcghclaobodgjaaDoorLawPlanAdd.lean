/-
  The law FnExactPlanAdd answers true at every two logs.
-/
import Derived.Test.YtcghclaobodgjaaDoorRows
import Derived.Test.YtcghclaobodgjaaDoorWkHd
import Derived.Test.YtcghclaobodgjaaDoorSpHd
import Derived.Test.YtcghclaobodgjaaDoorWkArgD
import Derived.Test.YtcghclaobodgjaaDoorPaImpl
import Derived.Test.YtcghclaobodgjaaDoorPaSpec
import Derived.Lib.OwnKind
namespace Go.Proofs.YtcghclaobodgjaaDoor
open Go.ChangeShapes Go.WideShapes Go.ChangeAt Go.RowKit Go.PlainAid
set_option linter.unusedVariables false

theorem Owns.spare {w w' : World} {base : Nat} {e : TypeId} {sz : Nat} {v u : Value} {rows : List (List Value)} (h : Owns w base e sz v rows) (hk : ∀ g, g < w.heap.size → u.ownBlock ≠ some g → w'.heap[g]? = w.heap[g]?) (hu : ∀ g, u.ownBlock = some g → g < base) : Owns w' base e sz v rows :=
  h.kept fun g hg ho => hk g hg fun e => by have := hu g e; have := (h.lt g ho).1; omega
theorem Blk.spare {w w' : World} {g : Nat} {cs : Array Value} {t : TypeId} {u : Value} (h : Blk w g cs t) (hk : ∀ g, g < w.heap.size → u.ownBlock ≠ some g → w'.heap[g]? = w.heap[g]?) (hu : u.ownBlock ≠ some g) : Blk w' g cs t := by
  unfold Blk
  rw [hk g h.lt hu]
  exact h
theorem Owns.notBlk {w : World} {base : Nat} {e t : TypeId} {sz g : Nat} {v : Value} {R : List (List Value)} {cs : Array Value} (h : Owns w base e sz v R) (hb : Blk w g cs t) (hne : e ≠ t) : v.ownBlock ≠ some g := by
  intro hg
  obtain ⟨c, fz, e1⟩ := Lib.ownsRow_kind h.2 g hg
  unfold Blk at hb
  rw [e1] at hb
  cases hb
  exact hne rfl
set_option maxRecDepth 20000 in
set_option maxHeartbeats 100000000 in
theorem law_fnExactPlanAdd (x : Wl) (v : Value) (y : Wl) (v1 : Value) (w : World) (hv : WalV w w.heap.size v x) (hf : FitsW x) (hi : IntsW x) (hv1 : WalV w w.heap.size v1 y) (hf1 : FitsW y) (hi1 : IntsW y) (ht : SumTab w) :
    Calls Tryd.prog 3 #[v, v1] w fun e w' => e = .returned (.bool true) ∧ Below w.heap.size w w' := by
  have HV : Hid (WalV w w.heap.size v x) := hv
  have HV1 : Hid (WalV w w.heap.size v1 y) := hv1
  have HF : Hid (FitsW x) := hf
  have HF1 : Hid (FitsW y) := hf1
  have HT : Hid (SumTab w) := ht
  clear ht
  obtain ⟨u, rfl, h1⟩ := hv
  obtain ⟨u1, rfl, h2⟩ := hv1
  have cS := fun wx hx hb => szWal x (.agg #[.int .i64 x.term, .int .i64 x.vote, .int .i64 x.base, .int .i64 x.bterm, u]) wx w.heap.size 1048576 (by omega) (by omega) hx hf hb
  have cS1 := fun wx left h0 h1 hx hb => szWal y (.agg #[.int .i64 y.term, .int .i64 y.vote, .int .i64 y.base, .int .i64 y.bterm, u1]) wx w.heap.size left h0 h1 hx hf1 hb
  clear h1 h2 hf hi hf1 hi1
  go_enter Tryd.func3, Tryd.ntmps3
  go_wp2_with fail
  have hb0 : Below w.heap.size w ((w.alloc (.cells #[.int .i64 x.term, .int .i64 x.vote, .int .i64 x.base, .int .i64 x.bterm, u] 24)).alloc (.cells #[.int .i64 y.term, .int .i64 y.vote, .int .i64 y.base, .int .i64 y.bterm, u1] 24)) := ((Below.refl _ w).alloc (Nat.le_refl _) _).alloc (by simp) _
  have k0 := (Blk.new w #[.int .i64 x.term, .int .i64 x.vote, .int .i64 x.base, .int .i64 x.bterm, u] 24).alloc (.cells #[.int .i64 y.term, .int .i64 y.vote, .int .i64 y.base, .int .i64 y.bterm, u1] 24)
  have j0 := Blk.new (w.alloc (.cells #[.int .i64 x.term, .int .i64 x.vote, .int .i64 x.base, .int .i64 x.bterm, u] 24)) #[.int .i64 y.term, .int .i64 y.vote, .int .i64 y.base, .int .i64 y.bterm, u1] 24
  simp only [World.size_alloc] at j0
  generalize (w.alloc (.cells #[.int .i64 x.term, .int .i64 x.vote, .int .i64 x.base, .int .i64 x.bterm, u] 24)).alloc (.cells #[.int .i64 y.term, .int .i64 y.vote, .int .i64 y.base, .int .i64 y.bterm, u1] 24) = w0 at *
  have Bw0 : Hid (Below w.heap.size w w0) := hb0
  have Kw0 : Hid (Blk w0 w.heap.size #[.int .i64 x.term, .int .i64 x.vote, .int .i64 x.base, .int .i64 x.bterm, u] 24) := k0
  have Jw0 : Hid (Blk w0 (w.heap.size + 1) #[.int .i64 y.term, .int .i64 y.vote, .int .i64 y.base, .int .i64 y.bterm, u1] 24) := j0
  clear hb0 k0 j0
  refine (cS w0 (HV.out.on Bw0.out) Bw0.out.size).mono ?_
  rintro e w1 ⟨q1, rfl, hr, hb1⟩
  have Bw1 : Hid (Below w.heap.size w w1) := Bw0.out.trans (hb1.mono Bw0.out.size)
  have Kw1 : Hid (Blk w1 w.heap.size #[.int .i64 x.term, .int .i64 x.vote, .int .i64 x.base, .int .i64 x.bterm, u] 24) := Kw0.out.on hb1 Kw0.out.lt
  have Jw1 : Hid (Blk w1 (w.heap.size + 1) #[.int .i64 y.term, .int .i64 y.vote, .int .i64 y.base, .int .i64 y.bterm, u1] 24) := Jw0.out.on hb1 Jw0.out.lt
  clear hb1 cS Bw0 Kw0 Jw0
  rcases hr with rfl | ⟨hr0, hr1⟩
  · go_wp2_with fail
    go_ret
    exact ⟨rfl, Bw1.out⟩
  have HW : Hid (wtW x ≤ 1048576) := by unfold Hid; omega
  have z1 : decide (q1 < 0) = false := decide_eq_false (by omega)
  have z2 : q1 ≤ 1048576 := by omega
  have y0 := Jw1.out.cell 0 (.int .i64 y.term) rfl
  have y1 := Jw1.out.cell 1 (.int .i64 y.vote) rfl
  have y2 := Jw1.out.cell 2 (.int .i64 y.base) rfl
  have y3 := Jw1.out.cell 3 (.int .i64 y.bterm) rfl
  have y4 := Jw1.out.cell 4 (u1) rfl
  go_wp2_with fail
  refine (cS1 w1 q1 hr0 z2 (HV1.out.on Bw1.out) Bw1.out.size).mono ?_
  rintro e w2 ⟨q2, rfl, hr', hb2⟩
  have Bw2 : Hid (Below w.heap.size w w2) := Bw1.out.trans (hb2.mono Bw1.out.size)
  have Kw2 : Hid (Blk w2 w.heap.size #[.int .i64 x.term, .int .i64 x.vote, .int .i64 x.base, .int .i64 x.bterm, u] 24) := Kw1.out.on hb2 Kw1.out.lt
  have Jw2 : Hid (Blk w2 (w.heap.size + 1) #[.int .i64 y.term, .int .i64 y.vote, .int .i64 y.base, .int .i64 y.bterm, u1] 24) := Jw1.out.on hb2 Jw1.out.lt
  clear hb2 cS1 y0 y1 y2 y3 y4 Bw1 Kw1 Jw1
  rcases hr' with rfl | ⟨hq0, hq1⟩
  · go_wp2_with fail
    go_ret
    exact ⟨rfl, Bw2.out⟩
  have HW1 : Hid (wtW y ≤ 1048576) := by unfold Hid; omega
  have z3 : decide (q2 < 0) = false := decide_eq_false (by omega)
  have cT := fun wx hx hb => toWal x (.agg #[.int .i64 x.term, .int .i64 x.vote, .int .i64 x.base, .int .i64 x.bterm, u]) wx w.heap.size hx HW.out hb
  have cT1 := fun wx hx hb => toWal y (.agg #[.int .i64 y.term, .int .i64 y.vote, .int .i64 y.base, .int .i64 y.bterm, u1]) wx w.heap.size hx HW1.out hb
  have cSp := fun wx a b ha hb (_ : SumTab wx) => specPlanAdd x y a b wx wx.heap.size ha hb HF.out HF1.out (Nat.le_refl _)
  have cG := fun wx a b ha hb ht => implPlanAdd x y a b wx wx.heap.size ha hb HF.out HF1.out (Nat.le_refl _) ht
  clear hr1 hq1 hr0 hq0
  have S0 : Hid (w2.drew.cell? ⟨w.heap.size, 0, none⟩ = some (.int .i64 x.term) ∧ w2.drew.cell? ⟨w.heap.size, 1, none⟩ = some (.int .i64 x.vote) ∧ w2.drew.cell? ⟨w.heap.size, 2, none⟩ = some (.int .i64 x.base) ∧ w2.drew.cell? ⟨w.heap.size, 3, none⟩ = some (.int .i64 x.bterm) ∧ w2.drew.cell? ⟨w.heap.size, 4, none⟩ = some (u) ∧ w2.drew.cell? ⟨w.heap.size + 1, 0, none⟩ = some (.int .i64 y.term) ∧ w2.drew.cell? ⟨w.heap.size + 1, 1, none⟩ = some (.int .i64 y.vote) ∧ w2.drew.cell? ⟨w.heap.size + 1, 2, none⟩ = some (.int .i64 y.base) ∧ w2.drew.cell? ⟨w.heap.size + 1, 3, none⟩ = some (.int .i64 y.bterm) ∧ w2.drew.cell? ⟨w.heap.size + 1, 4, none⟩ = some (u1)) := ⟨Kw2.out.cell 0 _ rfl, Kw2.out.cell 1 _ rfl, Kw2.out.cell 2 _ rfl, Kw2.out.cell 3 _ rfl, Kw2.out.cell 4 _ rfl, Jw2.out.cell 0 _ rfl, Jw2.out.cell 1 _ rfl, Jw2.out.cell 2 _ rfl, Jw2.out.cell 3 _ rfl, Jw2.out.cell 4 _ rfl⟩
  go_wp2_with fail
  refine wp_region_until (fun w' => w'.cell? ⟨w.heap.size, 0, none⟩ = some (.int .i64 x.term) ∧ w'.cell? ⟨w.heap.size, 1, none⟩ = some (.int .i64 x.vote) ∧ w'.cell? ⟨w.heap.size, 2, none⟩ = some (.int .i64 x.base) ∧ w'.cell? ⟨w.heap.size, 3, none⟩ = some (.int .i64 x.bterm) ∧ w'.cell? ⟨w.heap.size, 4, none⟩ = some (u) ∧ w'.cell? ⟨w.heap.size + 1, 0, none⟩ = some (.int .i64 y.term) ∧ w'.cell? ⟨w.heap.size + 1, 1, none⟩ = some (.int .i64 y.vote) ∧ w'.cell? ⟨w.heap.size + 1, 2, none⟩ = some (.int .i64 y.base) ∧ w'.cell? ⟨w.heap.size + 1, 3, none⟩ = some (.int .i64 y.bterm) ∧ w'.cell? ⟨w.heap.size + 1, 4, none⟩ = some (u1)) (fun i => false) 6 (by rfl) (by kernel_rfl) ?_
  have BraX : Hid (Below w.heap.size w w2.drew) := Bw2.out.drew
  have KraX : Hid (Blk w2.drew w.heap.size #[.int .i64 x.term, .int .i64 x.vote, .int .i64 x.base, .int .i64 x.bterm, u] 24) := Kw2.out
  have JraX : Hid (Blk w2.drew (w.heap.size + 1) #[.int .i64 y.term, .int .i64 y.vote, .int .i64 y.base, .int .i64 y.bterm, u1] 24) := Jw2.out
  clear Bw2 Kw2 Jw2
  generalize w2.drew = raX at *
  refine until_take 0 (v := ?_) (by rfl) (by kernel_rfl) (by exact fun _ _ _ h => h) (by rfl) ?_ S0.out ?_
  rotate_left
  · intro w hSw
    try dsimp only at hSw
    go_simp
    try with_reducible rfl
  try simp only [Act.put, List.setIfInBounds_toArray, List.set_cons_zero, List.set_cons_succ]
  refine until_take 2 (v := ?_) (by rfl) (by kernel_rfl) (by exact fun _ _ _ h => h) (by rfl) ?_ S0.out ?_
  rotate_left
  · intro w hSw
    try dsimp only at hSw
    go_simp
    try with_reducible rfl
  try simp only [Act.put, List.setIfInBounds_toArray, List.set_cons_zero, List.set_cons_succ]
  refine until_one 1 (by rfl) (by kernel_rfl) (fun K hK => ?_)
  go_simp
  refine (cT raX (HV.out.on BraX.out) BraX.out.size).mono ?_
  rintro e ra1 ⟨uara, rfl, hOa, hba⟩
  have Bra1 : Hid (Below w.heap.size w ra1) := BraX.out.trans (hba.mono BraX.out.size)
  have Kra1 : Hid (Blk ra1 w.heap.size #[.int .i64 x.term, .int .i64 x.vote, .int .i64 x.base, .int .i64 x.bterm, u] 24) := KraX.out.on hba KraX.out.lt
  have Jra1 : Hid (Blk ra1 (w.heap.size + 1) #[.int .i64 y.term, .int .i64 y.vote, .int .i64 y.base, .int .i64 y.bterm, u1] 24) := JraX.out.on hba JraX.out.lt
  have UAra1 : Hid (WalO ra1 raX.heap.size uara x) := hOa
  clear hba hOa
  clear BraX KraX JraX
  go_wp2_with fail
  refine hK.out _ _ (fun _ _ => ⟨Kra1.out.cell 0 _ rfl, Kra1.out.cell 1 _ rfl, Kra1.out.cell 2 _ rfl, Kra1.out.cell 3 _ rfl, Kra1.out.cell 4 _ rfl, Jra1.out.cell 0 _ rfl, Jra1.out.cell 1 _ rfl, Jra1.out.cell 2 _ rfl, Jra1.out.cell 3 _ rfl, Jra1.out.cell 4 _ rfl⟩) ?_
  clear hK K
  try simp only [Act.put, List.setIfInBounds_toArray, List.set_cons_zero, List.set_cons_succ]
  refine until_one 3 (by rfl) (by kernel_rfl) (fun K hK => ?_)
  go_simp
  refine (cT1 ra1 (HV1.out.on Bra1.out) Bra1.out.size).mono ?_
  rintro e ra2 ⟨ubra, rfl, hOa, hba⟩
  have Bra2 : Hid (Below w.heap.size w ra2) := Bra1.out.trans (hba.mono Bra1.out.size)
  have Kra2 : Hid (Blk ra2 w.heap.size #[.int .i64 x.term, .int .i64 x.vote, .int .i64 x.base, .int .i64 x.bterm, u] 24) := Kra1.out.on hba Kra1.out.lt
  have Jra2 : Hid (Blk ra2 (w.heap.size + 1) #[.int .i64 y.term, .int .i64 y.vote, .int .i64 y.base, .int .i64 y.bterm, u1] 24) := Jra1.out.on hba Jra1.out.lt
  have UAra2 : Hid (WalO ra2 raX.heap.size uara x) := UAra1.out.on hba
  have UBra2 : Hid (WalO ra2 ra1.heap.size ubra y) := hOa
  clear hba hOa UAra1
  clear Bra1 Kra1 Jra1
  go_wp2_with fail
  refine hK.out _ _ (fun _ _ => ⟨Kra2.out.cell 0 _ rfl, Kra2.out.cell 1 _ rfl, Kra2.out.cell 2 _ rfl, Kra2.out.cell 3 _ rfl, Kra2.out.cell 4 _ rfl, Jra2.out.cell 0 _ rfl, Jra2.out.cell 1 _ rfl, Jra2.out.cell 2 _ rfl, Jra2.out.cell 3 _ rfl, Jra2.out.cell 4 _ rfl⟩) ?_
  clear hK K
  try simp only [Act.put, List.setIfInBounds_toArray, List.set_cons_zero, List.set_cons_succ]
  refine until_one 4 (by rfl) (by kernel_rfl) (fun K hK => ?_)
  go_simp
  refine (cSp ra2 uara ubra UAra2.out.lies UBra2.out.lies (HT.out.on Bra2.out)).mono ?_
  rintro e w5 ⟨l, ok, uS, hAra, rfl, hOra, hba⟩
  have Bw5 : Hid (Below w.heap.size w w5) := Bra2.out.trans (hba.mono Bra2.out.size)
  have Kw5 : Hid (Blk w5 w.heap.size #[.int .i64 x.term, .int .i64 x.vote, .int .i64 x.base, .int .i64 x.bterm, u] 24) := Kra2.out.on hba Kra2.out.lt
  have Jw5 : Hid (Blk w5 (w.heap.size + 1) #[.int .i64 y.term, .int .i64 y.vote, .int .i64 y.base, .int .i64 y.bterm, u1] 24) := Jra2.out.on hba Jra2.out.lt
  have HAra : Hid (ChAns x y l ok) := hAra
  have HOra : Hid (Owns w5 ra2.heap.size 46 4 uS (stpR (planOf l))) := hOra
  clear hba hAra hOra UAra2 UBra2
  clear Bra2 Kra2 Jra2
  go_wp2_with fail
  refine hK.out _ _ (fun _ _ => ⟨Kw5.out.cell 0 _ rfl, Kw5.out.cell 1 _ rfl, Kw5.out.cell 2 _ rfl, Kw5.out.cell 3 _ rfl, Kw5.out.cell 4 _ rfl, Jw5.out.cell 0 _ rfl, Jw5.out.cell 1 _ rfl, Jw5.out.cell 2 _ rfl, Jw5.out.cell 3 _ rfl, Jw5.out.cell 4 _ rfl⟩) ?_
  clear hK K
  try simp only [Act.put, List.setIfInBounds_toArray, List.set_cons_zero, List.set_cons_succ]
  refine until_pure 5 (v := ?_) (by rfl) (by kernel_rfl) (by exact fun _ _ _ h => h) (by rfl) ?_ ?_
  rotate_left
  · intro w
    go_simp
    try with_reducible rfl
  try simp only [Act.put, List.setIfInBounds_toArray, List.set_cons_zero, List.set_cons_succ]
  clear S0
  refine until_done (by kernel_rfl) ?_ _
  have TS : Hid (Lies w5 w5.heap.size 4 uS (stpR (planOf l))) := HOra.out.lies
  have LN : Hid ((planOf l).length ≤ 2) := planOf_length l
  have Cw5 : Hid (Below w5.heap.size w5 w5) := Below.refl _ _
  have LK : Hid (w.heap.size < w5.heap.size) := Kw5.out.lt
  have LJ : Hid (w.heap.size + 1 < w5.heap.size) := Jw5.out.lt
  clear HOra
  have y0 := Kw5.out.cell 0 (.int .i64 x.term) rfl
  have y1 := Kw5.out.cell 1 (.int .i64 x.vote) rfl
  have y2 := Kw5.out.cell 2 (.int .i64 x.base) rfl
  have y3 := Kw5.out.cell 3 (.int .i64 x.bterm) rfl
  have y4 := Kw5.out.cell 4 (u) rfl
  go_wp2_with fail
  refine (cT w5 (HV.out.on Bw5.out) Bw5.out.size).mono ?_
  rintro e w6 ⟨u6, rfl, hO6, hb6⟩
  have Bw6 : Hid (Below w.heap.size w w6) := Bw5.out.trans (hb6.mono Bw5.out.size)
  have Cw6 : Hid (Below w5.heap.size w5 w6) := Cw5.out.trans (hb6.mono Cw5.out.size)
  have Kw6 : Hid (Blk w6 w.heap.size #[.int .i64 x.term, .int .i64 x.vote, .int .i64 x.base, .int .i64 x.bterm, u] 24) := Kw5.out.on hb6 Kw5.out.lt
  have Jw6 : Hid (Blk w6 (w.heap.size + 1) #[.int .i64 y.term, .int .i64 y.vote, .int .i64 y.base, .int .i64 y.bterm, u1] 24) := Jw5.out.on hb6 Jw5.out.lt
  obtain ⟨z6, rfl, q6⟩ := hO6
  obtain ⟨A1, m1, c1, rfl⟩ := q6.shape
  have bx : Below w6.heap.size w6 (w6.alloc (.cells #[.int .i64 x.term, .int .i64 x.vote, .int .i64 x.base, .int .i64 x.bterm, .slice A1 m1 c1] 30)) := (Below.refl _ _).alloc (Nat.le_refl _) _
  have kx := Blk.new w6 #[.int .i64 x.term, .int .i64 x.vote, .int .i64 x.base, .int .i64 x.bterm, .slice A1 m1 c1] 30
  have oX := q6.on bx
  clear hb6 y0 y1 y2 y3 y4 Bw5 Kw5 Jw5 Cw5
  have j0 := (Jw6.out.on bx Jw6.out.lt).cell 0 (.int .i64 y.term) rfl
  have j1 := (Jw6.out.on bx Jw6.out.lt).cell 1 (.int .i64 y.vote) rfl
  have j2 := (Jw6.out.on bx Jw6.out.lt).cell 2 (.int .i64 y.base) rfl
  have j3 := (Jw6.out.on bx Jw6.out.lt).cell 3 (.int .i64 y.bterm) rfl
  have j4 := (Jw6.out.on bx Jw6.out.lt).cell 4 (u1) rfl
  go_wp2_with fail
  generalize w6.alloc (.cells #[.int .i64 x.term, .int .i64 x.vote, .int .i64 x.base, .int .i64 x.bterm, .slice A1 m1 c1] 30) = w7 at *
  have Bw7 : Hid (Below w.heap.size w w7) := Bw6.out.trans (bx.mono Bw6.out.size)
  have Cw7 : Hid (Below w5.heap.size w5 w7) := Cw6.out.trans (bx.mono Cw6.out.size)
  have Kw7 : Hid (Blk w7 w.heap.size #[.int .i64 x.term, .int .i64 x.vote, .int .i64 x.base, .int .i64 x.bterm, u] 24) := Kw6.out.on bx Kw6.out.lt
  have Jw7 : Hid (Blk w7 (w.heap.size + 1) #[.int .i64 y.term, .int .i64 y.vote, .int .i64 y.base, .int .i64 y.bterm, u1] 24) := Jw6.out.on bx Jw6.out.lt
  clear j0 j1 j2 j3 j4 bx Bw6 Cw6 Kw6 Jw6 q6
  generalize w6.heap.size = px at *
  have Xw7 : Hid (Blk w7 px #[.int .i64 x.term, .int .i64 x.vote, .int .i64 x.base, .int .i64 x.bterm, .slice A1 m1 c1] 30) := kx
  have Ow7 : Hid (Owns w7 w5.heap.size 66 2 (.slice A1 m1 c1) (entR x.ents)) := oX
  clear kx oX
  refine (cT1 w7 (HV1.out.on Bw7.out) Bw7.out.size).mono ?_
  rintro e w8 ⟨u8, rfl, hO8, hb8⟩
  have Bw8 : Hid (Below w.heap.size w w8) := Bw7.out.trans (hb8.mono Bw7.out.size)
  have Cw8 : Hid (Below w5.heap.size w5 w8) := Cw7.out.trans (hb8.mono Cw7.out.size)
  have Kw8 : Hid (Blk w8 w.heap.size #[.int .i64 x.term, .int .i64 x.vote, .int .i64 x.base, .int .i64 x.bterm, u] 24) := Kw7.out.on hb8 Kw7.out.lt
  have Jw8 : Hid (Blk w8 (w.heap.size + 1) #[.int .i64 y.term, .int .i64 y.vote, .int .i64 y.base, .int .i64 y.bterm, u1] 24) := Jw7.out.on hb8 Jw7.out.lt
  have Xw8 : Hid (Blk w8 px #[.int .i64 x.term, .int .i64 x.vote, .int .i64 x.base, .int .i64 x.bterm, .slice A1 m1 c1] 30) := Xw7.out.on hb8 Xw7.out.lt
  have Ow8 : Hid (Owns w8 w5.heap.size 66 2 (.slice A1 m1 c1) (entR x.ents)) := Ow7.out.on hb8
  obtain ⟨z8, rfl, q8⟩ := hO8
  obtain ⟨A2, m2, c2, rfl⟩ := q8.shape
  have BO : Hid (∀ g, (Value.slice A1 m1 c1).ownBlock = some g → g < w7.heap.size) := fun g hg => (Ow7.out.lt g hg).2
  have BC7 : Hid (w5.heap.size ≤ w7.heap.size) := Cw7.out.size
  have by8 : Below w8.heap.size w8 (w8.alloc (.cells #[.int .i64 y.term, .int .i64 y.vote, .int .i64 y.base, .int .i64 y.bterm, .slice A2 m2 c2] 30)) := (Below.refl _ _).alloc (Nat.le_refl _) _
  have ky := Blk.new w8 #[.int .i64 y.term, .int .i64 y.vote, .int .i64 y.base, .int .i64 y.bterm, .slice A2 m2 c2] 30
  have oY := q8.on by8
  have C78 : w7.heap.size ≤ w8.heap.size := hb8.size
  have C79' : w7.heap.size ≤ (w8.alloc (.cells #[.int .i64 y.term, .int .i64 y.vote, .int .i64 y.base, .int .i64 y.bterm, .slice A2 m2 c2] 30)).heap.size := Nat.le_trans C78 by8.size
  have C79 : Hid (w7.heap.size ≤ (w8.alloc (.cells #[.int .i64 y.term, .int .i64 y.vote, .int .i64 y.base, .int .i64 y.bterm, .slice A2 m2 c2] 30)).heap.size) := C79'
  clear hb8 Bw7 Cw7 Kw7 Jw7 Xw7 Ow7 C78 C79'
  have s0 := (Xw8.out.on by8 Xw8.out.lt).cell 0 (.int .i64 x.term) rfl
  have s1 := (Xw8.out.on by8 Xw8.out.lt).cell 1 (.int .i64 x.vote) rfl
  have s2 := (Xw8.out.on by8 Xw8.out.lt).cell 2 (.int .i64 x.base) rfl
  have s3 := (Xw8.out.on by8 Xw8.out.lt).cell 3 (.int .i64 x.bterm) rfl
  have s4 := (Xw8.out.on by8 Xw8.out.lt).cell 4 (.slice A1 m1 c1) rfl
  have y0 := ky.cell 0 (.int .i64 y.term) rfl
  have y1 := ky.cell 1 (.int .i64 y.vote) rfl
  have y2 := ky.cell 2 (.int .i64 y.base) rfl
  have y3 := ky.cell 3 (.int .i64 y.bterm) rfl
  have y4 := ky.cell 4 (.slice A2 m2 c2) rfl
  go_wp2_with fail
  generalize w8.alloc (.cells #[.int .i64 y.term, .int .i64 y.vote, .int .i64 y.base, .int .i64 y.bterm, .slice A2 m2 c2] 30) = w9 at *
  have Bw9 : Hid (Below w.heap.size w w9) := Bw8.out.trans (by8.mono Bw8.out.size)
  have Cw9 : Hid (Below w5.heap.size w5 w9) := Cw8.out.trans (by8.mono Cw8.out.size)
  have Kw9 : Hid (Blk w9 w.heap.size #[.int .i64 x.term, .int .i64 x.vote, .int .i64 x.base, .int .i64 x.bterm, u] 24) := Kw8.out.on by8 Kw8.out.lt
  have Jw9 : Hid (Blk w9 (w.heap.size + 1) #[.int .i64 y.term, .int .i64 y.vote, .int .i64 y.base, .int .i64 y.bterm, u1] 24) := Jw8.out.on by8 Jw8.out.lt
  have Xw9 : Hid (Blk w9 px #[.int .i64 x.term, .int .i64 x.vote, .int .i64 x.base, .int .i64 x.bterm, .slice A1 m1 c1] 30) := Xw8.out.on by8 Xw8.out.lt
  have Ow9 : Hid (Owns w9 w5.heap.size 66 2 (.slice A1 m1 c1) (entR x.ents)) := Ow8.out.on by8
  clear s0 s1 s2 s3 s4 y0 y1 y2 y3 y4 by8 Bw8 Cw8 Kw8 Jw8 Xw8 Ow8 q8
  generalize w8.heap.size = py at *
  have Yw9 : Hid (Blk w9 py #[.int .i64 y.term, .int .i64 y.vote, .int .i64 y.base, .int .i64 y.bterm, .slice A2 m2 c2] 30) := ky
  have Pw9 : Hid (Owns w9 w7.heap.size 66 2 (.slice A2 m2 c2) (entR y.ents)) := oY
  clear ky oY
  refine (cG w9 (.agg #[.int .i64 x.term, .int .i64 x.vote, .int .i64 x.base, .int .i64 x.bterm, .slice A1 m1 c1]) (.agg #[.int .i64 y.term, .int .i64 y.vote, .int .i64 y.base, .int .i64 y.bterm, .slice A2 m2 c2]) ⟨_, rfl, Ow9.out.lies⟩ ⟨_, rfl, Pw9.out.lies⟩ (HT.out.on Bw9.out)).mono ?_
  rintro e wa ⟨l', ok', uI, hA2, rfl, hOI, hba⟩
  obtain ⟨e1, e2⟩ := HAra.out.one hA2
  subst e1
  subst e2
  have Bwa : Hid (Below w.heap.size w wa) := Bw9.out.trans (hba.mono Bw9.out.size)
  have Cwa : Hid (Below w5.heap.size w5 wa) := Cw9.out.trans (hba.mono Cw9.out.size)
  have Kwa : Hid (Blk wa w.heap.size #[.int .i64 x.term, .int .i64 x.vote, .int .i64 x.base, .int .i64 x.bterm, u] 24) := Kw9.out.on hba Kw9.out.lt
  have Jwa : Hid (Blk wa (w.heap.size + 1) #[.int .i64 y.term, .int .i64 y.vote, .int .i64 y.base, .int .i64 y.bterm, u1] 24) := Jw9.out.on hba Jw9.out.lt
  have Xwa : Hid (Blk wa px #[.int .i64 x.term, .int .i64 x.vote, .int .i64 x.base, .int .i64 x.bterm, .slice A1 m1 c1] 30) := Xw9.out.on hba Xw9.out.lt
  have Owa : Hid (Owns wa w5.heap.size 66 2 (.slice A1 m1 c1) (entR x.ents)) := Ow9.out.on hba
  have Ywa : Hid (Blk wa py #[.int .i64 y.term, .int .i64 y.vote, .int .i64 y.base, .int .i64 y.bterm, .slice A2 m2 c2] 30) := Yw9.out.on hba Yw9.out.lt
  have Pwa : Hid (Owns wa w7.heap.size 66 2 (.slice A2 m2 c2) (entR y.ents)) := Pw9.out.on hba
  have Iwa : Hid (Owns wa w9.heap.size 46 4 (uI) (stpR (planOf l))) := hOI
  have BX9 : Hid (∀ g, (Value.slice A1 m1 c1).ownBlock = some g → g < w9.heap.size) := fun g hg => (Ow9.out.lt g hg).2
  have BY9 : Hid (∀ g, (Value.slice A2 m2 c2).ownBlock = some g → g < w9.heap.size) := fun g hg => (Pw9.out.lt g hg).2
  have BC9 : Hid (w5.heap.size ≤ w9.heap.size) := Cw9.out.size
  have Zwa : Hid (w9.heap.size ≤ wa.heap.size) := hba.size
  have BC79 : Hid (w7.heap.size ≤ w9.heap.size) := C79.out
  clear hba hOI hA2
  clear Bw9 Cw9 Kw9 Jw9 Xw9 Ow9 Yw9 Pw9
  go_wp2_with fail
  refine (eqStepS (planOf l) uI uS wa wa.heap.size Iwa.out.lies ((TS.out.on Cwa.out).mono Cwa.out.size) (by have := LN.out; omega) (Nat.le_refl _)).mono ?_
  rintro e wb ⟨rfl, hbq⟩
  have Bwb : Hid (Below w.heap.size w wb) := Bwa.out.trans (hbq.mono Bwa.out.size)
  have Cwb : Hid (Below w5.heap.size w5 wb) := Cwa.out.trans (hbq.mono Cwa.out.size)
  have Kwb : Hid (Blk wb w.heap.size #[.int .i64 x.term, .int .i64 x.vote, .int .i64 x.base, .int .i64 x.bterm, u] 24) := Kwa.out.on hbq Kwa.out.lt
  have Jwb : Hid (Blk wb (w.heap.size + 1) #[.int .i64 y.term, .int .i64 y.vote, .int .i64 y.base, .int .i64 y.bterm, u1] 24) := Jwa.out.on hbq Jwa.out.lt
  have Xwb : Hid (Blk wb px #[.int .i64 x.term, .int .i64 x.vote, .int .i64 x.base, .int .i64 x.bterm, .slice A1 m1 c1] 30) := Xwa.out.on hbq Xwa.out.lt
  have Owb : Hid (Owns wb w5.heap.size 66 2 (.slice A1 m1 c1) (entR x.ents)) := Owa.out.on hbq
  have Ywb : Hid (Blk wb py #[.int .i64 y.term, .int .i64 y.vote, .int .i64 y.base, .int .i64 y.bterm, .slice A2 m2 c2] 30) := Ywa.out.on hbq Ywa.out.lt
  have Pwb : Hid (Owns wb w7.heap.size 66 2 (.slice A2 m2 c2) (entR y.ents)) := Pwa.out.on hbq
  have Iwb : Hid (Owns wb w9.heap.size 46 4 (uI) (stpR (planOf l))) := Iwa.out.on hbq
  have Zwb : Hid (w9.heap.size ≤ wb.heap.size) := Nat.le_trans Zwa.out hbq.size
  clear hbq
  clear Bwa Cwa Kwa Jwa Xwa Owa Ywa Pwa Iwa Zwa
  have S0 : Hid (wb.drew.cell? ⟨px, 0, none⟩ = some (.int .i64 x.term) ∧ wb.drew.cell? ⟨px, 1, none⟩ = some (.int .i64 x.vote) ∧ wb.drew.cell? ⟨px, 2, none⟩ = some (.int .i64 x.base) ∧ wb.drew.cell? ⟨px, 3, none⟩ = some (.int .i64 x.bterm) ∧ wb.drew.cell? ⟨px, 4, none⟩ = some (.slice A1 m1 c1) ∧ wb.drew.cell? ⟨w.heap.size, 0, none⟩ = some (.int .i64 x.term) ∧ wb.drew.cell? ⟨w.heap.size, 1, none⟩ = some (.int .i64 x.vote) ∧ wb.drew.cell? ⟨w.heap.size, 2, none⟩ = some (.int .i64 x.base) ∧ wb.drew.cell? ⟨w.heap.size, 3, none⟩ = some (.int .i64 x.bterm) ∧ wb.drew.cell? ⟨w.heap.size, 4, none⟩ = some (u)) := ⟨Xwb.out.cell 0 _ rfl, Xwb.out.cell 1 _ rfl, Xwb.out.cell 2 _ rfl, Xwb.out.cell 3 _ rfl, Xwb.out.cell 4 _ rfl, Kwb.out.cell 0 _ rfl, Kwb.out.cell 1 _ rfl, Kwb.out.cell 2 _ rfl, Kwb.out.cell 3 _ rfl, Kwb.out.cell 4 _ rfl⟩
  go_wp2_with fail
  refine wp_region_until (fun w' => w'.cell? ⟨px, 0, none⟩ = some (.int .i64 x.term) ∧ w'.cell? ⟨px, 1, none⟩ = some (.int .i64 x.vote) ∧ w'.cell? ⟨px, 2, none⟩ = some (.int .i64 x.base) ∧ w'.cell? ⟨px, 3, none⟩ = some (.int .i64 x.bterm) ∧ w'.cell? ⟨px, 4, none⟩ = some (.slice A1 m1 c1) ∧ w'.cell? ⟨w.heap.size, 0, none⟩ = some (.int .i64 x.term) ∧ w'.cell? ⟨w.heap.size, 1, none⟩ = some (.int .i64 x.vote) ∧ w'.cell? ⟨w.heap.size, 2, none⟩ = some (.int .i64 x.base) ∧ w'.cell? ⟨w.heap.size, 3, none⟩ = some (.int .i64 x.bterm) ∧ w'.cell? ⟨w.heap.size, 4, none⟩ = some (u)) (fun i => false) 5 (by rfl) (by kernel_rfl) ?_
  have BrbX : Hid (Below w.heap.size w wb.drew) := Bwb.out.drew
  have CrbX : Hid (Below w5.heap.size w5 wb.drew) := Cwb.out.drew
  have KrbX : Hid (Blk wb.drew w.heap.size #[.int .i64 x.term, .int .i64 x.vote, .int .i64 x.base, .int .i64 x.bterm, u] 24) := Kwb.out
  have JrbX : Hid (Blk wb.drew (w.heap.size + 1) #[.int .i64 y.term, .int .i64 y.vote, .int .i64 y.base, .int .i64 y.bterm, u1] 24) := Jwb.out
  have XrbX : Hid (Blk wb.drew px #[.int .i64 x.term, .int .i64 x.vote, .int .i64 x.base, .int .i64 x.bterm, .slice A1 m1 c1] 30) := Xwb.out
  have OrbX : Hid (Owns wb.drew w5.heap.size 66 2 (.slice A1 m1 c1) (entR x.ents)) := Owb.out
  have YrbX : Hid (Blk wb.drew py #[.int .i64 y.term, .int .i64 y.vote, .int .i64 y.base, .int .i64 y.bterm, .slice A2 m2 c2] 30) := Ywb.out
  have PrbX : Hid (Owns wb.drew w7.heap.size 66 2 (.slice A2 m2 c2) (entR y.ents)) := Pwb.out
  have IrbX : Hid (Owns wb.drew w9.heap.size 46 4 (uI) (stpR (planOf l))) := Iwb.out
  have ZrbX : Hid (w9.heap.size ≤ wb.drew.heap.size) := Zwb.out
  clear Bwb Cwb Kwb Jwb Xwb Owb Ywb Pwb Iwb Zwb
  generalize wb.drew = rbX at *
  refine until_take 0 (v := ?_) (by rfl) (by kernel_rfl) (by exact fun _ _ _ h => h) (by rfl) ?_ S0.out ?_
  rotate_left
  · intro w hSw
    try dsimp only at hSw
    go_simp
    try with_reducible rfl
  try simp only [Act.put, List.setIfInBounds_toArray, List.set_cons_zero, List.set_cons_succ]
  refine until_take 1 (v := ?_) (by rfl) (by kernel_rfl) (by exact fun _ _ _ h => h) (by rfl) ?_ S0.out ?_
  rotate_left
  · intro w hSw
    try dsimp only at hSw
    go_simp
    try with_reducible rfl
  try simp only [Act.put, List.setIfInBounds_toArray, List.set_cons_zero, List.set_cons_succ]
  refine until_one 2 (by rfl) (by kernel_rfl) (fun K hK => ?_)
  go_simp
  refine (cT rbX (HV.out.on BrbX.out) BrbX.out.size).mono ?_
  rintro e rb1 ⟨yrb, rfl, hO7, hb7⟩
  have Brb1 : Hid (Below w.heap.size w rb1) := BrbX.out.trans (hb7.mono BrbX.out.size)
  have Crb1 : Hid (Below w5.heap.size w5 rb1) := CrbX.out.trans (hb7.mono CrbX.out.size)
  have Krb1 : Hid (Blk rb1 w.heap.size #[.int .i64 x.term, .int .i64 x.vote, .int .i64 x.base, .int .i64 x.bterm, u] 24) := KrbX.out.on hb7 KrbX.out.lt
  have Jrb1 : Hid (Blk rb1 (w.heap.size + 1) #[.int .i64 y.term, .int .i64 y.vote, .int .i64 y.base, .int .i64 y.bterm, u1] 24) := JrbX.out.on hb7 JrbX.out.lt
  have Xrb1 : Hid (Blk rb1 px #[.int .i64 x.term, .int .i64 x.vote, .int .i64 x.base, .int .i64 x.bterm, .slice A1 m1 c1] 30) := XrbX.out.on hb7 XrbX.out.lt
  have Orb1 : Hid (Owns rb1 w5.heap.size 66 2 (.slice A1 m1 c1) (entR x.ents)) := OrbX.out.on hb7
  have Yrb1 : Hid (Blk rb1 py #[.int .i64 y.term, .int .i64 y.vote, .int .i64 y.base, .int .i64 y.bterm, .slice A2 m2 c2] 30) := YrbX.out.on hb7 YrbX.out.lt
  have Prb1 : Hid (Owns rb1 w7.heap.size 66 2 (.slice A2 m2 c2) (entR y.ents)) := PrbX.out.on hb7
  have Irb1 : Hid (Owns rb1 w9.heap.size 46 4 (uI) (stpR (planOf l))) := IrbX.out.on hb7
  have Zrb1 : Hid (w9.heap.size ≤ rb1.heap.size) := Nat.le_trans ZrbX.out hb7.size
  have cE := eqWal x (.agg #[.int .i64 x.term, .int .i64 x.vote, .int .i64 x.base, .int .i64 x.bterm, .slice A1 m1 c1]) yrb rb1 rb1.heap.size ⟨_, rfl, Orb1.out.lies⟩ hO7.lies (by have := HW.out; unfold wtW at this; omega) (Nat.le_refl _)
  clear hb7 hO7
  clear BrbX CrbX KrbX JrbX XrbX OrbX YrbX PrbX IrbX ZrbX
  go_wp2_with fail
  refine hK.out _ _ (fun _ _ => ⟨Xrb1.out.cell 0 _ rfl, Xrb1.out.cell 1 _ rfl, Xrb1.out.cell 2 _ rfl, Xrb1.out.cell 3 _ rfl, Xrb1.out.cell 4 _ rfl, Krb1.out.cell 0 _ rfl, Krb1.out.cell 1 _ rfl, Krb1.out.cell 2 _ rfl, Krb1.out.cell 3 _ rfl, Krb1.out.cell 4 _ rfl⟩) ?_
  clear hK K
  try simp only [Act.put, List.setIfInBounds_toArray, List.set_cons_zero, List.set_cons_succ]
  refine until_one 3 (by rfl) (by kernel_rfl) (fun K hK => ?_)
  go_simp
  refine cE.mono ?_
  rintro e wc ⟨rfl, hb8⟩
  have Bwc : Hid (Below w.heap.size w wc) := Brb1.out.trans (hb8.mono Brb1.out.size)
  have Cwc : Hid (Below w5.heap.size w5 wc) := Crb1.out.trans (hb8.mono Crb1.out.size)
  have Kwc : Hid (Blk wc w.heap.size #[.int .i64 x.term, .int .i64 x.vote, .int .i64 x.base, .int .i64 x.bterm, u] 24) := Krb1.out.on hb8 Krb1.out.lt
  have Jwc : Hid (Blk wc (w.heap.size + 1) #[.int .i64 y.term, .int .i64 y.vote, .int .i64 y.base, .int .i64 y.bterm, u1] 24) := Jrb1.out.on hb8 Jrb1.out.lt
  have Xwc : Hid (Blk wc px #[.int .i64 x.term, .int .i64 x.vote, .int .i64 x.base, .int .i64 x.bterm, .slice A1 m1 c1] 30) := Xrb1.out.on hb8 Xrb1.out.lt
  have Owc : Hid (Owns wc w5.heap.size 66 2 (.slice A1 m1 c1) (entR x.ents)) := Orb1.out.on hb8
  have Ywc : Hid (Blk wc py #[.int .i64 y.term, .int .i64 y.vote, .int .i64 y.base, .int .i64 y.bterm, .slice A2 m2 c2] 30) := Yrb1.out.on hb8 Yrb1.out.lt
  have Pwc : Hid (Owns wc w7.heap.size 66 2 (.slice A2 m2 c2) (entR y.ents)) := Prb1.out.on hb8
  have Iwc : Hid (Owns wc w9.heap.size 46 4 (uI) (stpR (planOf l))) := Irb1.out.on hb8
  have Zwc : Hid (w9.heap.size ≤ wc.heap.size) := Nat.le_trans Zrb1.out hb8.size
  clear hb8 cE
  clear Brb1 Crb1 Krb1 Jrb1 Xrb1 Orb1 Yrb1 Prb1 Irb1 Zrb1
  go_wp2_with fail
  refine hK.out _ _ (fun _ _ => ⟨Xwc.out.cell 0 _ rfl, Xwc.out.cell 1 _ rfl, Xwc.out.cell 2 _ rfl, Xwc.out.cell 3 _ rfl, Xwc.out.cell 4 _ rfl, Kwc.out.cell 0 _ rfl, Kwc.out.cell 1 _ rfl, Kwc.out.cell 2 _ rfl, Kwc.out.cell 3 _ rfl, Kwc.out.cell 4 _ rfl⟩) ?_
  clear hK K
  try simp only [Act.put, List.setIfInBounds_toArray, List.set_cons_zero, List.set_cons_succ]
  refine until_pure 4 (v := ?_) (by rfl) (by kernel_rfl) (by exact fun _ _ _ h => h) (by rfl) ?_ ?_
  rotate_left
  · intro w
    go_simp
    try with_reducible rfl
  try simp only [Act.put, List.setIfInBounds_toArray, List.set_cons_zero, List.set_cons_succ]
  clear S0
  refine until_done (by kernel_rfl) ?_ _
  have S0 : Hid (wc.drew.cell? ⟨py, 0, none⟩ = some (.int .i64 y.term) ∧ wc.drew.cell? ⟨py, 1, none⟩ = some (.int .i64 y.vote) ∧ wc.drew.cell? ⟨py, 2, none⟩ = some (.int .i64 y.base) ∧ wc.drew.cell? ⟨py, 3, none⟩ = some (.int .i64 y.bterm) ∧ wc.drew.cell? ⟨py, 4, none⟩ = some (.slice A2 m2 c2) ∧ wc.drew.cell? ⟨w.heap.size + 1, 0, none⟩ = some (.int .i64 y.term) ∧ wc.drew.cell? ⟨w.heap.size + 1, 1, none⟩ = some (.int .i64 y.vote) ∧ wc.drew.cell? ⟨w.heap.size + 1, 2, none⟩ = some (.int .i64 y.base) ∧ wc.drew.cell? ⟨w.heap.size + 1, 3, none⟩ = some (.int .i64 y.bterm) ∧ wc.drew.cell? ⟨w.heap.size + 1, 4, none⟩ = some (u1)) := ⟨Ywc.out.cell 0 _ rfl, Ywc.out.cell 1 _ rfl, Ywc.out.cell 2 _ rfl, Ywc.out.cell 3 _ rfl, Ywc.out.cell 4 _ rfl, Jwc.out.cell 0 _ rfl, Jwc.out.cell 1 _ rfl, Jwc.out.cell 2 _ rfl, Jwc.out.cell 3 _ rfl, Jwc.out.cell 4 _ rfl⟩
  go_wp2_with fail
  refine wp_region_until (fun w' => w'.cell? ⟨py, 0, none⟩ = some (.int .i64 y.term) ∧ w'.cell? ⟨py, 1, none⟩ = some (.int .i64 y.vote) ∧ w'.cell? ⟨py, 2, none⟩ = some (.int .i64 y.base) ∧ w'.cell? ⟨py, 3, none⟩ = some (.int .i64 y.bterm) ∧ w'.cell? ⟨py, 4, none⟩ = some (.slice A2 m2 c2) ∧ w'.cell? ⟨w.heap.size + 1, 0, none⟩ = some (.int .i64 y.term) ∧ w'.cell? ⟨w.heap.size + 1, 1, none⟩ = some (.int .i64 y.vote) ∧ w'.cell? ⟨w.heap.size + 1, 2, none⟩ = some (.int .i64 y.base) ∧ w'.cell? ⟨w.heap.size + 1, 3, none⟩ = some (.int .i64 y.bterm) ∧ w'.cell? ⟨w.heap.size + 1, 4, none⟩ = some (u1)) (fun i => false) 5 (by rfl) (by kernel_rfl) ?_
  have BrcX : Hid (Below w.heap.size w wc.drew) := Bwc.out.drew
  have CrcX : Hid (Below w5.heap.size w5 wc.drew) := Cwc.out.drew
  have KrcX : Hid (Blk wc.drew w.heap.size #[.int .i64 x.term, .int .i64 x.vote, .int .i64 x.base, .int .i64 x.bterm, u] 24) := Kwc.out
  have JrcX : Hid (Blk wc.drew (w.heap.size + 1) #[.int .i64 y.term, .int .i64 y.vote, .int .i64 y.base, .int .i64 y.bterm, u1] 24) := Jwc.out
  have XrcX : Hid (Blk wc.drew px #[.int .i64 x.term, .int .i64 x.vote, .int .i64 x.base, .int .i64 x.bterm, .slice A1 m1 c1] 30) := Xwc.out
  have OrcX : Hid (Owns wc.drew w5.heap.size 66 2 (.slice A1 m1 c1) (entR x.ents)) := Owc.out
  have YrcX : Hid (Blk wc.drew py #[.int .i64 y.term, .int .i64 y.vote, .int .i64 y.base, .int .i64 y.bterm, .slice A2 m2 c2] 30) := Ywc.out
  have PrcX : Hid (Owns wc.drew w7.heap.size 66 2 (.slice A2 m2 c2) (entR y.ents)) := Pwc.out
  have IrcX : Hid (Owns wc.drew w9.heap.size 46 4 (uI) (stpR (planOf l))) := Iwc.out
  have ZrcX : Hid (w9.heap.size ≤ wc.drew.heap.size) := Zwc.out
  clear Bwc Cwc Kwc Jwc Xwc Owc Ywc Pwc Iwc Zwc
  generalize wc.drew = rcX at *
  refine until_take 0 (v := ?_) (by rfl) (by kernel_rfl) (by exact fun _ _ _ h => h) (by rfl) ?_ S0.out ?_
  rotate_left
  · intro w hSw
    try dsimp only at hSw
    go_simp
    try with_reducible rfl
  try simp only [Act.put, List.setIfInBounds_toArray, List.set_cons_zero, List.set_cons_succ]
  refine until_take 1 (v := ?_) (by rfl) (by kernel_rfl) (by exact fun _ _ _ h => h) (by rfl) ?_ S0.out ?_
  rotate_left
  · intro w hSw
    try dsimp only at hSw
    go_simp
    try with_reducible rfl
  try simp only [Act.put, List.setIfInBounds_toArray, List.set_cons_zero, List.set_cons_succ]
  refine until_one 2 (by rfl) (by kernel_rfl) (fun K hK => ?_)
  go_simp
  refine (cT1 rcX (HV1.out.on BrcX.out) BrcX.out.size).mono ?_
  rintro e rc1 ⟨yrc, rfl, hO7, hb7⟩
  have Brc1 : Hid (Below w.heap.size w rc1) := BrcX.out.trans (hb7.mono BrcX.out.size)
  have Crc1 : Hid (Below w5.heap.size w5 rc1) := CrcX.out.trans (hb7.mono CrcX.out.size)
  have Krc1 : Hid (Blk rc1 w.heap.size #[.int .i64 x.term, .int .i64 x.vote, .int .i64 x.base, .int .i64 x.bterm, u] 24) := KrcX.out.on hb7 KrcX.out.lt
  have Jrc1 : Hid (Blk rc1 (w.heap.size + 1) #[.int .i64 y.term, .int .i64 y.vote, .int .i64 y.base, .int .i64 y.bterm, u1] 24) := JrcX.out.on hb7 JrcX.out.lt
  have Xrc1 : Hid (Blk rc1 px #[.int .i64 x.term, .int .i64 x.vote, .int .i64 x.base, .int .i64 x.bterm, .slice A1 m1 c1] 30) := XrcX.out.on hb7 XrcX.out.lt
  have Orc1 : Hid (Owns rc1 w5.heap.size 66 2 (.slice A1 m1 c1) (entR x.ents)) := OrcX.out.on hb7
  have Yrc1 : Hid (Blk rc1 py #[.int .i64 y.term, .int .i64 y.vote, .int .i64 y.base, .int .i64 y.bterm, .slice A2 m2 c2] 30) := YrcX.out.on hb7 YrcX.out.lt
  have Prc1 : Hid (Owns rc1 w7.heap.size 66 2 (.slice A2 m2 c2) (entR y.ents)) := PrcX.out.on hb7
  have Irc1 : Hid (Owns rc1 w9.heap.size 46 4 (uI) (stpR (planOf l))) := IrcX.out.on hb7
  have Zrc1 : Hid (w9.heap.size ≤ rc1.heap.size) := Nat.le_trans ZrcX.out hb7.size
  have cE := eqWal y (.agg #[.int .i64 y.term, .int .i64 y.vote, .int .i64 y.base, .int .i64 y.bterm, .slice A2 m2 c2]) yrc rc1 rc1.heap.size ⟨_, rfl, Prc1.out.lies⟩ hO7.lies (by have := HW1.out; unfold wtW at this; omega) (Nat.le_refl _)
  clear hb7 hO7
  clear BrcX CrcX KrcX JrcX XrcX OrcX YrcX PrcX IrcX ZrcX
  go_wp2_with fail
  refine hK.out _ _ (fun _ _ => ⟨Yrc1.out.cell 0 _ rfl, Yrc1.out.cell 1 _ rfl, Yrc1.out.cell 2 _ rfl, Yrc1.out.cell 3 _ rfl, Yrc1.out.cell 4 _ rfl, Jrc1.out.cell 0 _ rfl, Jrc1.out.cell 1 _ rfl, Jrc1.out.cell 2 _ rfl, Jrc1.out.cell 3 _ rfl, Jrc1.out.cell 4 _ rfl⟩) ?_
  clear hK K
  try simp only [Act.put, List.setIfInBounds_toArray, List.set_cons_zero, List.set_cons_succ]
  refine until_one 3 (by rfl) (by kernel_rfl) (fun K hK => ?_)
  go_simp
  refine cE.mono ?_
  rintro e wd ⟨rfl, hb8⟩
  have Bwd : Hid (Below w.heap.size w wd) := Brc1.out.trans (hb8.mono Brc1.out.size)
  have Cwd : Hid (Below w5.heap.size w5 wd) := Crc1.out.trans (hb8.mono Crc1.out.size)
  have Kwd : Hid (Blk wd w.heap.size #[.int .i64 x.term, .int .i64 x.vote, .int .i64 x.base, .int .i64 x.bterm, u] 24) := Krc1.out.on hb8 Krc1.out.lt
  have Jwd : Hid (Blk wd (w.heap.size + 1) #[.int .i64 y.term, .int .i64 y.vote, .int .i64 y.base, .int .i64 y.bterm, u1] 24) := Jrc1.out.on hb8 Jrc1.out.lt
  have Xwd : Hid (Blk wd px #[.int .i64 x.term, .int .i64 x.vote, .int .i64 x.base, .int .i64 x.bterm, .slice A1 m1 c1] 30) := Xrc1.out.on hb8 Xrc1.out.lt
  have Owd : Hid (Owns wd w5.heap.size 66 2 (.slice A1 m1 c1) (entR x.ents)) := Orc1.out.on hb8
  have Ywd : Hid (Blk wd py #[.int .i64 y.term, .int .i64 y.vote, .int .i64 y.base, .int .i64 y.bterm, .slice A2 m2 c2] 30) := Yrc1.out.on hb8 Yrc1.out.lt
  have Pwd : Hid (Owns wd w7.heap.size 66 2 (.slice A2 m2 c2) (entR y.ents)) := Prc1.out.on hb8
  have Iwd : Hid (Owns wd w9.heap.size 46 4 (uI) (stpR (planOf l))) := Irc1.out.on hb8
  have Zwd : Hid (w9.heap.size ≤ wd.heap.size) := Nat.le_trans Zrc1.out hb8.size
  clear hb8 cE
  clear Brc1 Crc1 Krc1 Jrc1 Xrc1 Orc1 Yrc1 Prc1 Irc1 Zrc1
  go_wp2_with fail
  refine hK.out _ _ (fun _ _ => ⟨Ywd.out.cell 0 _ rfl, Ywd.out.cell 1 _ rfl, Ywd.out.cell 2 _ rfl, Ywd.out.cell 3 _ rfl, Ywd.out.cell 4 _ rfl, Jwd.out.cell 0 _ rfl, Jwd.out.cell 1 _ rfl, Jwd.out.cell 2 _ rfl, Jwd.out.cell 3 _ rfl, Jwd.out.cell 4 _ rfl⟩) ?_
  clear hK K
  try simp only [Act.put, List.setIfInBounds_toArray, List.set_cons_zero, List.set_cons_succ]
  refine until_pure 4 (v := ?_) (by rfl) (by kernel_rfl) (by exact fun _ _ _ h => h) (by rfl) ?_ ?_
  rotate_left
  · intro w
    go_simp
    try with_reducible rfl
  try simp only [Act.put, List.setIfInBounds_toArray, List.set_cons_zero, List.set_cons_succ]
  clear S0
  refine until_done (by kernel_rfl) ?_ _
  have WX : Hid ((entR x.ents).length ≤ 1048576) := by unfold Hid; rw [entR_length]; have := HW.out; unfold wtW at this; omega
  have WY : Hid ((entR y.ents).length ≤ 1048576) := by unfold Hid; rw [entR_length]; have := HW1.out; unfold wtW at this; omega
  have cM := markWal 1 w5.heap.size x.term x.vote x.base x.bterm (.slice A1 m1 c1) (entR x.ents) wd Owd.out WX.out (Nat.le_refl _) (by omega) Cwd.out.size
  have cM1 := fun wx h hb => markWal (1 + 2 * (entR x.ents).length) w7.heap.size y.term y.vote y.base y.bterm (.slice A2 m2 c2) (entR y.ents) wx h WY.out (by omega) (by have := WX.out; omega) hb
  generalize hKK : (1 + 2 * (entR x.ents).length : Nat) = KK at *
  have qK0 : decide (((KK + 2 * (entR y.ents).length : Nat) : Int) < 0) = false := decide_eq_false (by omega)
  clear hKK
  have y0 := Xwd.out.cell 0 (.int .i64 x.term) rfl
  have y1 := Xwd.out.cell 1 (.int .i64 x.vote) rfl
  have y2 := Xwd.out.cell 2 (.int .i64 x.base) rfl
  have y3 := Xwd.out.cell 3 (.int .i64 x.bterm) rfl
  have y4 := Xwd.out.cell 4 (.slice A1 m1 c1) rfl
  go_wp2_with fail
  refine cM.mono ?_
  rintro e we ⟨rfl, _, hbe, hke⟩
  have Bwe : Hid (Below w.heap.size w we) := Bwd.out.trans (hbe.mono (Nat.le_of_lt LK.out))
  have Cwe : Hid (Below w5.heap.size w5 we) := Cwd.out.trans hbe
  have Kwe : Hid (Blk we w.heap.size #[.int .i64 x.term, .int .i64 x.vote, .int .i64 x.base, .int .i64 x.bterm, u] 24) := Kwd.out.on hbe LK.out
  have Jwe : Hid (Blk we (w.heap.size + 1) #[.int .i64 y.term, .int .i64 y.vote, .int .i64 y.base, .int .i64 y.bterm, u1] 24) := Jwd.out.on hbe LJ.out
  have Ywe : Hid (Blk we py #[.int .i64 y.term, .int .i64 y.vote, .int .i64 y.base, .int .i64 y.bterm, .slice A2 m2 c2] 30) := Ywd.out.spare hke (Owd.out.notBlk Ywd.out (by decide))
  have Pwe : Hid (Owns we w7.heap.size 66 2 (.slice A2 m2 c2) (entR y.ents)) := Pwd.out.spare hke BO.out
  have Iwe : Hid (Owns we w9.heap.size 46 4 (uI) (stpR (planOf l))) := Iwd.out.spare hke BX9.out
  have Zwe : Hid (w9.heap.size ≤ we.heap.size) := Nat.le_trans Zwd.out hbe.size
  have LPd : Hid (w7.heap.size ≤ we.heap.size) := Nat.le_trans BC79.out Zwe.out
  clear hbe hke cM y0 y1 y2 y3 y4
  clear Bwd Cwd Kwd Jwd Xwd Owd Ywd Pwd Iwd Zwd
  have y0 := Ywe.out.cell 0 (.int .i64 y.term) rfl
  have y1 := Ywe.out.cell 1 (.int .i64 y.vote) rfl
  have y2 := Ywe.out.cell 2 (.int .i64 y.base) rfl
  have y3 := Ywe.out.cell 3 (.int .i64 y.bterm) rfl
  have y4 := Ywe.out.cell 4 (.slice A2 m2 c2) rfl
  go_wp2_with fail
  refine (cM1 we Pwe.out LPd.out).mono ?_
  rintro e wf ⟨rfl, _, hbf, hkf⟩
  have hbf' : Below w5.heap.size we wf := hbf.mono BC7.out
  have Bwf : Hid (Below w.heap.size w wf) := Bwe.out.trans (hbf'.mono (Nat.le_of_lt LK.out))
  have Cwf : Hid (Below w5.heap.size w5 wf) := Cwe.out.trans hbf'
  have Kwf : Hid (Blk wf w.heap.size #[.int .i64 x.term, .int .i64 x.vote, .int .i64 x.base, .int .i64 x.bterm, u] 24) := Kwe.out.on hbf' LK.out
  have Jwf : Hid (Blk wf (w.heap.size + 1) #[.int .i64 y.term, .int .i64 y.vote, .int .i64 y.base, .int .i64 y.bterm, u1] 24) := Jwe.out.on hbf' LJ.out
  have Iwf : Hid (Owns wf w9.heap.size 46 4 (uI) (stpR (planOf l))) := Iwe.out.spare hkf BY9.out
  have Zwf : Hid (w9.heap.size ≤ wf.heap.size) := Nat.le_trans Zwe.out hbf.size
  clear hbf hbf' hkf cM1 y0 y1 y2 y3 y4
  clear Bwe Cwe Kwe Jwe Ywe Pwe Iwe Zwe
  generalize ((KK + 2 * (entR y.ents).length : Nat) : Int) = MM at *
  go_wp2_with fail
  refine (eqStepS (planOf l) uI uS wf wf.heap.size Iwf.out.lies ((TS.out.on Cwf.out).mono Cwf.out.size) (by have := LN.out; omega) (Nat.le_refl _)).mono ?_
  rintro e wg ⟨rfl, hbq⟩
  have Bwg : Hid (Below w.heap.size w wg) := Bwf.out.trans (hbq.mono Bwf.out.size)
  have Cwg : Hid (Below w5.heap.size w5 wg) := Cwf.out.trans (hbq.mono Cwf.out.size)
  have Kwg : Hid (Blk wg w.heap.size #[.int .i64 x.term, .int .i64 x.vote, .int .i64 x.base, .int .i64 x.bterm, u] 24) := Kwf.out.on hbq Kwf.out.lt
  have Jwg : Hid (Blk wg (w.heap.size + 1) #[.int .i64 y.term, .int .i64 y.vote, .int .i64 y.base, .int .i64 y.bterm, u1] 24) := Jwf.out.on hbq Jwf.out.lt
  have Iwg : Hid (Owns wg w9.heap.size 46 4 (uI) (stpR (planOf l))) := Iwf.out.on hbq
  have Zwg : Hid (w9.heap.size ≤ wg.heap.size) := Nat.le_trans Zwf.out hbq.size
  clear hbq
  clear Bwf Cwf Kwf Jwf Iwf Zwf
  have RL : Hid ((stpR (planOf l)).length ≤ 2) := by unfold Hid; rw [stpR_length]; exact LN.out
  have cMR := markStepS 1 w9.heap.size uI (stpR (planOf l)) wg Iwg.out (by have := RL.out; omega) (Nat.le_refl _) (by omega) Zwg.out
  have cHd := fun wx h => heldStepS 1 (stpR (planOf l)).length uI wx wx.heap.size h (by have := RL.out; omega) (Nat.le_refl _) (by omega) (Nat.le_refl _)
  generalize hNN : (1 + 4 * (stpR (planOf l)).length : Nat) = NN at *
  have qN0 : decide ((NN : Int) < 0) = false := decide_eq_false (by omega)
  have nN : ((NN : Int) != (NN : Int)) = false := by simp
  clear hNN
  go_wp2_with fail
  refine cMR.mono ?_
  rintro e wh ⟨rfl, hN, hbh, _⟩
  have hbh' : Below w5.heap.size wg wh := hbh.mono BC9.out
  have Bwh : Hid (Below w.heap.size w wh) := Bwg.out.trans (hbh'.mono (Nat.le_of_lt LK.out))
  have Cwh : Hid (Below w5.heap.size w5 wh) := Cwg.out.trans hbh'
  have Kwh : Hid (Blk wh w.heap.size #[.int .i64 x.term, .int .i64 x.vote, .int .i64 x.base, .int .i64 x.bterm, u] 24) := Kwg.out.on hbh' LK.out
  have Jwh : Hid (Blk wh (w.heap.size + 1) #[.int .i64 y.term, .int .i64 y.vote, .int .i64 y.base, .int .i64 y.bterm, u1] 24) := Jwg.out.on hbh' LJ.out
  have Nwh : Hid (Owns wh w9.heap.size 46 4 (uI) (newR (mkStp 1) (stpR (planOf l)).length)) := hN
  clear hN hbh hbh' cMR
  clear Bwg Cwg Kwg Jwg Iwg Zwg
  go_wp2_with fail
  refine (cHd wh Nwh.out.lies).mono ?_
  rintro e wi ⟨rfl, hbi⟩
  have Bwi : Hid (Below w.heap.size w wi) := Bwh.out.trans (hbi.mono Bwh.out.size)
  have Cwi : Hid (Below w5.heap.size w5 wi) := Cwh.out.trans (hbi.mono Cwh.out.size)
  have Kwi : Hid (Blk wi w.heap.size #[.int .i64 x.term, .int .i64 x.vote, .int .i64 x.base, .int .i64 x.bterm, u] 24) := Kwh.out.on hbi Kwh.out.lt
  have Jwi : Hid (Blk wi (w.heap.size + 1) #[.int .i64 y.term, .int .i64 y.vote, .int .i64 y.base, .int .i64 y.bterm, u1] 24) := Jwh.out.on hbi Jwh.out.lt
  have Nwi : Hid (Owns wi w9.heap.size 46 4 (uI) (newR (mkStp 1) (stpR (planOf l)).length)) := Nwh.out.on hbi
  clear hbi
  clear Bwh Cwh Kwh Jwh Nwh
  have S0 : Hid (wi.drew.cell? ⟨w.heap.size, 0, none⟩ = some (.int .i64 x.term) ∧ wi.drew.cell? ⟨w.heap.size, 1, none⟩ = some (.int .i64 x.vote) ∧ wi.drew.cell? ⟨w.heap.size, 2, none⟩ = some (.int .i64 x.base) ∧ wi.drew.cell? ⟨w.heap.size, 3, none⟩ = some (.int .i64 x.bterm) ∧ wi.drew.cell? ⟨w.heap.size, 4, none⟩ = some (u) ∧ wi.drew.cell? ⟨w.heap.size + 1, 0, none⟩ = some (.int .i64 y.term) ∧ wi.drew.cell? ⟨w.heap.size + 1, 1, none⟩ = some (.int .i64 y.vote) ∧ wi.drew.cell? ⟨w.heap.size + 1, 2, none⟩ = some (.int .i64 y.base) ∧ wi.drew.cell? ⟨w.heap.size + 1, 3, none⟩ = some (.int .i64 y.bterm) ∧ wi.drew.cell? ⟨w.heap.size + 1, 4, none⟩ = some (u1)) := ⟨Kwi.out.cell 0 _ rfl, Kwi.out.cell 1 _ rfl, Kwi.out.cell 2 _ rfl, Kwi.out.cell 3 _ rfl, Kwi.out.cell 4 _ rfl, Jwi.out.cell 0 _ rfl, Jwi.out.cell 1 _ rfl, Jwi.out.cell 2 _ rfl, Jwi.out.cell 3 _ rfl, Jwi.out.cell 4 _ rfl⟩
  go_wp2_with fail
  refine wp_region_until (fun w' => w'.cell? ⟨w.heap.size, 0, none⟩ = some (.int .i64 x.term) ∧ w'.cell? ⟨w.heap.size, 1, none⟩ = some (.int .i64 x.vote) ∧ w'.cell? ⟨w.heap.size, 2, none⟩ = some (.int .i64 x.base) ∧ w'.cell? ⟨w.heap.size, 3, none⟩ = some (.int .i64 x.bterm) ∧ w'.cell? ⟨w.heap.size, 4, none⟩ = some (u) ∧ w'.cell? ⟨w.heap.size + 1, 0, none⟩ = some (.int .i64 y.term) ∧ w'.cell? ⟨w.heap.size + 1, 1, none⟩ = some (.int .i64 y.vote) ∧ w'.cell? ⟨w.heap.size + 1, 2, none⟩ = some (.int .i64 y.base) ∧ w'.cell? ⟨w.heap.size + 1, 3, none⟩ = some (.int .i64 y.bterm) ∧ w'.cell? ⟨w.heap.size + 1, 4, none⟩ = some (u1)) (fun i => false) 6 (by rfl) (by kernel_rfl) ?_
  have BrdX : Hid (Below w.heap.size w wi.drew) := Bwi.out.drew
  have CrdX : Hid (Below w5.heap.size w5 wi.drew) := Cwi.out.drew
  have KrdX : Hid (Blk wi.drew w.heap.size #[.int .i64 x.term, .int .i64 x.vote, .int .i64 x.base, .int .i64 x.bterm, u] 24) := Kwi.out
  have JrdX : Hid (Blk wi.drew (w.heap.size + 1) #[.int .i64 y.term, .int .i64 y.vote, .int .i64 y.base, .int .i64 y.bterm, u1] 24) := Jwi.out
  have NrdX : Hid (Owns wi.drew w9.heap.size 46 4 (uI) (newR (mkStp 1) (stpR (planOf l)).length)) := Nwi.out
  clear Bwi Cwi Kwi Jwi Nwi
  generalize wi.drew = rdX at *
  refine until_take 0 (v := ?_) (by rfl) (by kernel_rfl) (by exact fun _ _ _ h => h) (by rfl) ?_ S0.out ?_
  rotate_left
  · intro w hSw
    try dsimp only at hSw
    go_simp
    try with_reducible rfl
  try simp only [Act.put, List.setIfInBounds_toArray, List.set_cons_zero, List.set_cons_succ]
  refine until_take 2 (v := ?_) (by rfl) (by kernel_rfl) (by exact fun _ _ _ h => h) (by rfl) ?_ S0.out ?_
  rotate_left
  · intro w hSw
    try dsimp only at hSw
    go_simp
    try with_reducible rfl
  try simp only [Act.put, List.setIfInBounds_toArray, List.set_cons_zero, List.set_cons_succ]
  refine until_one 1 (by rfl) (by kernel_rfl) (fun K hK => ?_)
  go_simp
  refine (cT rdX (HV.out.on BrdX.out) BrdX.out.size).mono ?_
  rintro e rd1 ⟨uard, rfl, hOa, hba⟩
  have Brd1 : Hid (Below w.heap.size w rd1) := BrdX.out.trans (hba.mono BrdX.out.size)
  have Crd1 : Hid (Below w5.heap.size w5 rd1) := CrdX.out.trans (hba.mono CrdX.out.size)
  have Krd1 : Hid (Blk rd1 w.heap.size #[.int .i64 x.term, .int .i64 x.vote, .int .i64 x.base, .int .i64 x.bterm, u] 24) := KrdX.out.on hba KrdX.out.lt
  have Jrd1 : Hid (Blk rd1 (w.heap.size + 1) #[.int .i64 y.term, .int .i64 y.vote, .int .i64 y.base, .int .i64 y.bterm, u1] 24) := JrdX.out.on hba JrdX.out.lt
  have Nrd1 : Hid (Owns rd1 w9.heap.size 46 4 (uI) (newR (mkStp 1) (stpR (planOf l)).length)) := NrdX.out.on hba
  have UArd1 : Hid (WalO rd1 rdX.heap.size uard x) := hOa
  clear hba hOa
  clear BrdX CrdX KrdX JrdX NrdX
  go_wp2_with fail
  refine hK.out _ _ (fun _ _ => ⟨Krd1.out.cell 0 _ rfl, Krd1.out.cell 1 _ rfl, Krd1.out.cell 2 _ rfl, Krd1.out.cell 3 _ rfl, Krd1.out.cell 4 _ rfl, Jrd1.out.cell 0 _ rfl, Jrd1.out.cell 1 _ rfl, Jrd1.out.cell 2 _ rfl, Jrd1.out.cell 3 _ rfl, Jrd1.out.cell 4 _ rfl⟩) ?_
  clear hK K
  try simp only [Act.put, List.setIfInBounds_toArray, List.set_cons_zero, List.set_cons_succ]
  refine until_one 3 (by rfl) (by kernel_rfl) (fun K hK => ?_)
  go_simp
  refine (cT1 rd1 (HV1.out.on Brd1.out) Brd1.out.size).mono ?_
  rintro e rd2 ⟨ubrd, rfl, hOa, hba⟩
  have Brd2 : Hid (Below w.heap.size w rd2) := Brd1.out.trans (hba.mono Brd1.out.size)
  have Crd2 : Hid (Below w5.heap.size w5 rd2) := Crd1.out.trans (hba.mono Crd1.out.size)
  have Krd2 : Hid (Blk rd2 w.heap.size #[.int .i64 x.term, .int .i64 x.vote, .int .i64 x.base, .int .i64 x.bterm, u] 24) := Krd1.out.on hba Krd1.out.lt
  have Jrd2 : Hid (Blk rd2 (w.heap.size + 1) #[.int .i64 y.term, .int .i64 y.vote, .int .i64 y.base, .int .i64 y.bterm, u1] 24) := Jrd1.out.on hba Jrd1.out.lt
  have Nrd2 : Hid (Owns rd2 w9.heap.size 46 4 (uI) (newR (mkStp 1) (stpR (planOf l)).length)) := Nrd1.out.on hba
  have UArd2 : Hid (WalO rd2 rdX.heap.size uard x) := UArd1.out.on hba
  have UBrd2 : Hid (WalO rd2 rd1.heap.size ubrd y) := hOa
  clear hba hOa UArd1
  clear Brd1 Crd1 Krd1 Jrd1 Nrd1
  go_wp2_with fail
  refine hK.out _ _ (fun _ _ => ⟨Krd2.out.cell 0 _ rfl, Krd2.out.cell 1 _ rfl, Krd2.out.cell 2 _ rfl, Krd2.out.cell 3 _ rfl, Krd2.out.cell 4 _ rfl, Jrd2.out.cell 0 _ rfl, Jrd2.out.cell 1 _ rfl, Jrd2.out.cell 2 _ rfl, Jrd2.out.cell 3 _ rfl, Jrd2.out.cell 4 _ rfl⟩) ?_
  clear hK K
  try simp only [Act.put, List.setIfInBounds_toArray, List.set_cons_zero, List.set_cons_succ]
  refine until_one 4 (by rfl) (by kernel_rfl) (fun K hK => ?_)
  go_simp
  refine (cG rd2 uard ubrd UArd2.out.lies UBrd2.out.lies (HT.out.on Brd2.out)).mono ?_
  rintro e wk ⟨l', ok', uH, hArd, rfl, hOrd, hba⟩
  have Bwk : Hid (Below w.heap.size w wk) := Brd2.out.trans (hba.mono Brd2.out.size)
  have Cwk : Hid (Below w5.heap.size w5 wk) := Crd2.out.trans (hba.mono Crd2.out.size)
  have Kwk : Hid (Blk wk w.heap.size #[.int .i64 x.term, .int .i64 x.vote, .int .i64 x.base, .int .i64 x.bterm, u] 24) := Krd2.out.on hba Krd2.out.lt
  have Jwk : Hid (Blk wk (w.heap.size + 1) #[.int .i64 y.term, .int .i64 y.vote, .int .i64 y.base, .int .i64 y.bterm, u1] 24) := Jrd2.out.on hba Jrd2.out.lt
  have Nwk : Hid (Owns wk w9.heap.size 46 4 (uI) (newR (mkStp 1) (stpR (planOf l)).length)) := Nrd2.out.on hba
  have HArd : Hid (ChAns x y l' ok') := hArd
  have HOrd : Hid (Owns wk rd2.heap.size 46 4 uH (stpR (planOf l'))) := hOrd
  clear hba hArd hOrd UArd2 UBrd2
  clear Brd2 Crd2 Krd2 Jrd2 Nrd2
  go_wp2_with fail
  refine hK.out _ _ (fun _ _ => ⟨Kwk.out.cell 0 _ rfl, Kwk.out.cell 1 _ rfl, Kwk.out.cell 2 _ rfl, Kwk.out.cell 3 _ rfl, Kwk.out.cell 4 _ rfl, Jwk.out.cell 0 _ rfl, Jwk.out.cell 1 _ rfl, Jwk.out.cell 2 _ rfl, Jwk.out.cell 3 _ rfl, Jwk.out.cell 4 _ rfl⟩) ?_
  clear hK K
  try simp only [Act.put, List.setIfInBounds_toArray, List.set_cons_zero, List.set_cons_succ]
  refine until_pure 5 (v := ?_) (by rfl) (by kernel_rfl) (by exact fun _ _ _ h => h) (by rfl) ?_ ?_
  rotate_left
  · intro w
    go_simp
    try with_reducible rfl
  try simp only [Act.put, List.setIfInBounds_toArray, List.set_cons_zero, List.set_cons_succ]
  clear S0
  refine until_done (by kernel_rfl) ?_ _
  obtain ⟨e1, e2⟩ := HAra.out.one HArd.out
  subst e1
  subst e2
  have Hwk : Hid (Owns wk rd2.heap.size 46 4 (uH) (stpR (planOf l))) := HOrd.out
  clear HOrd HArd
  go_wp2_with fail
  refine (eqStepS (planOf l) uH uS wk wk.heap.size Hwk.out.lies ((TS.out.on Cwk.out).mono Cwk.out.size) (by have := LN.out; omega) (Nat.le_refl _)).mono ?_
  rintro e wl ⟨rfl, hbq⟩
  have Bwl : Hid (Below w.heap.size w wl) := Bwk.out.trans (hbq.mono Bwk.out.size)
  have Cwl : Hid (Below w5.heap.size w5 wl) := Cwk.out.trans (hbq.mono Cwk.out.size)
  have Nwl : Hid (Owns wl w9.heap.size 46 4 (uI) (newR (mkStp 1) (stpR (planOf l)).length)) := Nwk.out.on hbq
  have Hwl : Hid (Owns wl rd2.heap.size 46 4 (uH) (stpR (planOf l))) := Hwk.out.on hbq
  clear hbq
  clear Bwk Cwk Nwk Hwk
  go_wp2_with fail
  refine (cHd wl Nwl.out.lies).mono ?_
  rintro e wm ⟨rfl, hbm⟩
  have Bwm : Hid (Below w.heap.size w wm) := Bwl.out.trans (hbm.mono Bwl.out.size)
  clear hbm
  go_wp2_with fail
  go_ret
  exact ⟨rfl, Bwm.out⟩
end Go.Proofs.YtcghclaobodgjaaDoor
