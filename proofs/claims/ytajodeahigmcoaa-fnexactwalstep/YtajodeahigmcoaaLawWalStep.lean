/-
  The law FnExactWalStep answers true at every log and record.
-/
import Derived.Test.YtajodeahigmcoaaRows
import Derived.Test.YtajodeahigmcoaaWkHd
import Derived.Test.YtajodeahigmcoaaWkArg
import Derived.Test.YtajodeahigmcoaaStImpl
import Derived.Lib.OwnKind
namespace Go.Proofs.Ytajodeahigmcoaa
open Go.ChangeShapes Go.WideShapes Go.ChangeAt Go.RowKit Go.PlainAid
set_option linter.unusedVariables false

theorem step_len (x : Wl) (r : Rcd) : (walStep x r).1.ents.length ≤ 1000 := by
  cases ho : walOk x
  · rw [step_bad x r ho]
    exact Nat.zero_le _
  · have h60 := (walOk_in x ho).1
    cases hf : (recOk r && recFits x r)
    · rw [step_not x r ho hf]
      simp only
      omega
    · rw [step_yes x r ho hf]
      unfold stepTo
      simp only
      split
      · simp only
        omega
      split
      · simp only [List.length_append, List.length_cons, List.length_nil]
        omega
      · simp only [List.length_take]
        omega
theorem Owns.spare {w w' : World} {base : Nat} {e : TypeId} {sz : Nat} {v u : Value} {rows : List (List Value)} (h : Owns w base e sz v rows) (hk : ∀ g, g < w.heap.size → u.ownBlock ≠ some g → w'.heap[g]? = w.heap[g]?) (hu : ∀ g, u.ownBlock = some g → g < base) : Owns w' base e sz v rows :=
  h.kept fun g hg ho => hk g hg fun e => by have := hu g e; have := (h.lt g ho).1; omega
theorem Blk.spare {w w' : World} {g : Nat} {cs : Array Value} {t : TypeId} {u : Value} (h : Blk w g cs t) (hk : ∀ g, g < w.heap.size → u.ownBlock ≠ some g → w'.heap[g]? = w.heap[g]?) (hu : u.ownBlock ≠ some g) : Blk w' g cs t := by
  unfold Blk
  rw [hk g h.lt hu]
  exact h

theorem Owns.notBlk {w : World} {base : Nat} {e t : TypeId} {sz g : Nat} {v : Value} {R : List (List Value)} {cs : Array Value} (h : Owns w base e sz v R) (hb : Blk w g cs t) (hne : e ≠ t) : v.ownBlock ≠ some g := by
  intro hg
  obtain ⟨c, fz, e1⟩ := Lib.ownsRow_kind h.2 g hg
  unfold Blk at hb
  rw [e1] at hb
  cases hb
  exact hne rfl

set_option maxRecDepth 20000 in
set_option maxHeartbeats 100000000 in
theorem law_fnExactWalStep (x : Wl) (v : Value) (r : Rcd) (rv : Value) (w : World) (hv : WalV w w.heap.size v x) (hf : FitsW x) (hi : IntsW x) (hrv : rv = vRcd r) (hd : r.data.size ≤ maxLen) (hri : IntOk r.kind ∧ IntOk r.term ∧ IntOk r.index ∧ IntOk r.vote) :
    Calls Try.prog 8 #[v, rv] w fun e w' => e = .returned (.bool true) ∧ Below w.heap.size w w' := by
  subst hrv
  have HV : Hid (WalV w w.heap.size v x) := hv
  have HF : Hid (FitsW x) := hf
  have HD : Hid (r.data.size ≤ maxLen) := hd
  obtain ⟨u, rfl, h1⟩ := hv
  have cS := fun wx hx hb => szWal x (.agg #[.int .i64 x.term, .int .i64 x.vote, .int .i64 x.base, .int .i64 x.bterm, u]) wx w.heap.size 1048576 (by omega) (by omega) hx hf hb
  have cR := fun wx left h0 h1 => szRec r left wx h0 h1 hd
  have cTR := fun wx => toRec r wx
  unfold vRcd at cR cTR ⊢
  clear h1 hf hi hd hri
  go_enter Try.func8, Try.ntmps8
  go_wp2_with fail
  have hb0 : Below w.heap.size w ((w.alloc (.cells #[.int .i64 x.term, .int .i64 x.vote, .int .i64 x.base, .int .i64 x.bterm, u] 49)).alloc (.cells #[.int .i64 r.kind, .int .i64 r.term, .int .i64 r.index, .int .i64 r.vote, .string r.data] 40)) := ((Below.refl _ w).alloc (Nat.le_refl _) _).alloc (by simp) _
  have k0 := (Blk.new w #[.int .i64 x.term, .int .i64 x.vote, .int .i64 x.base, .int .i64 x.bterm, u] 49).alloc (.cells #[.int .i64 r.kind, .int .i64 r.term, .int .i64 r.index, .int .i64 r.vote, .string r.data] 40)
  have j0 := Blk.new (w.alloc (.cells #[.int .i64 x.term, .int .i64 x.vote, .int .i64 x.base, .int .i64 x.bterm, u] 49)) #[.int .i64 r.kind, .int .i64 r.term, .int .i64 r.index, .int .i64 r.vote, .string r.data] 40
  simp only [World.size_alloc] at j0
  generalize (w.alloc (.cells #[.int .i64 x.term, .int .i64 x.vote, .int .i64 x.base, .int .i64 x.bterm, u] 49)).alloc (.cells #[.int .i64 r.kind, .int .i64 r.term, .int .i64 r.index, .int .i64 r.vote, .string r.data] 40) = w0 at *
  have B0 : Hid (Below w.heap.size w w0) := hb0
  have K0 : Hid (Blk w0 w.heap.size #[.int .i64 x.term, .int .i64 x.vote, .int .i64 x.base, .int .i64 x.bterm, u] 49) := k0
  have J0 : Hid (Blk w0 (w.heap.size + 1) #[.int .i64 r.kind, .int .i64 r.term, .int .i64 r.index, .int .i64 r.vote, .string r.data] 40) := j0
  clear hb0 k0 j0
  refine (cS w0 (HV.out.on B0.out) B0.out.size).mono ?_
  rintro e w1 ⟨q1, rfl, hr, hb1⟩
  have Bw0 : Hid (Below w.heap.size w w0) := B0.out
  have Kw0 : Hid (Blk w0 w.heap.size #[.int .i64 x.term, .int .i64 x.vote, .int .i64 x.base, .int .i64 x.bterm, u] 49) := K0.out
  have Jw0 : Hid (Blk w0 (w.heap.size + 1) #[.int .i64 r.kind, .int .i64 r.term, .int .i64 r.index, .int .i64 r.vote, .string r.data] 40) := J0.out
  have Bw1 : Hid (Below w.heap.size w w1) := Bw0.out.trans (hb1.mono Bw0.out.size)
  have Kw1 : Hid (Blk w1 w.heap.size #[.int .i64 x.term, .int .i64 x.vote, .int .i64 x.base, .int .i64 x.bterm, u] 49) := Kw0.out.on hb1 Kw0.out.lt
  have Jw1 : Hid (Blk w1 (w.heap.size + 1) #[.int .i64 r.kind, .int .i64 r.term, .int .i64 r.index, .int .i64 r.vote, .string r.data] 40) := Jw0.out.on hb1 Jw0.out.lt
  clear hb1 cS B0 K0 J0 Bw0 Kw0 Jw0
  rcases hr with rfl | ⟨hr0, hr1⟩
  · go_wp2_with fail
    go_ret
    exact ⟨rfl, Bw1.out⟩
  have HW : Hid (wtW x ≤ 1048576) := by unfold Hid; omega
  have z1 : decide (q1 < 0) = false := decide_eq_false (by omega)
  have z2 : q1 ≤ 1048576 := by omega
  have y0 := Jw1.out.cell 0 (.int .i64 r.kind) rfl
  have y1 := Jw1.out.cell 1 (.int .i64 r.term) rfl
  have y2 := Jw1.out.cell 2 (.int .i64 r.index) rfl
  have y3 := Jw1.out.cell 3 (.int .i64 r.vote) rfl
  have y4 := Jw1.out.cell 4 (.string r.data) rfl
  go_wp2_with fail
  refine (cR w1 q1 hr0 z2).mono ?_
  rintro e w2 ⟨⟨q2, rfl, hq2⟩, hb2⟩
  have Bw2 : Hid (Below w.heap.size w w2) := Bw1.out.trans (hb2.mono Bw1.out.size)
  have Kw2 : Hid (Blk w2 w.heap.size #[.int .i64 x.term, .int .i64 x.vote, .int .i64 x.base, .int .i64 x.bterm, u] 49) := Kw1.out.on hb2 Kw1.out.lt
  have Jw2 : Hid (Blk w2 (w.heap.size + 1) #[.int .i64 r.kind, .int .i64 r.term, .int .i64 r.index, .int .i64 r.vote, .string r.data] 40) := Jw1.out.on hb2 Jw1.out.lt
  clear hb2 cR y0 y1 y2 y3 y4 Bw1 Kw1 Jw1
  rcases hq2.out with rfl | ⟨hq0, hq1⟩
  · go_wp2_with fail
    go_ret
    exact ⟨rfl, Bw2.out⟩
  have HS1 : Hid (r.data.size ≤ 1048576) := by unfold Hid; unfold wtR1 at hq1; omega
  have z3 : decide (q2 < 0) = false := decide_eq_false (by omega)
  have cT := fun wx hx hb => toWal x (.agg #[.int .i64 x.term, .int .i64 x.vote, .int .i64 x.base, .int .i64 x.bterm, u]) wx w.heap.size hx HW.out hb
  have cSp := fun wx v hx => specWalStep x r v wx wx.heap.size hx HF.out HD.out (Nat.le_refl _)
  have cG := fun wx v hx => implWalStep x r v wx wx.heap.size hx HF.out HS1.out HW.out (Nat.le_refl _)
  unfold vRcd at cSp cG
  have LR : Hid ((walStep x r).1.ents.length ≤ 1000) := step_len x r
  clear hr1 hq1 hr0 hq0
  generalize walStep x r = RR at *
  have n1 : (RR.2 != RR.2) = false := by simp
  have S0 : Hid (w2.drew.cell? ⟨w.heap.size, 0, none⟩ = some (.int .i64 x.term) ∧ w2.drew.cell? ⟨w.heap.size, 1, none⟩ = some (.int .i64 x.vote) ∧ w2.drew.cell? ⟨w.heap.size, 2, none⟩ = some (.int .i64 x.base) ∧ w2.drew.cell? ⟨w.heap.size, 3, none⟩ = some (.int .i64 x.bterm) ∧ w2.drew.cell? ⟨w.heap.size, 4, none⟩ = some (u) ∧ w2.drew.cell? ⟨w.heap.size + 1, 0, none⟩ = some (.int .i64 r.kind) ∧ w2.drew.cell? ⟨w.heap.size + 1, 1, none⟩ = some (.int .i64 r.term) ∧ w2.drew.cell? ⟨w.heap.size + 1, 2, none⟩ = some (.int .i64 r.index) ∧ w2.drew.cell? ⟨w.heap.size + 1, 3, none⟩ = some (.int .i64 r.vote) ∧ w2.drew.cell? ⟨w.heap.size + 1, 4, none⟩ = some (.string r.data)) := ⟨Kw2.out.cell 0 _ rfl, Kw2.out.cell 1 _ rfl, Kw2.out.cell 2 _ rfl, Kw2.out.cell 3 _ rfl, Kw2.out.cell 4 _ rfl, Jw2.out.cell 0 _ rfl, Jw2.out.cell 1 _ rfl, Jw2.out.cell 2 _ rfl, Jw2.out.cell 3 _ rfl, Jw2.out.cell 4 _ rfl⟩
  go_wp2_with fail
  refine wp_region_until (fun w' => w'.cell? ⟨w.heap.size, 0, none⟩ = some (.int .i64 x.term) ∧ w'.cell? ⟨w.heap.size, 1, none⟩ = some (.int .i64 x.vote) ∧ w'.cell? ⟨w.heap.size, 2, none⟩ = some (.int .i64 x.base) ∧ w'.cell? ⟨w.heap.size, 3, none⟩ = some (.int .i64 x.bterm) ∧ w'.cell? ⟨w.heap.size, 4, none⟩ = some (u) ∧ w'.cell? ⟨w.heap.size + 1, 0, none⟩ = some (.int .i64 r.kind) ∧ w'.cell? ⟨w.heap.size + 1, 1, none⟩ = some (.int .i64 r.term) ∧ w'.cell? ⟨w.heap.size + 1, 2, none⟩ = some (.int .i64 r.index) ∧ w'.cell? ⟨w.heap.size + 1, 3, none⟩ = some (.int .i64 r.vote) ∧ w'.cell? ⟨w.heap.size + 1, 4, none⟩ = some (.string r.data)) (fun i => false) 11 (by rfl) (by kernel_rfl) ?_
  have BraX : Hid (Below w.heap.size w w2.drew) := Bw2.out.drew
  have KraX : Hid (Blk w2.drew w.heap.size #[.int .i64 x.term, .int .i64 x.vote, .int .i64 x.base, .int .i64 x.bterm, u] 49) := Kw2.out
  have JraX : Hid (Blk w2.drew (w.heap.size + 1) #[.int .i64 r.kind, .int .i64 r.term, .int .i64 r.index, .int .i64 r.vote, .string r.data] 40) := Jw2.out
  clear Bw2 Kw2 Jw2
  generalize w2.drew = raX at *
  refine until_take 0 (v := ?_) (by rfl) (by kernel_rfl) (by exact fun _ _ _ h => h) (by rfl) ?_ S0.out ?_
  rotate_left
  · intro w hSw
    try dsimp only at hSw
    go_simp
    try with_reducible rfl
  try simp only [Act.put, List.setIfInBounds_toArray, List.set_cons_zero, List.set_cons_succ]
  refine until_take 2 (v := ?_) (by rfl) (by kernel_rfl) (by exact fun _ _ _ h => h) (by rfl) ?_ S0.out ?_
  rotate_left
  · intro w hSw
    try dsimp only at hSw
    go_simp
    try with_reducible rfl
  try simp only [Act.put, List.setIfInBounds_toArray, List.set_cons_zero, List.set_cons_succ]
  refine until_two 1 8 (by rfl) (by rfl) (by kernel_rfl) (fun K hK => ?_) (fun K hK => ?_)
  rotate_left
  focus
    go_simp
    have zk := Blk.new raX #[.int .i64 0, .int .i64 0, .int .i64 0, .int .i64 0, .slice none 0 0] 26
    have bz : Below raX.heap.size raX (raX.alloc (.cells #[.int .i64 0, .int .i64 0, .int .i64 0, .int .i64 0, .slice none 0 0] 26)) := (Below.refl _ _).alloc (Nat.le_refl _) _
    generalize raX.alloc (.cells #[.int .i64 0, .int .i64 0, .int .i64 0, .int .i64 0, .slice none 0 0] 26) = ra1a at *
    have Bra1a : Hid (Below w.heap.size w ra1a) := BraX.out.trans (bz.mono BraX.out.size)
    have Kra1a : Hid (Blk ra1a w.heap.size #[.int .i64 x.term, .int .i64 x.vote, .int .i64 x.base, .int .i64 x.bterm, u] 49) := KraX.out.on bz KraX.out.lt
    have Jra1a : Hid (Blk ra1a (w.heap.size + 1) #[.int .i64 r.kind, .int .i64 r.term, .int .i64 r.index, .int .i64 r.vote, .string r.data] 40) := JraX.out.on bz JraX.out.lt
    have LB : Hid (w.heap.size ≤ raX.heap.size) := BraX.out.size
    have LK : Hid (w.heap.size ≠ raX.heap.size) := Nat.ne_of_lt KraX.out.lt
    have LJ : Hid ((w.heap.size + 1) ≠ raX.heap.size) := Nat.ne_of_lt JraX.out.lt
    have zX : Hid (Blk ra1a raX.heap.size #[.int .i64 0, .int .i64 0, .int .i64 0, .int .i64 0, .slice none 0 0] 26) := zk
    clear zk bz
    clear BraX KraX JraX
    generalize raX.heap.size = pz at *
    have zra1a : Hid (Blk ra1a pz #[.int .i64 0, .int .i64 0, .int .i64 0, .int .i64 0, .slice none 0 0] 26) := zX.out
    clear zX
    refine hK.out _ _ (fun _ _ => ⟨Kra1a.out.cell 0 _ rfl, Kra1a.out.cell 1 _ rfl, Kra1a.out.cell 2 _ rfl, Kra1a.out.cell 3 _ rfl, Kra1a.out.cell 4 _ rfl, Jra1a.out.cell 0 _ rfl, Jra1a.out.cell 1 _ rfl, Jra1a.out.cell 2 _ rfl, Jra1a.out.cell 3 _ rfl, Jra1a.out.cell 4 _ rfl⟩) ?_
    clear hK K
    try simp only [Act.put, List.setIfInBounds_toArray, List.set_cons_zero, List.set_cons_succ]
    refine until_one 1 (by rfl) (by kernel_rfl) (fun K hK => ?_)
    go_simp
    refine (cT ra1a (HV.out.on Bra1a.out) Bra1a.out.size).mono ?_
    rintro e ra2c ⟨uara, rfl, hOa, hba⟩
    have Bra2c : Hid (Below w.heap.size w ra2c) := Bra1a.out.trans (hba.mono Bra1a.out.size)
    have Kra2c : Hid (Blk ra2c w.heap.size #[.int .i64 x.term, .int .i64 x.vote, .int .i64 x.base, .int .i64 x.bterm, u] 49) := Kra1a.out.on hba Kra1a.out.lt
    have Jra2c : Hid (Blk ra2c (w.heap.size + 1) #[.int .i64 r.kind, .int .i64 r.term, .int .i64 r.index, .int .i64 r.vote, .string r.data] 40) := Jra1a.out.on hba Jra1a.out.lt
    have zra2c : Hid (Blk ra2c pz #[.int .i64 0, .int .i64 0, .int .i64 0, .int .i64 0, .slice none 0 0] 26) := zra1a.out.on hba zra1a.out.lt
    have UAX : Hid (WalO ra2c ra1a.heap.size uara x) := hOa
    clear hba hOa
    clear Bra1a Kra1a Jra1a zra1a
    generalize ra1a.heap.size = bu at *
    have UAra2c : Hid (WalO ra2c bu uara x) := UAX.out
    clear UAX
    go_wp2_with fail
    refine hK.out _ _ (fun _ _ => ⟨Kra2c.out.cell 0 _ rfl, Kra2c.out.cell 1 _ rfl, Kra2c.out.cell 2 _ rfl, Kra2c.out.cell 3 _ rfl, Kra2c.out.cell 4 _ rfl, Jra2c.out.cell 0 _ rfl, Jra2c.out.cell 1 _ rfl, Jra2c.out.cell 2 _ rfl, Jra2c.out.cell 3 _ rfl, Jra2c.out.cell 4 _ rfl⟩) ?_
    clear hK K
    try simp only [Act.put, List.setIfInBounds_toArray, List.set_cons_zero, List.set_cons_succ]
    refine until_one 3 (by rfl) (by kernel_rfl) (fun K hK => ?_)
    go_simp
    refine (cTR ra2c).mono ?_
    rintro e ra3c ⟨rfl, hba⟩
    have Bra3c : Hid (Below w.heap.size w ra3c) := Bra2c.out.trans (hba.mono Bra2c.out.size)
    have Kra3c : Hid (Blk ra3c w.heap.size #[.int .i64 x.term, .int .i64 x.vote, .int .i64 x.base, .int .i64 x.bterm, u] 49) := Kra2c.out.on hba Kra2c.out.lt
    have Jra3c : Hid (Blk ra3c (w.heap.size + 1) #[.int .i64 r.kind, .int .i64 r.term, .int .i64 r.index, .int .i64 r.vote, .string r.data] 40) := Jra2c.out.on hba Jra2c.out.lt
    have zra3c : Hid (Blk ra3c pz #[.int .i64 0, .int .i64 0, .int .i64 0, .int .i64 0, .slice none 0 0] 26) := zra2c.out.on hba zra2c.out.lt
    have UAra3c : Hid (WalO ra3c bu uara x) := UAra2c.out.on hba
    clear UAra2c
    clear hba
    clear Bra2c Kra2c Jra2c zra2c
    go_wp2_with fail
    refine hK.out _ _ (fun _ _ => ⟨Kra3c.out.cell 0 _ rfl, Kra3c.out.cell 1 _ rfl, Kra3c.out.cell 2 _ rfl, Kra3c.out.cell 3 _ rfl, Kra3c.out.cell 4 _ rfl, Jra3c.out.cell 0 _ rfl, Jra3c.out.cell 1 _ rfl, Jra3c.out.cell 2 _ rfl, Jra3c.out.cell 3 _ rfl, Jra3c.out.cell 4 _ rfl⟩) ?_
    clear hK K
    try simp only [Act.put, List.setIfInBounds_toArray, List.set_cons_zero, List.set_cons_succ]
    refine until_one 4 (by rfl) (by kernel_rfl) (fun K hK => ?_)
    go_simp
    refine (cSp ra3c uara UAra3c.out.lies).mono ?_
    rintro e ra4c ⟨x6, b6', rfl, ⟨hO3, hbb⟩, hba⟩
    subst hbb
    have Bra4c : Hid (Below w.heap.size w ra4c) := Bra3c.out.trans (hba.mono Bra3c.out.size)
    have Kra4c : Hid (Blk ra4c w.heap.size #[.int .i64 x.term, .int .i64 x.vote, .int .i64 x.base, .int .i64 x.bterm, u] 49) := Kra3c.out.on hba Kra3c.out.lt
    have Jra4c : Hid (Blk ra4c (w.heap.size + 1) #[.int .i64 r.kind, .int .i64 r.term, .int .i64 r.index, .int .i64 r.vote, .string r.data] 40) := Jra3c.out.on hba Jra3c.out.lt
    have zra4c : Hid (Blk ra4c pz #[.int .i64 0, .int .i64 0, .int .i64 0, .int .i64 0, .slice none 0 0] 26) := zra3c.out.on hba zra3c.out.lt
    obtain ⟨s1, rfl, a1⟩ := hO3
    obtain ⟨E1, em, ec, rfl⟩ := a1.shape
    have AX : Hid (Owns ra4c ra3c.heap.size 76 2 (.slice E1 em ec) (entR RR.1.ents)) := a1
    clear hba a1
    clear Bra3c Kra3c Jra3c zra3c
    clear UAra3c
    generalize ra3c.heap.size = bq at *
    have Ara4c : Hid (Owns ra4c bq 76 2 (.slice E1 em ec) (entR RR.1.ents)) := AX.out
    clear AX
    go_wp2_with fail
    refine hK.out _ _ (fun _ _ => ⟨Kra4c.out.cell 0 _ rfl, Kra4c.out.cell 1 _ rfl, Kra4c.out.cell 2 _ rfl, Kra4c.out.cell 3 _ rfl, Kra4c.out.cell 4 _ rfl, Jra4c.out.cell 0 _ rfl, Jra4c.out.cell 1 _ rfl, Jra4c.out.cell 2 _ rfl, Jra4c.out.cell 3 _ rfl, Jra4c.out.cell 4 _ rfl⟩) ?_
    clear hK K
    try simp only [Act.put, List.setIfInBounds_toArray, List.set_cons_zero, List.set_cons_succ]
    refine until_pure 5 (v := ?_) (by rfl) (by kernel_rfl) (by exact fun _ _ _ h => h) (by rfl) ?_ ?_
    rotate_left
    · intro w
      go_simp
      try with_reducible rfl
    try simp only [Act.put, List.setIfInBounds_toArray, List.set_cons_zero, List.set_cons_succ]
    refine until_pure 6 (v := ?_) (by rfl) (by kernel_rfl) (by exact fun _ _ _ h => h) (by rfl) ?_ ?_
    rotate_left
    · intro w
      go_simp
      try with_reducible rfl
    try simp only [Act.put, List.setIfInBounds_toArray, List.set_cons_zero, List.set_cons_succ]
    refine until_pure 7 (v := ?_) (by rfl) (by kernel_rfl) (by exact fun _ _ _ h => h) (by rfl) ?_ ?_
    rotate_left
    · intro w
      go_simp
      try with_reducible rfl
    try simp only [Act.put, List.setIfInBounds_toArray, List.set_cons_zero, List.set_cons_succ]
    refine until_one 9 (by rfl) (by kernel_rfl) (fun K hK => ?_)
    have r0 := zra4c.out.cell 0 (.int .i64 0) rfl
    have g0 := zra4c.out.free 0
    have r1 := zra4c.out.cell 1 (.int .i64 0) rfl
    have g1 := zra4c.out.free 1
    have r2 := zra4c.out.cell 2 (.int .i64 0) rfl
    have g2 := zra4c.out.free 2
    have r3 := zra4c.out.cell 3 (.int .i64 0) rfl
    have g3 := zra4c.out.free 3
    have r4 := zra4c.out.cell 4 (.slice none 0 0) rfl
    have g4 := zra4c.out.free 4
    go_simp
    have NE : Hid ((Value.slice E1 em ec).ownBlock ≠ some pz) := Ara4c.out.notBlk zra4c.out (by decide)
    have hz := (((((zra4c.out.set 0 (.int .i64 RR.1.term)).set 1 (.int .i64 RR.1.vote)).set 2 (.int .i64 RR.1.base)).set 3 (.int .i64 RR.1.bterm)).set 4 (.slice E1 em ec))
    have hoa := (((((Ara4c.out.other NE.out 0 (.int .i64 RR.1.term)).other NE.out 1 (.int .i64 RR.1.vote)).other NE.out 2 (.int .i64 RR.1.base)).other NE.out 3 (.int .i64 RR.1.bterm)).other NE.out 4 (.slice E1 em ec))
    have hB := (((((Bra4c.out.setCell LB.out (.int .i64 RR.1.term) (p := ⟨pz, 0, none⟩)).setCell LB.out (.int .i64 RR.1.vote) (p := ⟨pz, 1, none⟩)).setCell LB.out (.int .i64 RR.1.base) (p := ⟨pz, 2, none⟩)).setCell LB.out (.int .i64 RR.1.bterm) (p := ⟨pz, 3, none⟩)).setCell LB.out (.slice E1 em ec) (p := ⟨pz, 4, none⟩))
    have hK := (((((Kra4c.out.other (LK.out) 0 (.int .i64 RR.1.term)).other (LK.out) 1 (.int .i64 RR.1.vote)).other (LK.out) 2 (.int .i64 RR.1.base)).other (LK.out) 3 (.int .i64 RR.1.bterm)).other (LK.out) 4 (.slice E1 em ec))
    have hJ := (((((Jra4c.out.other (LJ.out) 0 (.int .i64 RR.1.term)).other (LJ.out) 1 (.int .i64 RR.1.vote)).other (LJ.out) 2 (.int .i64 RR.1.base)).other (LJ.out) 3 (.int .i64 RR.1.bterm)).other (LJ.out) 4 (.slice E1 em ec))
    clear r0 r1 r2 r3 r4 g0 g1 g2 g3 g4 NE
    clear Bra4c Kra4c Jra4c zra4c
    clear Ara4c
    generalize (((((ra4c.setCell ⟨pz, 0, none⟩ (.int .i64 RR.1.term)).setCell ⟨pz, 1, none⟩ (.int .i64 RR.1.vote)).setCell ⟨pz, 2, none⟩ (.int .i64 RR.1.base)).setCell ⟨pz, 3, none⟩ (.int .i64 RR.1.bterm)).setCell ⟨pz, 4, none⟩ (.slice E1 em ec)) = w6 at *
    have Bw6 : Hid (Below w.heap.size w w6) := hB
    have Kw6 : Hid (Blk w6 w.heap.size #[.int .i64 x.term, .int .i64 x.vote, .int .i64 x.base, .int .i64 x.bterm, u] 49) := hK
    have Jw6 : Hid (Blk w6 (w.heap.size + 1) #[.int .i64 r.kind, .int .i64 r.term, .int .i64 r.index, .int .i64 r.vote, .string r.data] 40) := hJ
    have Zw6 : Hid (Blk w6 pz #[.int .i64 RR.1.term, .int .i64 RR.1.vote, .int .i64 RR.1.base, .int .i64 RR.1.bterm, .slice E1 em ec] 26) := hz
    have Aw6 : Hid (Owns w6 bq 76 2 (.slice E1 em ec) (entR RR.1.ents)) := hoa
    clear hz hoa hB hK hJ LB LK LJ
    refine hK.out _ _ (fun _ _ => ⟨Kw6.out.cell 0 _ rfl, Kw6.out.cell 1 _ rfl, Kw6.out.cell 2 _ rfl, Kw6.out.cell 3 _ rfl, Kw6.out.cell 4 _ rfl, Jw6.out.cell 0 _ rfl, Jw6.out.cell 1 _ rfl, Jw6.out.cell 2 _ rfl, Jw6.out.cell 3 _ rfl, Jw6.out.cell 4 _ rfl⟩) ?_
    clear hK K S0
    try simp only [Act.put, List.setIfInBounds_toArray, List.set_cons_zero, List.set_cons_succ]
    refine until_pure 10 (v := ?_) (by rfl) (by kernel_rfl) (by exact fun _ _ _ h => h) (by rfl) ?_ ?_
    rotate_left
    · intro w
      go_simp
      try with_reducible rfl
    try simp only [Act.put, List.setIfInBounds_toArray, List.set_cons_zero, List.set_cons_succ]
    refine until_done (by kernel_rfl) ?_ _
  rotate_left
  focus
    go_simp
    refine (cT raX (HV.out.on BraX.out) BraX.out.size).mono ?_
    rintro e ra5c ⟨uara, rfl, hOa, hba⟩
    have Bra5c : Hid (Below w.heap.size w ra5c) := BraX.out.trans (hba.mono BraX.out.size)
    have Kra5c : Hid (Blk ra5c w.heap.size #[.int .i64 x.term, .int .i64 x.vote, .int .i64 x.base, .int .i64 x.bterm, u] 49) := KraX.out.on hba KraX.out.lt
    have Jra5c : Hid (Blk ra5c (w.heap.size + 1) #[.int .i64 r.kind, .int .i64 r.term, .int .i64 r.index, .int .i64 r.vote, .string r.data] 40) := JraX.out.on hba JraX.out.lt
    have UAX : Hid (WalO ra5c raX.heap.size uara x) := hOa
    clear hba hOa
    clear BraX KraX JraX
    generalize raX.heap.size = bu at *
    have UAra5c : Hid (WalO ra5c bu uara x) := UAX.out
    clear UAX
    go_wp2_with fail
    refine hK.out _ _ (fun _ _ => ⟨Kra5c.out.cell 0 _ rfl, Kra5c.out.cell 1 _ rfl, Kra5c.out.cell 2 _ rfl, Kra5c.out.cell 3 _ rfl, Kra5c.out.cell 4 _ rfl, Jra5c.out.cell 0 _ rfl, Jra5c.out.cell 1 _ rfl, Jra5c.out.cell 2 _ rfl, Jra5c.out.cell 3 _ rfl, Jra5c.out.cell 4 _ rfl⟩) ?_
    clear hK K
    try simp only [Act.put, List.setIfInBounds_toArray, List.set_cons_zero, List.set_cons_succ]
    refine until_two 3 8 (by rfl) (by rfl) (by kernel_rfl) (fun K hK => ?_) (fun K hK => ?_)
    rotate_left
    focus
      go_simp
      have zk := Blk.new ra5c #[.int .i64 0, .int .i64 0, .int .i64 0, .int .i64 0, .slice none 0 0] 26
      have bz : Below ra5c.heap.size ra5c (ra5c.alloc (.cells #[.int .i64 0, .int .i64 0, .int .i64 0, .int .i64 0, .slice none 0 0] 26)) := (Below.refl _ _).alloc (Nat.le_refl _) _
      generalize ra5c.alloc (.cells #[.int .i64 0, .int .i64 0, .int .i64 0, .int .i64 0, .slice none 0 0] 26) = ra6a at *
      have Bra6a : Hid (Below w.heap.size w ra6a) := Bra5c.out.trans (bz.mono Bra5c.out.size)
      have Kra6a : Hid (Blk ra6a w.heap.size #[.int .i64 x.term, .int .i64 x.vote, .int .i64 x.base, .int .i64 x.bterm, u] 49) := Kra5c.out.on bz Kra5c.out.lt
      have Jra6a : Hid (Blk ra6a (w.heap.size + 1) #[.int .i64 r.kind, .int .i64 r.term, .int .i64 r.index, .int .i64 r.vote, .string r.data] 40) := Jra5c.out.on bz Jra5c.out.lt
      have LB : Hid (w.heap.size ≤ ra5c.heap.size) := Bra5c.out.size
      have LK : Hid (w.heap.size ≠ ra5c.heap.size) := Nat.ne_of_lt Kra5c.out.lt
      have LJ : Hid ((w.heap.size + 1) ≠ ra5c.heap.size) := Nat.ne_of_lt Jra5c.out.lt
      have UAra6a : Hid (WalO ra6a bu uara x) := UAra5c.out.on bz
      clear UAra5c
      have zX : Hid (Blk ra6a ra5c.heap.size #[.int .i64 0, .int .i64 0, .int .i64 0, .int .i64 0, .slice none 0 0] 26) := zk
      clear zk bz
      clear Bra5c Kra5c Jra5c
      generalize ra5c.heap.size = pz at *
      have zra6a : Hid (Blk ra6a pz #[.int .i64 0, .int .i64 0, .int .i64 0, .int .i64 0, .slice none 0 0] 26) := zX.out
      clear zX
      refine hK.out _ _ (fun _ _ => ⟨Kra6a.out.cell 0 _ rfl, Kra6a.out.cell 1 _ rfl, Kra6a.out.cell 2 _ rfl, Kra6a.out.cell 3 _ rfl, Kra6a.out.cell 4 _ rfl, Jra6a.out.cell 0 _ rfl, Jra6a.out.cell 1 _ rfl, Jra6a.out.cell 2 _ rfl, Jra6a.out.cell 3 _ rfl, Jra6a.out.cell 4 _ rfl⟩) ?_
      clear hK K
      try simp only [Act.put, List.setIfInBounds_toArray, List.set_cons_zero, List.set_cons_succ]
      refine until_one 3 (by rfl) (by kernel_rfl) (fun K hK => ?_)
      go_simp
      refine (cTR ra6a).mono ?_
      rintro e ra7c ⟨rfl, hba⟩
      have Bra7c : Hid (Below w.heap.size w ra7c) := Bra6a.out.trans (hba.mono Bra6a.out.size)
      have Kra7c : Hid (Blk ra7c w.heap.size #[.int .i64 x.term, .int .i64 x.vote, .int .i64 x.base, .int .i64 x.bterm, u] 49) := Kra6a.out.on hba Kra6a.out.lt
      have Jra7c : Hid (Blk ra7c (w.heap.size + 1) #[.int .i64 r.kind, .int .i64 r.term, .int .i64 r.index, .int .i64 r.vote, .string r.data] 40) := Jra6a.out.on hba Jra6a.out.lt
      have zra7c : Hid (Blk ra7c pz #[.int .i64 0, .int .i64 0, .int .i64 0, .int .i64 0, .slice none 0 0] 26) := zra6a.out.on hba zra6a.out.lt
      have UAra7c : Hid (WalO ra7c bu uara x) := UAra6a.out.on hba
      clear UAra6a
      clear hba
      clear Bra6a Kra6a Jra6a zra6a
      go_wp2_with fail
      refine hK.out _ _ (fun _ _ => ⟨Kra7c.out.cell 0 _ rfl, Kra7c.out.cell 1 _ rfl, Kra7c.out.cell 2 _ rfl, Kra7c.out.cell 3 _ rfl, Kra7c.out.cell 4 _ rfl, Jra7c.out.cell 0 _ rfl, Jra7c.out.cell 1 _ rfl, Jra7c.out.cell 2 _ rfl, Jra7c.out.cell 3 _ rfl, Jra7c.out.cell 4 _ rfl⟩) ?_
      clear hK K
      try simp only [Act.put, List.setIfInBounds_toArray, List.set_cons_zero, List.set_cons_succ]
      refine until_one 4 (by rfl) (by kernel_rfl) (fun K hK => ?_)
      go_simp
      refine (cSp ra7c uara UAra7c.out.lies).mono ?_
      rintro e ra8c ⟨x6, b6', rfl, ⟨hO3, hbb⟩, hba⟩
      subst hbb
      have Bra8c : Hid (Below w.heap.size w ra8c) := Bra7c.out.trans (hba.mono Bra7c.out.size)
      have Kra8c : Hid (Blk ra8c w.heap.size #[.int .i64 x.term, .int .i64 x.vote, .int .i64 x.base, .int .i64 x.bterm, u] 49) := Kra7c.out.on hba Kra7c.out.lt
      have Jra8c : Hid (Blk ra8c (w.heap.size + 1) #[.int .i64 r.kind, .int .i64 r.term, .int .i64 r.index, .int .i64 r.vote, .string r.data] 40) := Jra7c.out.on hba Jra7c.out.lt
      have zra8c : Hid (Blk ra8c pz #[.int .i64 0, .int .i64 0, .int .i64 0, .int .i64 0, .slice none 0 0] 26) := zra7c.out.on hba zra7c.out.lt
      obtain ⟨s1, rfl, a1⟩ := hO3
      obtain ⟨E1, em, ec, rfl⟩ := a1.shape
      have AX : Hid (Owns ra8c ra7c.heap.size 76 2 (.slice E1 em ec) (entR RR.1.ents)) := a1
      clear hba a1
      clear Bra7c Kra7c Jra7c zra7c
      clear UAra7c
      generalize ra7c.heap.size = bq at *
      have Ara8c : Hid (Owns ra8c bq 76 2 (.slice E1 em ec) (entR RR.1.ents)) := AX.out
      clear AX
      go_wp2_with fail
      refine hK.out _ _ (fun _ _ => ⟨Kra8c.out.cell 0 _ rfl, Kra8c.out.cell 1 _ rfl, Kra8c.out.cell 2 _ rfl, Kra8c.out.cell 3 _ rfl, Kra8c.out.cell 4 _ rfl, Jra8c.out.cell 0 _ rfl, Jra8c.out.cell 1 _ rfl, Jra8c.out.cell 2 _ rfl, Jra8c.out.cell 3 _ rfl, Jra8c.out.cell 4 _ rfl⟩) ?_
      clear hK K
      try simp only [Act.put, List.setIfInBounds_toArray, List.set_cons_zero, List.set_cons_succ]
      refine until_pure 5 (v := ?_) (by rfl) (by kernel_rfl) (by exact fun _ _ _ h => h) (by rfl) ?_ ?_
      rotate_left
      · intro w
        go_simp
        try with_reducible rfl
      try simp only [Act.put, List.setIfInBounds_toArray, List.set_cons_zero, List.set_cons_succ]
      refine until_pure 6 (v := ?_) (by rfl) (by kernel_rfl) (by exact fun _ _ _ h => h) (by rfl) ?_ ?_
      rotate_left
      · intro w
        go_simp
        try with_reducible rfl
      try simp only [Act.put, List.setIfInBounds_toArray, List.set_cons_zero, List.set_cons_succ]
      refine until_pure 7 (v := ?_) (by rfl) (by kernel_rfl) (by exact fun _ _ _ h => h) (by rfl) ?_ ?_
      rotate_left
      · intro w
        go_simp
        try with_reducible rfl
      try simp only [Act.put, List.setIfInBounds_toArray, List.set_cons_zero, List.set_cons_succ]
      refine until_one 9 (by rfl) (by kernel_rfl) (fun K hK => ?_)
      have r0 := zra8c.out.cell 0 (.int .i64 0) rfl
      have g0 := zra8c.out.free 0
      have r1 := zra8c.out.cell 1 (.int .i64 0) rfl
      have g1 := zra8c.out.free 1
      have r2 := zra8c.out.cell 2 (.int .i64 0) rfl
      have g2 := zra8c.out.free 2
      have r3 := zra8c.out.cell 3 (.int .i64 0) rfl
      have g3 := zra8c.out.free 3
      have r4 := zra8c.out.cell 4 (.slice none 0 0) rfl
      have g4 := zra8c.out.free 4
      go_simp
      have NE : Hid ((Value.slice E1 em ec).ownBlock ≠ some pz) := Ara8c.out.notBlk zra8c.out (by decide)
      have hz := (((((zra8c.out.set 0 (.int .i64 RR.1.term)).set 1 (.int .i64 RR.1.vote)).set 2 (.int .i64 RR.1.base)).set 3 (.int .i64 RR.1.bterm)).set 4 (.slice E1 em ec))
      have hoa := (((((Ara8c.out.other NE.out 0 (.int .i64 RR.1.term)).other NE.out 1 (.int .i64 RR.1.vote)).other NE.out 2 (.int .i64 RR.1.base)).other NE.out 3 (.int .i64 RR.1.bterm)).other NE.out 4 (.slice E1 em ec))
      have hB := (((((Bra8c.out.setCell LB.out (.int .i64 RR.1.term) (p := ⟨pz, 0, none⟩)).setCell LB.out (.int .i64 RR.1.vote) (p := ⟨pz, 1, none⟩)).setCell LB.out (.int .i64 RR.1.base) (p := ⟨pz, 2, none⟩)).setCell LB.out (.int .i64 RR.1.bterm) (p := ⟨pz, 3, none⟩)).setCell LB.out (.slice E1 em ec) (p := ⟨pz, 4, none⟩))
      have hK := (((((Kra8c.out.other (LK.out) 0 (.int .i64 RR.1.term)).other (LK.out) 1 (.int .i64 RR.1.vote)).other (LK.out) 2 (.int .i64 RR.1.base)).other (LK.out) 3 (.int .i64 RR.1.bterm)).other (LK.out) 4 (.slice E1 em ec))
      have hJ := (((((Jra8c.out.other (LJ.out) 0 (.int .i64 RR.1.term)).other (LJ.out) 1 (.int .i64 RR.1.vote)).other (LJ.out) 2 (.int .i64 RR.1.base)).other (LJ.out) 3 (.int .i64 RR.1.bterm)).other (LJ.out) 4 (.slice E1 em ec))
      clear r0 r1 r2 r3 r4 g0 g1 g2 g3 g4 NE
      clear Bra8c Kra8c Jra8c zra8c
      clear Ara8c
      generalize (((((ra8c.setCell ⟨pz, 0, none⟩ (.int .i64 RR.1.term)).setCell ⟨pz, 1, none⟩ (.int .i64 RR.1.vote)).setCell ⟨pz, 2, none⟩ (.int .i64 RR.1.base)).setCell ⟨pz, 3, none⟩ (.int .i64 RR.1.bterm)).setCell ⟨pz, 4, none⟩ (.slice E1 em ec)) = w6 at *
      have Bw6 : Hid (Below w.heap.size w w6) := hB
      have Kw6 : Hid (Blk w6 w.heap.size #[.int .i64 x.term, .int .i64 x.vote, .int .i64 x.base, .int .i64 x.bterm, u] 49) := hK
      have Jw6 : Hid (Blk w6 (w.heap.size + 1) #[.int .i64 r.kind, .int .i64 r.term, .int .i64 r.index, .int .i64 r.vote, .string r.data] 40) := hJ
      have Zw6 : Hid (Blk w6 pz #[.int .i64 RR.1.term, .int .i64 RR.1.vote, .int .i64 RR.1.base, .int .i64 RR.1.bterm, .slice E1 em ec] 26) := hz
      have Aw6 : Hid (Owns w6 bq 76 2 (.slice E1 em ec) (entR RR.1.ents)) := hoa
      clear hz hoa hB hK hJ LB LK LJ
      refine hK.out _ _ (fun _ _ => ⟨Kw6.out.cell 0 _ rfl, Kw6.out.cell 1 _ rfl, Kw6.out.cell 2 _ rfl, Kw6.out.cell 3 _ rfl, Kw6.out.cell 4 _ rfl, Jw6.out.cell 0 _ rfl, Jw6.out.cell 1 _ rfl, Jw6.out.cell 2 _ rfl, Jw6.out.cell 3 _ rfl, Jw6.out.cell 4 _ rfl⟩) ?_
      clear hK K S0
      try simp only [Act.put, List.setIfInBounds_toArray, List.set_cons_zero, List.set_cons_succ]
      refine until_pure 10 (v := ?_) (by rfl) (by kernel_rfl) (by exact fun _ _ _ h => h) (by rfl) ?_ ?_
      rotate_left
      · intro w
        go_simp
        try with_reducible rfl
      try simp only [Act.put, List.setIfInBounds_toArray, List.set_cons_zero, List.set_cons_succ]
      refine until_done (by kernel_rfl) ?_ _
    rotate_left
    focus
      go_simp
      refine (cTR ra5c).mono ?_
      rintro e ra9c ⟨rfl, hba⟩
      have Bra9c : Hid (Below w.heap.size w ra9c) := Bra5c.out.trans (hba.mono Bra5c.out.size)
      have Kra9c : Hid (Blk ra9c w.heap.size #[.int .i64 x.term, .int .i64 x.vote, .int .i64 x.base, .int .i64 x.bterm, u] 49) := Kra5c.out.on hba Kra5c.out.lt
      have Jra9c : Hid (Blk ra9c (w.heap.size + 1) #[.int .i64 r.kind, .int .i64 r.term, .int .i64 r.index, .int .i64 r.vote, .string r.data] 40) := Jra5c.out.on hba Jra5c.out.lt
      have UAra9c : Hid (WalO ra9c bu uara x) := UAra5c.out.on hba
      clear UAra5c
      clear hba
      clear Bra5c Kra5c Jra5c
      go_wp2_with fail
      refine hK.out _ _ (fun _ _ => ⟨Kra9c.out.cell 0 _ rfl, Kra9c.out.cell 1 _ rfl, Kra9c.out.cell 2 _ rfl, Kra9c.out.cell 3 _ rfl, Kra9c.out.cell 4 _ rfl, Jra9c.out.cell 0 _ rfl, Jra9c.out.cell 1 _ rfl, Jra9c.out.cell 2 _ rfl, Jra9c.out.cell 3 _ rfl, Jra9c.out.cell 4 _ rfl⟩) ?_
      clear hK K
      try simp only [Act.put, List.setIfInBounds_toArray, List.set_cons_zero, List.set_cons_succ]
      refine until_two 4 8 (by rfl) (by rfl) (by kernel_rfl) (fun K hK => ?_) (fun K hK => ?_)
      rotate_left
      focus
        go_simp
        have zk := Blk.new ra9c #[.int .i64 0, .int .i64 0, .int .i64 0, .int .i64 0, .slice none 0 0] 26
        have bz : Below ra9c.heap.size ra9c (ra9c.alloc (.cells #[.int .i64 0, .int .i64 0, .int .i64 0, .int .i64 0, .slice none 0 0] 26)) := (Below.refl _ _).alloc (Nat.le_refl _) _
        generalize ra9c.alloc (.cells #[.int .i64 0, .int .i64 0, .int .i64 0, .int .i64 0, .slice none 0 0] 26) = ra10a at *
        have Bra10a : Hid (Below w.heap.size w ra10a) := Bra9c.out.trans (bz.mono Bra9c.out.size)
        have Kra10a : Hid (Blk ra10a w.heap.size #[.int .i64 x.term, .int .i64 x.vote, .int .i64 x.base, .int .i64 x.bterm, u] 49) := Kra9c.out.on bz Kra9c.out.lt
        have Jra10a : Hid (Blk ra10a (w.heap.size + 1) #[.int .i64 r.kind, .int .i64 r.term, .int .i64 r.index, .int .i64 r.vote, .string r.data] 40) := Jra9c.out.on bz Jra9c.out.lt
        have LB : Hid (w.heap.size ≤ ra9c.heap.size) := Bra9c.out.size
        have LK : Hid (w.heap.size ≠ ra9c.heap.size) := Nat.ne_of_lt Kra9c.out.lt
        have LJ : Hid ((w.heap.size + 1) ≠ ra9c.heap.size) := Nat.ne_of_lt Jra9c.out.lt
        have UAra10a : Hid (WalO ra10a bu uara x) := UAra9c.out.on bz
        clear UAra9c
        have zX : Hid (Blk ra10a ra9c.heap.size #[.int .i64 0, .int .i64 0, .int .i64 0, .int .i64 0, .slice none 0 0] 26) := zk
        clear zk bz
        clear Bra9c Kra9c Jra9c
        generalize ra9c.heap.size = pz at *
        have zra10a : Hid (Blk ra10a pz #[.int .i64 0, .int .i64 0, .int .i64 0, .int .i64 0, .slice none 0 0] 26) := zX.out
        clear zX
        refine hK.out _ _ (fun _ _ => ⟨Kra10a.out.cell 0 _ rfl, Kra10a.out.cell 1 _ rfl, Kra10a.out.cell 2 _ rfl, Kra10a.out.cell 3 _ rfl, Kra10a.out.cell 4 _ rfl, Jra10a.out.cell 0 _ rfl, Jra10a.out.cell 1 _ rfl, Jra10a.out.cell 2 _ rfl, Jra10a.out.cell 3 _ rfl, Jra10a.out.cell 4 _ rfl⟩) ?_
        clear hK K
        try simp only [Act.put, List.setIfInBounds_toArray, List.set_cons_zero, List.set_cons_succ]
        refine until_one 4 (by rfl) (by kernel_rfl) (fun K hK => ?_)
        go_simp
        refine (cSp ra10a uara UAra10a.out.lies).mono ?_
        rintro e ra11c ⟨x6, b6', rfl, ⟨hO3, hbb⟩, hba⟩
        subst hbb
        have Bra11c : Hid (Below w.heap.size w ra11c) := Bra10a.out.trans (hba.mono Bra10a.out.size)
        have Kra11c : Hid (Blk ra11c w.heap.size #[.int .i64 x.term, .int .i64 x.vote, .int .i64 x.base, .int .i64 x.bterm, u] 49) := Kra10a.out.on hba Kra10a.out.lt
        have Jra11c : Hid (Blk ra11c (w.heap.size + 1) #[.int .i64 r.kind, .int .i64 r.term, .int .i64 r.index, .int .i64 r.vote, .string r.data] 40) := Jra10a.out.on hba Jra10a.out.lt
        have zra11c : Hid (Blk ra11c pz #[.int .i64 0, .int .i64 0, .int .i64 0, .int .i64 0, .slice none 0 0] 26) := zra10a.out.on hba zra10a.out.lt
        obtain ⟨s1, rfl, a1⟩ := hO3
        obtain ⟨E1, em, ec, rfl⟩ := a1.shape
        have AX : Hid (Owns ra11c ra10a.heap.size 76 2 (.slice E1 em ec) (entR RR.1.ents)) := a1
        clear hba a1
        clear Bra10a Kra10a Jra10a zra10a
        clear UAra10a
        generalize ra10a.heap.size = bq at *
        have Ara11c : Hid (Owns ra11c bq 76 2 (.slice E1 em ec) (entR RR.1.ents)) := AX.out
        clear AX
        go_wp2_with fail
        refine hK.out _ _ (fun _ _ => ⟨Kra11c.out.cell 0 _ rfl, Kra11c.out.cell 1 _ rfl, Kra11c.out.cell 2 _ rfl, Kra11c.out.cell 3 _ rfl, Kra11c.out.cell 4 _ rfl, Jra11c.out.cell 0 _ rfl, Jra11c.out.cell 1 _ rfl, Jra11c.out.cell 2 _ rfl, Jra11c.out.cell 3 _ rfl, Jra11c.out.cell 4 _ rfl⟩) ?_
        clear hK K
        try simp only [Act.put, List.setIfInBounds_toArray, List.set_cons_zero, List.set_cons_succ]
        refine until_pure 5 (v := ?_) (by rfl) (by kernel_rfl) (by exact fun _ _ _ h => h) (by rfl) ?_ ?_
        rotate_left
        · intro w
          go_simp
          try with_reducible rfl
        try simp only [Act.put, List.setIfInBounds_toArray, List.set_cons_zero, List.set_cons_succ]
        refine until_pure 6 (v := ?_) (by rfl) (by kernel_rfl) (by exact fun _ _ _ h => h) (by rfl) ?_ ?_
        rotate_left
        · intro w
          go_simp
          try with_reducible rfl
        try simp only [Act.put, List.setIfInBounds_toArray, List.set_cons_zero, List.set_cons_succ]
        refine until_pure 7 (v := ?_) (by rfl) (by kernel_rfl) (by exact fun _ _ _ h => h) (by rfl) ?_ ?_
        rotate_left
        · intro w
          go_simp
          try with_reducible rfl
        try simp only [Act.put, List.setIfInBounds_toArray, List.set_cons_zero, List.set_cons_succ]
        refine until_one 9 (by rfl) (by kernel_rfl) (fun K hK => ?_)
        have r0 := zra11c.out.cell 0 (.int .i64 0) rfl
        have g0 := zra11c.out.free 0
        have r1 := zra11c.out.cell 1 (.int .i64 0) rfl
        have g1 := zra11c.out.free 1
        have r2 := zra11c.out.cell 2 (.int .i64 0) rfl
        have g2 := zra11c.out.free 2
        have r3 := zra11c.out.cell 3 (.int .i64 0) rfl
        have g3 := zra11c.out.free 3
        have r4 := zra11c.out.cell 4 (.slice none 0 0) rfl
        have g4 := zra11c.out.free 4
        go_simp
        have NE : Hid ((Value.slice E1 em ec).ownBlock ≠ some pz) := Ara11c.out.notBlk zra11c.out (by decide)
        have hz := (((((zra11c.out.set 0 (.int .i64 RR.1.term)).set 1 (.int .i64 RR.1.vote)).set 2 (.int .i64 RR.1.base)).set 3 (.int .i64 RR.1.bterm)).set 4 (.slice E1 em ec))
        have hoa := (((((Ara11c.out.other NE.out 0 (.int .i64 RR.1.term)).other NE.out 1 (.int .i64 RR.1.vote)).other NE.out 2 (.int .i64 RR.1.base)).other NE.out 3 (.int .i64 RR.1.bterm)).other NE.out 4 (.slice E1 em ec))
        have hB := (((((Bra11c.out.setCell LB.out (.int .i64 RR.1.term) (p := ⟨pz, 0, none⟩)).setCell LB.out (.int .i64 RR.1.vote) (p := ⟨pz, 1, none⟩)).setCell LB.out (.int .i64 RR.1.base) (p := ⟨pz, 2, none⟩)).setCell LB.out (.int .i64 RR.1.bterm) (p := ⟨pz, 3, none⟩)).setCell LB.out (.slice E1 em ec) (p := ⟨pz, 4, none⟩))
        have hK := (((((Kra11c.out.other (LK.out) 0 (.int .i64 RR.1.term)).other (LK.out) 1 (.int .i64 RR.1.vote)).other (LK.out) 2 (.int .i64 RR.1.base)).other (LK.out) 3 (.int .i64 RR.1.bterm)).other (LK.out) 4 (.slice E1 em ec))
        have hJ := (((((Jra11c.out.other (LJ.out) 0 (.int .i64 RR.1.term)).other (LJ.out) 1 (.int .i64 RR.1.vote)).other (LJ.out) 2 (.int .i64 RR.1.base)).other (LJ.out) 3 (.int .i64 RR.1.bterm)).other (LJ.out) 4 (.slice E1 em ec))
        clear r0 r1 r2 r3 r4 g0 g1 g2 g3 g4 NE
        clear Bra11c Kra11c Jra11c zra11c
        clear Ara11c
        generalize (((((ra11c.setCell ⟨pz, 0, none⟩ (.int .i64 RR.1.term)).setCell ⟨pz, 1, none⟩ (.int .i64 RR.1.vote)).setCell ⟨pz, 2, none⟩ (.int .i64 RR.1.base)).setCell ⟨pz, 3, none⟩ (.int .i64 RR.1.bterm)).setCell ⟨pz, 4, none⟩ (.slice E1 em ec)) = w6 at *
        have Bw6 : Hid (Below w.heap.size w w6) := hB
        have Kw6 : Hid (Blk w6 w.heap.size #[.int .i64 x.term, .int .i64 x.vote, .int .i64 x.base, .int .i64 x.bterm, u] 49) := hK
        have Jw6 : Hid (Blk w6 (w.heap.size + 1) #[.int .i64 r.kind, .int .i64 r.term, .int .i64 r.index, .int .i64 r.vote, .string r.data] 40) := hJ
        have Zw6 : Hid (Blk w6 pz #[.int .i64 RR.1.term, .int .i64 RR.1.vote, .int .i64 RR.1.base, .int .i64 RR.1.bterm, .slice E1 em ec] 26) := hz
        have Aw6 : Hid (Owns w6 bq 76 2 (.slice E1 em ec) (entR RR.1.ents)) := hoa
        clear hz hoa hB hK hJ LB LK LJ
        refine hK.out _ _ (fun _ _ => ⟨Kw6.out.cell 0 _ rfl, Kw6.out.cell 1 _ rfl, Kw6.out.cell 2 _ rfl, Kw6.out.cell 3 _ rfl, Kw6.out.cell 4 _ rfl, Jw6.out.cell 0 _ rfl, Jw6.out.cell 1 _ rfl, Jw6.out.cell 2 _ rfl, Jw6.out.cell 3 _ rfl, Jw6.out.cell 4 _ rfl⟩) ?_
        clear hK K S0
        try simp only [Act.put, List.setIfInBounds_toArray, List.set_cons_zero, List.set_cons_succ]
        refine until_pure 10 (v := ?_) (by rfl) (by kernel_rfl) (by exact fun _ _ _ h => h) (by rfl) ?_ ?_
        rotate_left
        · intro w
          go_simp
          try with_reducible rfl
        try simp only [Act.put, List.setIfInBounds_toArray, List.set_cons_zero, List.set_cons_succ]
        refine until_done (by kernel_rfl) ?_ _
      rotate_left
      focus
        go_simp
        refine (cSp ra9c uara UAra9c.out.lies).mono ?_
        rintro e ra12c ⟨x6, b6', rfl, ⟨hO3, hbb⟩, hba⟩
        subst hbb
        have Bra12c : Hid (Below w.heap.size w ra12c) := Bra9c.out.trans (hba.mono Bra9c.out.size)
        have Kra12c : Hid (Blk ra12c w.heap.size #[.int .i64 x.term, .int .i64 x.vote, .int .i64 x.base, .int .i64 x.bterm, u] 49) := Kra9c.out.on hba Kra9c.out.lt
        have Jra12c : Hid (Blk ra12c (w.heap.size + 1) #[.int .i64 r.kind, .int .i64 r.term, .int .i64 r.index, .int .i64 r.vote, .string r.data] 40) := Jra9c.out.on hba Jra9c.out.lt
        obtain ⟨s1, rfl, a1⟩ := hO3
        obtain ⟨E1, em, ec, rfl⟩ := a1.shape
        have AX : Hid (Owns ra12c ra9c.heap.size 76 2 (.slice E1 em ec) (entR RR.1.ents)) := a1
        clear hba a1
        clear Bra9c Kra9c Jra9c
        clear UAra9c
        generalize ra9c.heap.size = bq at *
        have Ara12c : Hid (Owns ra12c bq 76 2 (.slice E1 em ec) (entR RR.1.ents)) := AX.out
        clear AX
        go_wp2_with fail
        refine hK.out _ _ (fun _ _ => ⟨Kra12c.out.cell 0 _ rfl, Kra12c.out.cell 1 _ rfl, Kra12c.out.cell 2 _ rfl, Kra12c.out.cell 3 _ rfl, Kra12c.out.cell 4 _ rfl, Jra12c.out.cell 0 _ rfl, Jra12c.out.cell 1 _ rfl, Jra12c.out.cell 2 _ rfl, Jra12c.out.cell 3 _ rfl, Jra12c.out.cell 4 _ rfl⟩) ?_
        clear hK K
        try simp only [Act.put, List.setIfInBounds_toArray, List.set_cons_zero, List.set_cons_succ]
        refine until_pure 5 (v := ?_) (by rfl) (by kernel_rfl) (by exact fun _ _ _ h => h) (by rfl) ?_ ?_
        rotate_left
        · intro w
          go_simp
          try with_reducible rfl
        try simp only [Act.put, List.setIfInBounds_toArray, List.set_cons_zero, List.set_cons_succ]
        refine until_pure 6 (v := ?_) (by rfl) (by kernel_rfl) (by exact fun _ _ _ h => h) (by rfl) ?_ ?_
        rotate_left
        · intro w
          go_simp
          try with_reducible rfl
        try simp only [Act.put, List.setIfInBounds_toArray, List.set_cons_zero, List.set_cons_succ]
        refine until_pure 7 (v := ?_) (by rfl) (by kernel_rfl) (by exact fun _ _ _ h => h) (by rfl) ?_ ?_
        rotate_left
        · intro w
          go_simp
          try with_reducible rfl
        try simp only [Act.put, List.setIfInBounds_toArray, List.set_cons_zero, List.set_cons_succ]
        refine until_one 8 (by rfl) (by kernel_rfl) (fun K hK => ?_)
        go_simp
        have zk := Blk.new ra12c #[.int .i64 0, .int .i64 0, .int .i64 0, .int .i64 0, .slice none 0 0] 26
        have bz : Below ra12c.heap.size ra12c (ra12c.alloc (.cells #[.int .i64 0, .int .i64 0, .int .i64 0, .int .i64 0, .slice none 0 0] 26)) := (Below.refl _ _).alloc (Nat.le_refl _) _
        generalize ra12c.alloc (.cells #[.int .i64 0, .int .i64 0, .int .i64 0, .int .i64 0, .slice none 0 0] 26) = ra13a at *
        have Bra13a : Hid (Below w.heap.size w ra13a) := Bra12c.out.trans (bz.mono Bra12c.out.size)
        have Kra13a : Hid (Blk ra13a w.heap.size #[.int .i64 x.term, .int .i64 x.vote, .int .i64 x.base, .int .i64 x.bterm, u] 49) := Kra12c.out.on bz Kra12c.out.lt
        have Jra13a : Hid (Blk ra13a (w.heap.size + 1) #[.int .i64 r.kind, .int .i64 r.term, .int .i64 r.index, .int .i64 r.vote, .string r.data] 40) := Jra12c.out.on bz Jra12c.out.lt
        have LB : Hid (w.heap.size ≤ ra12c.heap.size) := Bra12c.out.size
        have LK : Hid (w.heap.size ≠ ra12c.heap.size) := Nat.ne_of_lt Kra12c.out.lt
        have LJ : Hid ((w.heap.size + 1) ≠ ra12c.heap.size) := Nat.ne_of_lt Jra12c.out.lt
        have Ara13a : Hid (Owns ra13a bq 76 2 (.slice E1 em ec) (entR RR.1.ents)) := Ara12c.out.on bz
        clear Ara12c
        have zX : Hid (Blk ra13a ra12c.heap.size #[.int .i64 0, .int .i64 0, .int .i64 0, .int .i64 0, .slice none 0 0] 26) := zk
        clear zk bz
        clear Bra12c Kra12c Jra12c
        generalize ra12c.heap.size = pz at *
        have zra13a : Hid (Blk ra13a pz #[.int .i64 0, .int .i64 0, .int .i64 0, .int .i64 0, .slice none 0 0] 26) := zX.out
        clear zX
        refine hK.out _ _ (fun _ _ => ⟨Kra13a.out.cell 0 _ rfl, Kra13a.out.cell 1 _ rfl, Kra13a.out.cell 2 _ rfl, Kra13a.out.cell 3 _ rfl, Kra13a.out.cell 4 _ rfl, Jra13a.out.cell 0 _ rfl, Jra13a.out.cell 1 _ rfl, Jra13a.out.cell 2 _ rfl, Jra13a.out.cell 3 _ rfl, Jra13a.out.cell 4 _ rfl⟩) ?_
        clear hK K
        try simp only [Act.put, List.setIfInBounds_toArray, List.set_cons_zero, List.set_cons_succ]
        refine until_one 9 (by rfl) (by kernel_rfl) (fun K hK => ?_)
        have r0 := zra13a.out.cell 0 (.int .i64 0) rfl
        have g0 := zra13a.out.free 0
        have r1 := zra13a.out.cell 1 (.int .i64 0) rfl
        have g1 := zra13a.out.free 1
        have r2 := zra13a.out.cell 2 (.int .i64 0) rfl
        have g2 := zra13a.out.free 2
        have r3 := zra13a.out.cell 3 (.int .i64 0) rfl
        have g3 := zra13a.out.free 3
        have r4 := zra13a.out.cell 4 (.slice none 0 0) rfl
        have g4 := zra13a.out.free 4
        go_simp
        have NE : Hid ((Value.slice E1 em ec).ownBlock ≠ some pz) := Ara13a.out.notBlk zra13a.out (by decide)
        have hz := (((((zra13a.out.set 0 (.int .i64 RR.1.term)).set 1 (.int .i64 RR.1.vote)).set 2 (.int .i64 RR.1.base)).set 3 (.int .i64 RR.1.bterm)).set 4 (.slice E1 em ec))
        have hoa := (((((Ara13a.out.other NE.out 0 (.int .i64 RR.1.term)).other NE.out 1 (.int .i64 RR.1.vote)).other NE.out 2 (.int .i64 RR.1.base)).other NE.out 3 (.int .i64 RR.1.bterm)).other NE.out 4 (.slice E1 em ec))
        have hB := (((((Bra13a.out.setCell LB.out (.int .i64 RR.1.term) (p := ⟨pz, 0, none⟩)).setCell LB.out (.int .i64 RR.1.vote) (p := ⟨pz, 1, none⟩)).setCell LB.out (.int .i64 RR.1.base) (p := ⟨pz, 2, none⟩)).setCell LB.out (.int .i64 RR.1.bterm) (p := ⟨pz, 3, none⟩)).setCell LB.out (.slice E1 em ec) (p := ⟨pz, 4, none⟩))
        have hK := (((((Kra13a.out.other (LK.out) 0 (.int .i64 RR.1.term)).other (LK.out) 1 (.int .i64 RR.1.vote)).other (LK.out) 2 (.int .i64 RR.1.base)).other (LK.out) 3 (.int .i64 RR.1.bterm)).other (LK.out) 4 (.slice E1 em ec))
        have hJ := (((((Jra13a.out.other (LJ.out) 0 (.int .i64 RR.1.term)).other (LJ.out) 1 (.int .i64 RR.1.vote)).other (LJ.out) 2 (.int .i64 RR.1.base)).other (LJ.out) 3 (.int .i64 RR.1.bterm)).other (LJ.out) 4 (.slice E1 em ec))
        clear r0 r1 r2 r3 r4 g0 g1 g2 g3 g4 NE
        clear Bra13a Kra13a Jra13a zra13a
        clear Ara13a
        generalize (((((ra13a.setCell ⟨pz, 0, none⟩ (.int .i64 RR.1.term)).setCell ⟨pz, 1, none⟩ (.int .i64 RR.1.vote)).setCell ⟨pz, 2, none⟩ (.int .i64 RR.1.base)).setCell ⟨pz, 3, none⟩ (.int .i64 RR.1.bterm)).setCell ⟨pz, 4, none⟩ (.slice E1 em ec)) = w6 at *
        have Bw6 : Hid (Below w.heap.size w w6) := hB
        have Kw6 : Hid (Blk w6 w.heap.size #[.int .i64 x.term, .int .i64 x.vote, .int .i64 x.base, .int .i64 x.bterm, u] 49) := hK
        have Jw6 : Hid (Blk w6 (w.heap.size + 1) #[.int .i64 r.kind, .int .i64 r.term, .int .i64 r.index, .int .i64 r.vote, .string r.data] 40) := hJ
        have Zw6 : Hid (Blk w6 pz #[.int .i64 RR.1.term, .int .i64 RR.1.vote, .int .i64 RR.1.base, .int .i64 RR.1.bterm, .slice E1 em ec] 26) := hz
        have Aw6 : Hid (Owns w6 bq 76 2 (.slice E1 em ec) (entR RR.1.ents)) := hoa
        clear hz hoa hB hK hJ LB LK LJ
        refine hK.out _ _ (fun _ _ => ⟨Kw6.out.cell 0 _ rfl, Kw6.out.cell 1 _ rfl, Kw6.out.cell 2 _ rfl, Kw6.out.cell 3 _ rfl, Kw6.out.cell 4 _ rfl, Jw6.out.cell 0 _ rfl, Jw6.out.cell 1 _ rfl, Jw6.out.cell 2 _ rfl, Jw6.out.cell 3 _ rfl, Jw6.out.cell 4 _ rfl⟩) ?_
        clear hK K S0
        try simp only [Act.put, List.setIfInBounds_toArray, List.set_cons_zero, List.set_cons_succ]
        refine until_pure 10 (v := ?_) (by rfl) (by kernel_rfl) (by exact fun _ _ _ h => h) (by rfl) ?_ ?_
        rotate_left
        · intro w
          go_simp
          try with_reducible rfl
        try simp only [Act.put, List.setIfInBounds_toArray, List.set_cons_zero, List.set_cons_succ]
        refine until_done (by kernel_rfl) ?_ _
  all_goals
    have TV6 : Hid (WalV w6 w6.heap.size (.agg #[.int .i64 RR.1.term, .int .i64 RR.1.vote, .int .i64 RR.1.base, .int .i64 RR.1.bterm, .slice E1 em ec]) RR.1) := ⟨_, rfl, Aw6.out.lies⟩
    clear Aw6
    generalize pz = p6 at *
    have Sw6 : Hid (Blk w6 p6 #[.int .i64 RR.1.term, .int .i64 RR.1.vote, .int .i64 RR.1.base, .int .i64 RR.1.bterm, .slice E1 em ec] 26) := Zw6.out
    have LS6 : Hid (p6 < w6.heap.size) := Zw6.out.lt
    have LK6 : Hid (w.heap.size < w6.heap.size) := Kw6.out.lt
    have LJ6 : Hid (w.heap.size + 1 < w6.heap.size) := Jw6.out.lt
    have Cw6 : Hid (Below w6.heap.size w6 w6) := Below.refl _ _
    clear Zw6
    have y0 := Kw6.out.cell 0 (.int .i64 x.term) rfl
    have y1 := Kw6.out.cell 1 (.int .i64 x.vote) rfl
    have y2 := Kw6.out.cell 2 (.int .i64 x.base) rfl
    have y3 := Kw6.out.cell 3 (.int .i64 x.bterm) rfl
    have y4 := Kw6.out.cell 4 (u) rfl
    go_wp2_with fail
    refine (cT w6 (HV.out.on Bw6.out) Bw6.out.size).mono ?_
    rintro e w7 ⟨x1, rfl, hO7, hb7⟩
    have Bw7 : Hid (Below w.heap.size w w7) := Bw6.out.trans (hb7.mono Bw6.out.size)
    have Cw7 : Hid (Below w6.heap.size w6 w7) := Cw6.out.trans (hb7.mono Cw6.out.size)
    have Kw7 : Hid (Blk w7 w.heap.size #[.int .i64 x.term, .int .i64 x.vote, .int .i64 x.base, .int .i64 x.bterm, u] 49) := Kw6.out.on hb7 Kw6.out.lt
    have Jw7 : Hid (Blk w7 (w.heap.size + 1) #[.int .i64 r.kind, .int .i64 r.term, .int .i64 r.index, .int .i64 r.vote, .string r.data] 40) := Jw6.out.on hb7 Jw6.out.lt
    have Sw7 : Hid (Blk w7 p6 #[.int .i64 RR.1.term, .int .i64 RR.1.vote, .int .i64 RR.1.base, .int .i64 RR.1.bterm, .slice E1 em ec] 26) := Sw6.out.on hb7 Sw6.out.lt
    obtain ⟨s1, rfl, q1⟩ := hO7
    obtain ⟨A1, m1, c1, rfl⟩ := q1.shape
    have Ow7 : Hid (Owns w7 w6.heap.size 76 2 (.slice A1 m1 c1) (entR x.ents)) := q1
    clear hb7 q1 y0 y1 y2 y3 y4 Bw6 Kw6 Jw6 Sw6 Cw6
    go_wp2_with fail
    have kx := Blk.new w7 #[.int .i64 x.term, .int .i64 x.vote, .int .i64 x.base, .int .i64 x.bterm, .slice A1 m1 c1] 26
    have bx : Below w7.heap.size w7 (w7.alloc (.cells #[.int .i64 x.term, .int .i64 x.vote, .int .i64 x.base, .int .i64 x.bterm, .slice A1 m1 c1] 26)) := (Below.refl _ _).alloc (Nat.le_refl _) _
    generalize w7.alloc (.cells #[.int .i64 x.term, .int .i64 x.vote, .int .i64 x.base, .int .i64 x.bterm, .slice A1 m1 c1] 26) = w8 at *
    have Bw8 : Hid (Below w.heap.size w w8) := Bw7.out.trans (bx.mono Bw7.out.size)
    have Cw8 : Hid (Below w6.heap.size w6 w8) := Cw7.out.trans (bx.mono Cw7.out.size)
    have Kw8 : Hid (Blk w8 w.heap.size #[.int .i64 x.term, .int .i64 x.vote, .int .i64 x.base, .int .i64 x.bterm, u] 49) := Kw7.out.on bx Kw7.out.lt
    have Jw8 : Hid (Blk w8 (w.heap.size + 1) #[.int .i64 r.kind, .int .i64 r.term, .int .i64 r.index, .int .i64 r.vote, .string r.data] 40) := Jw7.out.on bx Jw7.out.lt
    have Sw8 : Hid (Blk w8 p6 #[.int .i64 RR.1.term, .int .i64 RR.1.vote, .int .i64 RR.1.base, .int .i64 RR.1.bterm, .slice E1 em ec] 26) := Sw7.out.on bx Sw7.out.lt
    have Ow8 : Hid (Owns w8 w6.heap.size 76 2 (.slice A1 m1 c1) (entR x.ents)) := Ow7.out.on bx
    generalize w7.heap.size = px at *
    have Xw8 : Hid (Blk w8 px #[.int .i64 x.term, .int .i64 x.vote, .int .i64 x.base, .int .i64 x.bterm, .slice A1 m1 c1] 26) := kx
    clear kx bx Bw7 Cw7 Kw7 Jw7 Sw7 Ow7
    have S0 : Hid (w8.drew.cell? ⟨px, 0, none⟩ = some (.int .i64 x.term) ∧ w8.drew.cell? ⟨px, 1, none⟩ = some (.int .i64 x.vote) ∧ w8.drew.cell? ⟨px, 2, none⟩ = some (.int .i64 x.base) ∧ w8.drew.cell? ⟨px, 3, none⟩ = some (.int .i64 x.bterm) ∧ w8.drew.cell? ⟨px, 4, none⟩ = some (.slice A1 m1 c1) ∧ w8.drew.cell? ⟨w.heap.size + 1, 0, none⟩ = some (.int .i64 r.kind) ∧ w8.drew.cell? ⟨w.heap.size + 1, 1, none⟩ = some (.int .i64 r.term) ∧ w8.drew.cell? ⟨w.heap.size + 1, 2, none⟩ = some (.int .i64 r.index) ∧ w8.drew.cell? ⟨w.heap.size + 1, 3, none⟩ = some (.int .i64 r.vote) ∧ w8.drew.cell? ⟨w.heap.size + 1, 4, none⟩ = some (.string r.data)) := ⟨Xw8.out.cell 0 _ rfl, Xw8.out.cell 1 _ rfl, Xw8.out.cell 2 _ rfl, Xw8.out.cell 3 _ rfl, Xw8.out.cell 4 _ rfl, Jw8.out.cell 0 _ rfl, Jw8.out.cell 1 _ rfl, Jw8.out.cell 2 _ rfl, Jw8.out.cell 3 _ rfl, Jw8.out.cell 4 _ rfl⟩
    go_wp2_with fail
    refine wp_region_until (fun w' => w'.cell? ⟨px, 0, none⟩ = some (.int .i64 x.term) ∧ w'.cell? ⟨px, 1, none⟩ = some (.int .i64 x.vote) ∧ w'.cell? ⟨px, 2, none⟩ = some (.int .i64 x.base) ∧ w'.cell? ⟨px, 3, none⟩ = some (.int .i64 x.bterm) ∧ w'.cell? ⟨px, 4, none⟩ = some (.slice A1 m1 c1) ∧ w'.cell? ⟨w.heap.size + 1, 0, none⟩ = some (.int .i64 r.kind) ∧ w'.cell? ⟨w.heap.size + 1, 1, none⟩ = some (.int .i64 r.term) ∧ w'.cell? ⟨w.heap.size + 1, 2, none⟩ = some (.int .i64 r.index) ∧ w'.cell? ⟨w.heap.size + 1, 3, none⟩ = some (.int .i64 r.vote) ∧ w'.cell? ⟨w.heap.size + 1, 4, none⟩ = some (.string r.data)) (fun i => false) 10 (by rfl) (by kernel_rfl) ?_
    have BrbX : Hid (Below w.heap.size w w8.drew) := Bw8.out.drew
    have CrbX : Hid (Below w6.heap.size w6 w8.drew) := Cw8.out.drew
    have KrbX : Hid (Blk w8.drew w.heap.size #[.int .i64 x.term, .int .i64 x.vote, .int .i64 x.base, .int .i64 x.bterm, u] 49) := Kw8.out
    have JrbX : Hid (Blk w8.drew (w.heap.size + 1) #[.int .i64 r.kind, .int .i64 r.term, .int .i64 r.index, .int .i64 r.vote, .string r.data] 40) := Jw8.out
    have SrbX : Hid (Blk w8.drew p6 #[.int .i64 RR.1.term, .int .i64 RR.1.vote, .int .i64 RR.1.base, .int .i64 RR.1.bterm, .slice E1 em ec] 26) := Sw8.out
    have OrbX : Hid (Owns w8.drew w6.heap.size 76 2 (.slice A1 m1 c1) (entR x.ents)) := Ow8.out
    have XrbX : Hid (Blk w8.drew px #[.int .i64 x.term, .int .i64 x.vote, .int .i64 x.base, .int .i64 x.bterm, .slice A1 m1 c1] 26) := Xw8.out
    clear Bw8 Cw8 Kw8 Jw8 Sw8 Ow8 Xw8
    generalize w8.drew = rbX at *
    refine until_take 0 (v := ?_) (by rfl) (by kernel_rfl) (by exact fun _ _ _ h => h) (by rfl) ?_ S0.out ?_
    rotate_left
    · intro w hSw
      try dsimp only at hSw
      go_simp
      try with_reducible rfl
    try simp only [Act.put, List.setIfInBounds_toArray, List.set_cons_zero, List.set_cons_succ]
    refine until_take 1 (v := ?_) (by rfl) (by kernel_rfl) (by exact fun _ _ _ h => h) (by rfl) ?_ S0.out ?_
    rotate_left
    · intro w hSw
      try dsimp only at hSw
      go_simp
      try with_reducible rfl
    try simp only [Act.put, List.setIfInBounds_toArray, List.set_cons_zero, List.set_cons_succ]
    refine until_two 2 7 (by rfl) (by rfl) (by kernel_rfl) (fun K hK => ?_) (fun K hK => ?_)
    rotate_left
    focus
      go_simp
      have zk := Blk.new rbX #[.int .i64 0, .int .i64 0, .int .i64 0, .int .i64 0, .slice none 0 0] 26
      have bz : Below rbX.heap.size rbX (rbX.alloc (.cells #[.int .i64 0, .int .i64 0, .int .i64 0, .int .i64 0, .slice none 0 0] 26)) := (Below.refl _ _).alloc (Nat.le_refl _) _
      generalize rbX.alloc (.cells #[.int .i64 0, .int .i64 0, .int .i64 0, .int .i64 0, .slice none 0 0] 26) = rb14a at *
      have Brb14a : Hid (Below w.heap.size w rb14a) := BrbX.out.trans (bz.mono BrbX.out.size)
      have Crb14a : Hid (Below w6.heap.size w6 rb14a) := CrbX.out.trans (bz.mono CrbX.out.size)
      have Krb14a : Hid (Blk rb14a w.heap.size #[.int .i64 x.term, .int .i64 x.vote, .int .i64 x.base, .int .i64 x.bterm, u] 49) := KrbX.out.on bz KrbX.out.lt
      have Jrb14a : Hid (Blk rb14a (w.heap.size + 1) #[.int .i64 r.kind, .int .i64 r.term, .int .i64 r.index, .int .i64 r.vote, .string r.data] 40) := JrbX.out.on bz JrbX.out.lt
      have Srb14a : Hid (Blk rb14a p6 #[.int .i64 RR.1.term, .int .i64 RR.1.vote, .int .i64 RR.1.base, .int .i64 RR.1.bterm, .slice E1 em ec] 26) := SrbX.out.on bz SrbX.out.lt
      have Orb14a : Hid (Owns rb14a w6.heap.size 76 2 (.slice A1 m1 c1) (entR x.ents)) := OrbX.out.on bz
      have Xrb14a : Hid (Blk rb14a px #[.int .i64 x.term, .int .i64 x.vote, .int .i64 x.base, .int .i64 x.bterm, .slice A1 m1 c1] 26) := XrbX.out.on bz XrbX.out.lt
      have LB : Hid (w.heap.size ≤ rbX.heap.size) := BrbX.out.size
      have LC : Hid (w6.heap.size ≤ rbX.heap.size) := CrbX.out.size
      have LK : Hid (w.heap.size ≠ rbX.heap.size) := Nat.ne_of_lt KrbX.out.lt
      have LJ : Hid ((w.heap.size + 1) ≠ rbX.heap.size) := Nat.ne_of_lt JrbX.out.lt
      have LS : Hid (p6 ≠ rbX.heap.size) := Nat.ne_of_lt SrbX.out.lt
      have LX : Hid (px ≠ rbX.heap.size) := Nat.ne_of_lt XrbX.out.lt
      have zX : Hid (Blk rb14a rbX.heap.size #[.int .i64 0, .int .i64 0, .int .i64 0, .int .i64 0, .slice none 0 0] 26) := zk
      clear zk bz
      clear BrbX CrbX KrbX JrbX SrbX OrbX XrbX
      generalize rbX.heap.size = pz at *
      have zrb14a : Hid (Blk rb14a pz #[.int .i64 0, .int .i64 0, .int .i64 0, .int .i64 0, .slice none 0 0] 26) := zX.out
      clear zX
      refine hK.out _ _ (fun _ _ => ⟨Xrb14a.out.cell 0 _ rfl, Xrb14a.out.cell 1 _ rfl, Xrb14a.out.cell 2 _ rfl, Xrb14a.out.cell 3 _ rfl, Xrb14a.out.cell 4 _ rfl, Jrb14a.out.cell 0 _ rfl, Jrb14a.out.cell 1 _ rfl, Jrb14a.out.cell 2 _ rfl, Jrb14a.out.cell 3 _ rfl, Jrb14a.out.cell 4 _ rfl⟩) ?_
      clear hK K
      try simp only [Act.put, List.setIfInBounds_toArray, List.set_cons_zero, List.set_cons_succ]
      refine until_one 2 (by rfl) (by kernel_rfl) (fun K hK => ?_)
      go_simp
      refine (cTR rb14a).mono ?_
      rintro e rb15c ⟨rfl, hba⟩
      have Brb15c : Hid (Below w.heap.size w rb15c) := Brb14a.out.trans (hba.mono Brb14a.out.size)
      have Crb15c : Hid (Below w6.heap.size w6 rb15c) := Crb14a.out.trans (hba.mono Crb14a.out.size)
      have Krb15c : Hid (Blk rb15c w.heap.size #[.int .i64 x.term, .int .i64 x.vote, .int .i64 x.base, .int .i64 x.bterm, u] 49) := Krb14a.out.on hba Krb14a.out.lt
      have Jrb15c : Hid (Blk rb15c (w.heap.size + 1) #[.int .i64 r.kind, .int .i64 r.term, .int .i64 r.index, .int .i64 r.vote, .string r.data] 40) := Jrb14a.out.on hba Jrb14a.out.lt
      have Srb15c : Hid (Blk rb15c p6 #[.int .i64 RR.1.term, .int .i64 RR.1.vote, .int .i64 RR.1.base, .int .i64 RR.1.bterm, .slice E1 em ec] 26) := Srb14a.out.on hba Srb14a.out.lt
      have Orb15c : Hid (Owns rb15c w6.heap.size 76 2 (.slice A1 m1 c1) (entR x.ents)) := Orb14a.out.on hba
      have Xrb15c : Hid (Blk rb15c px #[.int .i64 x.term, .int .i64 x.vote, .int .i64 x.base, .int .i64 x.bterm, .slice A1 m1 c1] 26) := Xrb14a.out.on hba Xrb14a.out.lt
      have zrb15c : Hid (Blk rb15c pz #[.int .i64 0, .int .i64 0, .int .i64 0, .int .i64 0, .slice none 0 0] 26) := zrb14a.out.on hba zrb14a.out.lt
      clear hba
      clear Brb14a Crb14a Krb14a Jrb14a Srb14a Orb14a Xrb14a zrb14a
      go_wp2_with fail
      refine hK.out _ _ (fun _ _ => ⟨Xrb15c.out.cell 0 _ rfl, Xrb15c.out.cell 1 _ rfl, Xrb15c.out.cell 2 _ rfl, Xrb15c.out.cell 3 _ rfl, Xrb15c.out.cell 4 _ rfl, Jrb15c.out.cell 0 _ rfl, Jrb15c.out.cell 1 _ rfl, Jrb15c.out.cell 2 _ rfl, Jrb15c.out.cell 3 _ rfl, Jrb15c.out.cell 4 _ rfl⟩) ?_
      clear hK K
      try simp only [Act.put, List.setIfInBounds_toArray, List.set_cons_zero, List.set_cons_succ]
      refine until_one 3 (by rfl) (by kernel_rfl) (fun K hK => ?_)
      go_simp
      refine (cG rb15c (.agg #[.int .i64 x.term, .int .i64 x.vote, .int .i64 x.base, .int .i64 x.bterm, .slice A1 m1 c1]) ⟨_, rfl, Orb15c.out.lies⟩).mono ?_
      rintro e rb16c ⟨x6, b6', rfl, ⟨hO3, hbb⟩, hba⟩
      subst hbb
      have Brb16c : Hid (Below w.heap.size w rb16c) := Brb15c.out.trans (hba.mono Brb15c.out.size)
      have Crb16c : Hid (Below w6.heap.size w6 rb16c) := Crb15c.out.trans (hba.mono Crb15c.out.size)
      have Krb16c : Hid (Blk rb16c w.heap.size #[.int .i64 x.term, .int .i64 x.vote, .int .i64 x.base, .int .i64 x.bterm, u] 49) := Krb15c.out.on hba Krb15c.out.lt
      have Jrb16c : Hid (Blk rb16c (w.heap.size + 1) #[.int .i64 r.kind, .int .i64 r.term, .int .i64 r.index, .int .i64 r.vote, .string r.data] 40) := Jrb15c.out.on hba Jrb15c.out.lt
      have Srb16c : Hid (Blk rb16c p6 #[.int .i64 RR.1.term, .int .i64 RR.1.vote, .int .i64 RR.1.base, .int .i64 RR.1.bterm, .slice E1 em ec] 26) := Srb15c.out.on hba Srb15c.out.lt
      have Orb16c : Hid (Owns rb16c w6.heap.size 76 2 (.slice A1 m1 c1) (entR x.ents)) := Orb15c.out.on hba
      have Xrb16c : Hid (Blk rb16c px #[.int .i64 x.term, .int .i64 x.vote, .int .i64 x.base, .int .i64 x.bterm, .slice A1 m1 c1] 26) := Xrb15c.out.on hba Xrb15c.out.lt
      have zrb16c : Hid (Blk rb16c pz #[.int .i64 0, .int .i64 0, .int .i64 0, .int .i64 0, .slice none 0 0] 26) := zrb15c.out.on hba zrb15c.out.lt
      obtain ⟨s1, rfl, a1⟩ := hO3
      obtain ⟨G1, gm, gc, rfl⟩ := a1.shape
      have AX : Hid (Owns rb16c rb15c.heap.size 76 2 (.slice G1 gm gc) (entR RR.1.ents)) := a1
      have BQ1 : Hid (w6.heap.size ≤ rb15c.heap.size) := Crb15c.out.size
      have BQ3 : Hid (rb15c.heap.size ≤ rb16c.heap.size) := hba.size
      have BQ2 : Hid (∀ g, (Value.slice A1 m1 c1).ownBlock = some g → g < rb15c.heap.size) := fun g hg => (Orb15c.out.lt g hg).2
      clear hba a1
      clear Brb15c Crb15c Krb15c Jrb15c Srb15c Orb15c Xrb15c zrb15c
      generalize rb15c.heap.size = bq at *
      have Arb16c : Hid (Owns rb16c bq 76 2 (.slice G1 gm gc) (entR RR.1.ents)) := AX.out
      clear AX
      go_wp2_with fail
      refine hK.out _ _ (fun _ _ => ⟨Xrb16c.out.cell 0 _ rfl, Xrb16c.out.cell 1 _ rfl, Xrb16c.out.cell 2 _ rfl, Xrb16c.out.cell 3 _ rfl, Xrb16c.out.cell 4 _ rfl, Jrb16c.out.cell 0 _ rfl, Jrb16c.out.cell 1 _ rfl, Jrb16c.out.cell 2 _ rfl, Jrb16c.out.cell 3 _ rfl, Jrb16c.out.cell 4 _ rfl⟩) ?_
      clear hK K
      try simp only [Act.put, List.setIfInBounds_toArray, List.set_cons_zero, List.set_cons_succ]
      refine until_pure 4 (v := ?_) (by rfl) (by kernel_rfl) (by exact fun _ _ _ h => h) (by rfl) ?_ ?_
      rotate_left
      · intro w
        go_simp
        try with_reducible rfl
      try simp only [Act.put, List.setIfInBounds_toArray, List.set_cons_zero, List.set_cons_succ]
      refine until_pure 5 (v := ?_) (by rfl) (by kernel_rfl) (by exact fun _ _ _ h => h) (by rfl) ?_ ?_
      rotate_left
      · intro w
        go_simp
        try with_reducible rfl
      try simp only [Act.put, List.setIfInBounds_toArray, List.set_cons_zero, List.set_cons_succ]
      refine until_pure 6 (v := ?_) (by rfl) (by kernel_rfl) (by exact fun _ _ _ h => h) (by rfl) ?_ ?_
      rotate_left
      · intro w
        go_simp
        try with_reducible rfl
      try simp only [Act.put, List.setIfInBounds_toArray, List.set_cons_zero, List.set_cons_succ]
      refine until_one 8 (by rfl) (by kernel_rfl) (fun K hK => ?_)
      have r0 := zrb16c.out.cell 0 (.int .i64 0) rfl
      have g0 := zrb16c.out.free 0
      have r1 := zrb16c.out.cell 1 (.int .i64 0) rfl
      have g1 := zrb16c.out.free 1
      have r2 := zrb16c.out.cell 2 (.int .i64 0) rfl
      have g2 := zrb16c.out.free 2
      have r3 := zrb16c.out.cell 3 (.int .i64 0) rfl
      have g3 := zrb16c.out.free 3
      have r4 := zrb16c.out.cell 4 (.slice none 0 0) rfl
      have g4 := zrb16c.out.free 4
      go_simp
      have NE : Hid ((Value.slice G1 gm gc).ownBlock ≠ some pz) := Arb16c.out.notBlk zrb16c.out (by decide)
      have LO : Hid ((Value.slice A1 m1 c1).ownBlock ≠ some pz) := Orb16c.out.notBlk zrb16c.out (by decide)
      have hz := (((((zrb16c.out.set 0 (.int .i64 RR.1.term)).set 1 (.int .i64 RR.1.vote)).set 2 (.int .i64 RR.1.base)).set 3 (.int .i64 RR.1.bterm)).set 4 (.slice G1 gm gc))
      have hoa := (((((Arb16c.out.other NE.out 0 (.int .i64 RR.1.term)).other NE.out 1 (.int .i64 RR.1.vote)).other NE.out 2 (.int .i64 RR.1.base)).other NE.out 3 (.int .i64 RR.1.bterm)).other NE.out 4 (.slice G1 gm gc))
      have hB := (((((Brb16c.out.setCell LB.out (.int .i64 RR.1.term) (p := ⟨pz, 0, none⟩)).setCell LB.out (.int .i64 RR.1.vote) (p := ⟨pz, 1, none⟩)).setCell LB.out (.int .i64 RR.1.base) (p := ⟨pz, 2, none⟩)).setCell LB.out (.int .i64 RR.1.bterm) (p := ⟨pz, 3, none⟩)).setCell LB.out (.slice G1 gm gc) (p := ⟨pz, 4, none⟩))
      have hC := (((((Crb16c.out.setCell LC.out (.int .i64 RR.1.term) (p := ⟨pz, 0, none⟩)).setCell LC.out (.int .i64 RR.1.vote) (p := ⟨pz, 1, none⟩)).setCell LC.out (.int .i64 RR.1.base) (p := ⟨pz, 2, none⟩)).setCell LC.out (.int .i64 RR.1.bterm) (p := ⟨pz, 3, none⟩)).setCell LC.out (.slice G1 gm gc) (p := ⟨pz, 4, none⟩))
      have hK := (((((Krb16c.out.other (LK.out) 0 (.int .i64 RR.1.term)).other (LK.out) 1 (.int .i64 RR.1.vote)).other (LK.out) 2 (.int .i64 RR.1.base)).other (LK.out) 3 (.int .i64 RR.1.bterm)).other (LK.out) 4 (.slice G1 gm gc))
      have hJ := (((((Jrb16c.out.other (LJ.out) 0 (.int .i64 RR.1.term)).other (LJ.out) 1 (.int .i64 RR.1.vote)).other (LJ.out) 2 (.int .i64 RR.1.base)).other (LJ.out) 3 (.int .i64 RR.1.bterm)).other (LJ.out) 4 (.slice G1 gm gc))
      have hS := (((((Srb16c.out.other (LS.out) 0 (.int .i64 RR.1.term)).other (LS.out) 1 (.int .i64 RR.1.vote)).other (LS.out) 2 (.int .i64 RR.1.base)).other (LS.out) 3 (.int .i64 RR.1.bterm)).other (LS.out) 4 (.slice G1 gm gc))
      have hO := (((((Orb16c.out.other LO.out 0 (.int .i64 RR.1.term)).other LO.out 1 (.int .i64 RR.1.vote)).other LO.out 2 (.int .i64 RR.1.base)).other LO.out 3 (.int .i64 RR.1.bterm)).other LO.out 4 (.slice G1 gm gc))
      have hX := (((((Xrb16c.out.other (LX.out) 0 (.int .i64 RR.1.term)).other (LX.out) 1 (.int .i64 RR.1.vote)).other (LX.out) 2 (.int .i64 RR.1.base)).other (LX.out) 3 (.int .i64 RR.1.bterm)).other (LX.out) 4 (.slice G1 gm gc))
      clear r0 r1 r2 r3 r4 g0 g1 g2 g3 g4 NE
      clear Brb16c Crb16c Krb16c Jrb16c Srb16c Orb16c Xrb16c zrb16c
      clear Arb16c
      generalize (((((rb16c.setCell ⟨pz, 0, none⟩ (.int .i64 RR.1.term)).setCell ⟨pz, 1, none⟩ (.int .i64 RR.1.vote)).setCell ⟨pz, 2, none⟩ (.int .i64 RR.1.base)).setCell ⟨pz, 3, none⟩ (.int .i64 RR.1.bterm)).setCell ⟨pz, 4, none⟩ (.slice G1 gm gc)) = wb at *
      have Bwb : Hid (Below w.heap.size w wb) := hB
      have Cwb : Hid (Below w6.heap.size w6 wb) := hC
      have Kwb : Hid (Blk wb w.heap.size #[.int .i64 x.term, .int .i64 x.vote, .int .i64 x.base, .int .i64 x.bterm, u] 49) := hK
      have Jwb : Hid (Blk wb (w.heap.size + 1) #[.int .i64 r.kind, .int .i64 r.term, .int .i64 r.index, .int .i64 r.vote, .string r.data] 40) := hJ
      have Swb : Hid (Blk wb p6 #[.int .i64 RR.1.term, .int .i64 RR.1.vote, .int .i64 RR.1.base, .int .i64 RR.1.bterm, .slice E1 em ec] 26) := hS
      have Owb : Hid (Owns wb w6.heap.size 76 2 (.slice A1 m1 c1) (entR x.ents)) := hO
      have Xwb : Hid (Blk wb px #[.int .i64 x.term, .int .i64 x.vote, .int .i64 x.base, .int .i64 x.bterm, .slice A1 m1 c1] 26) := hX
      have Zwb : Hid (Blk wb pz #[.int .i64 RR.1.term, .int .i64 RR.1.vote, .int .i64 RR.1.base, .int .i64 RR.1.bterm, .slice G1 gm gc] 26) := hz
      have Awb : Hid (Owns wb bq 76 2 (.slice G1 gm gc) (entR RR.1.ents)) := hoa
      clear hz hoa hB hC hK hJ hS hO hX LB LC LK LJ LS LO LX
      refine hK.out _ _ (fun _ _ => ⟨Xwb.out.cell 0 _ rfl, Xwb.out.cell 1 _ rfl, Xwb.out.cell 2 _ rfl, Xwb.out.cell 3 _ rfl, Xwb.out.cell 4 _ rfl, Jwb.out.cell 0 _ rfl, Jwb.out.cell 1 _ rfl, Jwb.out.cell 2 _ rfl, Jwb.out.cell 3 _ rfl, Jwb.out.cell 4 _ rfl⟩) ?_
      clear hK K S0
      try simp only [Act.put, List.setIfInBounds_toArray, List.set_cons_zero, List.set_cons_succ]
      refine until_pure 9 (v := ?_) (by rfl) (by kernel_rfl) (by exact fun _ _ _ h => h) (by rfl) ?_ ?_
      rotate_left
      · intro w
        go_simp
        try with_reducible rfl
      try simp only [Act.put, List.setIfInBounds_toArray, List.set_cons_zero, List.set_cons_succ]
      refine until_done (by kernel_rfl) ?_ _
    rotate_left
    focus
      go_simp
      refine (cTR rbX).mono ?_
      rintro e rb17c ⟨rfl, hba⟩
      have Brb17c : Hid (Below w.heap.size w rb17c) := BrbX.out.trans (hba.mono BrbX.out.size)
      have Crb17c : Hid (Below w6.heap.size w6 rb17c) := CrbX.out.trans (hba.mono CrbX.out.size)
      have Krb17c : Hid (Blk rb17c w.heap.size #[.int .i64 x.term, .int .i64 x.vote, .int .i64 x.base, .int .i64 x.bterm, u] 49) := KrbX.out.on hba KrbX.out.lt
      have Jrb17c : Hid (Blk rb17c (w.heap.size + 1) #[.int .i64 r.kind, .int .i64 r.term, .int .i64 r.index, .int .i64 r.vote, .string r.data] 40) := JrbX.out.on hba JrbX.out.lt
      have Srb17c : Hid (Blk rb17c p6 #[.int .i64 RR.1.term, .int .i64 RR.1.vote, .int .i64 RR.1.base, .int .i64 RR.1.bterm, .slice E1 em ec] 26) := SrbX.out.on hba SrbX.out.lt
      have Orb17c : Hid (Owns rb17c w6.heap.size 76 2 (.slice A1 m1 c1) (entR x.ents)) := OrbX.out.on hba
      have Xrb17c : Hid (Blk rb17c px #[.int .i64 x.term, .int .i64 x.vote, .int .i64 x.base, .int .i64 x.bterm, .slice A1 m1 c1] 26) := XrbX.out.on hba XrbX.out.lt
      clear hba
      clear BrbX CrbX KrbX JrbX SrbX OrbX XrbX
      go_wp2_with fail
      refine hK.out _ _ (fun _ _ => ⟨Xrb17c.out.cell 0 _ rfl, Xrb17c.out.cell 1 _ rfl, Xrb17c.out.cell 2 _ rfl, Xrb17c.out.cell 3 _ rfl, Xrb17c.out.cell 4 _ rfl, Jrb17c.out.cell 0 _ rfl, Jrb17c.out.cell 1 _ rfl, Jrb17c.out.cell 2 _ rfl, Jrb17c.out.cell 3 _ rfl, Jrb17c.out.cell 4 _ rfl⟩) ?_
      clear hK K
      try simp only [Act.put, List.setIfInBounds_toArray, List.set_cons_zero, List.set_cons_succ]
      refine until_two 3 7 (by rfl) (by rfl) (by kernel_rfl) (fun K hK => ?_) (fun K hK => ?_)
      rotate_left
      focus
        go_simp
        have zk := Blk.new rb17c #[.int .i64 0, .int .i64 0, .int .i64 0, .int .i64 0, .slice none 0 0] 26
        have bz : Below rb17c.heap.size rb17c (rb17c.alloc (.cells #[.int .i64 0, .int .i64 0, .int .i64 0, .int .i64 0, .slice none 0 0] 26)) := (Below.refl _ _).alloc (Nat.le_refl _) _
        generalize rb17c.alloc (.cells #[.int .i64 0, .int .i64 0, .int .i64 0, .int .i64 0, .slice none 0 0] 26) = rb18a at *
        have Brb18a : Hid (Below w.heap.size w rb18a) := Brb17c.out.trans (bz.mono Brb17c.out.size)
        have Crb18a : Hid (Below w6.heap.size w6 rb18a) := Crb17c.out.trans (bz.mono Crb17c.out.size)
        have Krb18a : Hid (Blk rb18a w.heap.size #[.int .i64 x.term, .int .i64 x.vote, .int .i64 x.base, .int .i64 x.bterm, u] 49) := Krb17c.out.on bz Krb17c.out.lt
        have Jrb18a : Hid (Blk rb18a (w.heap.size + 1) #[.int .i64 r.kind, .int .i64 r.term, .int .i64 r.index, .int .i64 r.vote, .string r.data] 40) := Jrb17c.out.on bz Jrb17c.out.lt
        have Srb18a : Hid (Blk rb18a p6 #[.int .i64 RR.1.term, .int .i64 RR.1.vote, .int .i64 RR.1.base, .int .i64 RR.1.bterm, .slice E1 em ec] 26) := Srb17c.out.on bz Srb17c.out.lt
        have Orb18a : Hid (Owns rb18a w6.heap.size 76 2 (.slice A1 m1 c1) (entR x.ents)) := Orb17c.out.on bz
        have Xrb18a : Hid (Blk rb18a px #[.int .i64 x.term, .int .i64 x.vote, .int .i64 x.base, .int .i64 x.bterm, .slice A1 m1 c1] 26) := Xrb17c.out.on bz Xrb17c.out.lt
        have LB : Hid (w.heap.size ≤ rb17c.heap.size) := Brb17c.out.size
        have LC : Hid (w6.heap.size ≤ rb17c.heap.size) := Crb17c.out.size
        have LK : Hid (w.heap.size ≠ rb17c.heap.size) := Nat.ne_of_lt Krb17c.out.lt
        have LJ : Hid ((w.heap.size + 1) ≠ rb17c.heap.size) := Nat.ne_of_lt Jrb17c.out.lt
        have LS : Hid (p6 ≠ rb17c.heap.size) := Nat.ne_of_lt Srb17c.out.lt
        have LX : Hid (px ≠ rb17c.heap.size) := Nat.ne_of_lt Xrb17c.out.lt
        have zX : Hid (Blk rb18a rb17c.heap.size #[.int .i64 0, .int .i64 0, .int .i64 0, .int .i64 0, .slice none 0 0] 26) := zk
        clear zk bz
        clear Brb17c Crb17c Krb17c Jrb17c Srb17c Orb17c Xrb17c
        generalize rb17c.heap.size = pz at *
        have zrb18a : Hid (Blk rb18a pz #[.int .i64 0, .int .i64 0, .int .i64 0, .int .i64 0, .slice none 0 0] 26) := zX.out
        clear zX
        refine hK.out _ _ (fun _ _ => ⟨Xrb18a.out.cell 0 _ rfl, Xrb18a.out.cell 1 _ rfl, Xrb18a.out.cell 2 _ rfl, Xrb18a.out.cell 3 _ rfl, Xrb18a.out.cell 4 _ rfl, Jrb18a.out.cell 0 _ rfl, Jrb18a.out.cell 1 _ rfl, Jrb18a.out.cell 2 _ rfl, Jrb18a.out.cell 3 _ rfl, Jrb18a.out.cell 4 _ rfl⟩) ?_
        clear hK K
        try simp only [Act.put, List.setIfInBounds_toArray, List.set_cons_zero, List.set_cons_succ]
        refine until_one 3 (by rfl) (by kernel_rfl) (fun K hK => ?_)
        go_simp
        refine (cG rb18a (.agg #[.int .i64 x.term, .int .i64 x.vote, .int .i64 x.base, .int .i64 x.bterm, .slice A1 m1 c1]) ⟨_, rfl, Orb18a.out.lies⟩).mono ?_
        rintro e rb19c ⟨x6, b6', rfl, ⟨hO3, hbb⟩, hba⟩
        subst hbb
        have Brb19c : Hid (Below w.heap.size w rb19c) := Brb18a.out.trans (hba.mono Brb18a.out.size)
        have Crb19c : Hid (Below w6.heap.size w6 rb19c) := Crb18a.out.trans (hba.mono Crb18a.out.size)
        have Krb19c : Hid (Blk rb19c w.heap.size #[.int .i64 x.term, .int .i64 x.vote, .int .i64 x.base, .int .i64 x.bterm, u] 49) := Krb18a.out.on hba Krb18a.out.lt
        have Jrb19c : Hid (Blk rb19c (w.heap.size + 1) #[.int .i64 r.kind, .int .i64 r.term, .int .i64 r.index, .int .i64 r.vote, .string r.data] 40) := Jrb18a.out.on hba Jrb18a.out.lt
        have Srb19c : Hid (Blk rb19c p6 #[.int .i64 RR.1.term, .int .i64 RR.1.vote, .int .i64 RR.1.base, .int .i64 RR.1.bterm, .slice E1 em ec] 26) := Srb18a.out.on hba Srb18a.out.lt
        have Orb19c : Hid (Owns rb19c w6.heap.size 76 2 (.slice A1 m1 c1) (entR x.ents)) := Orb18a.out.on hba
        have Xrb19c : Hid (Blk rb19c px #[.int .i64 x.term, .int .i64 x.vote, .int .i64 x.base, .int .i64 x.bterm, .slice A1 m1 c1] 26) := Xrb18a.out.on hba Xrb18a.out.lt
        have zrb19c : Hid (Blk rb19c pz #[.int .i64 0, .int .i64 0, .int .i64 0, .int .i64 0, .slice none 0 0] 26) := zrb18a.out.on hba zrb18a.out.lt
        obtain ⟨s1, rfl, a1⟩ := hO3
        obtain ⟨G1, gm, gc, rfl⟩ := a1.shape
        have AX : Hid (Owns rb19c rb18a.heap.size 76 2 (.slice G1 gm gc) (entR RR.1.ents)) := a1
        have BQ1 : Hid (w6.heap.size ≤ rb18a.heap.size) := Crb18a.out.size
        have BQ3 : Hid (rb18a.heap.size ≤ rb19c.heap.size) := hba.size
        have BQ2 : Hid (∀ g, (Value.slice A1 m1 c1).ownBlock = some g → g < rb18a.heap.size) := fun g hg => (Orb18a.out.lt g hg).2
        clear hba a1
        clear Brb18a Crb18a Krb18a Jrb18a Srb18a Orb18a Xrb18a zrb18a
        generalize rb18a.heap.size = bq at *
        have Arb19c : Hid (Owns rb19c bq 76 2 (.slice G1 gm gc) (entR RR.1.ents)) := AX.out
        clear AX
        go_wp2_with fail
        refine hK.out _ _ (fun _ _ => ⟨Xrb19c.out.cell 0 _ rfl, Xrb19c.out.cell 1 _ rfl, Xrb19c.out.cell 2 _ rfl, Xrb19c.out.cell 3 _ rfl, Xrb19c.out.cell 4 _ rfl, Jrb19c.out.cell 0 _ rfl, Jrb19c.out.cell 1 _ rfl, Jrb19c.out.cell 2 _ rfl, Jrb19c.out.cell 3 _ rfl, Jrb19c.out.cell 4 _ rfl⟩) ?_
        clear hK K
        try simp only [Act.put, List.setIfInBounds_toArray, List.set_cons_zero, List.set_cons_succ]
        refine until_pure 4 (v := ?_) (by rfl) (by kernel_rfl) (by exact fun _ _ _ h => h) (by rfl) ?_ ?_
        rotate_left
        · intro w
          go_simp
          try with_reducible rfl
        try simp only [Act.put, List.setIfInBounds_toArray, List.set_cons_zero, List.set_cons_succ]
        refine until_pure 5 (v := ?_) (by rfl) (by kernel_rfl) (by exact fun _ _ _ h => h) (by rfl) ?_ ?_
        rotate_left
        · intro w
          go_simp
          try with_reducible rfl
        try simp only [Act.put, List.setIfInBounds_toArray, List.set_cons_zero, List.set_cons_succ]
        refine until_pure 6 (v := ?_) (by rfl) (by kernel_rfl) (by exact fun _ _ _ h => h) (by rfl) ?_ ?_
        rotate_left
        · intro w
          go_simp
          try with_reducible rfl
        try simp only [Act.put, List.setIfInBounds_toArray, List.set_cons_zero, List.set_cons_succ]
        refine until_one 8 (by rfl) (by kernel_rfl) (fun K hK => ?_)
        have r0 := zrb19c.out.cell 0 (.int .i64 0) rfl
        have g0 := zrb19c.out.free 0
        have r1 := zrb19c.out.cell 1 (.int .i64 0) rfl
        have g1 := zrb19c.out.free 1
        have r2 := zrb19c.out.cell 2 (.int .i64 0) rfl
        have g2 := zrb19c.out.free 2
        have r3 := zrb19c.out.cell 3 (.int .i64 0) rfl
        have g3 := zrb19c.out.free 3
        have r4 := zrb19c.out.cell 4 (.slice none 0 0) rfl
        have g4 := zrb19c.out.free 4
        go_simp
        have NE : Hid ((Value.slice G1 gm gc).ownBlock ≠ some pz) := Arb19c.out.notBlk zrb19c.out (by decide)
        have LO : Hid ((Value.slice A1 m1 c1).ownBlock ≠ some pz) := Orb19c.out.notBlk zrb19c.out (by decide)
        have hz := (((((zrb19c.out.set 0 (.int .i64 RR.1.term)).set 1 (.int .i64 RR.1.vote)).set 2 (.int .i64 RR.1.base)).set 3 (.int .i64 RR.1.bterm)).set 4 (.slice G1 gm gc))
        have hoa := (((((Arb19c.out.other NE.out 0 (.int .i64 RR.1.term)).other NE.out 1 (.int .i64 RR.1.vote)).other NE.out 2 (.int .i64 RR.1.base)).other NE.out 3 (.int .i64 RR.1.bterm)).other NE.out 4 (.slice G1 gm gc))
        have hB := (((((Brb19c.out.setCell LB.out (.int .i64 RR.1.term) (p := ⟨pz, 0, none⟩)).setCell LB.out (.int .i64 RR.1.vote) (p := ⟨pz, 1, none⟩)).setCell LB.out (.int .i64 RR.1.base) (p := ⟨pz, 2, none⟩)).setCell LB.out (.int .i64 RR.1.bterm) (p := ⟨pz, 3, none⟩)).setCell LB.out (.slice G1 gm gc) (p := ⟨pz, 4, none⟩))
        have hC := (((((Crb19c.out.setCell LC.out (.int .i64 RR.1.term) (p := ⟨pz, 0, none⟩)).setCell LC.out (.int .i64 RR.1.vote) (p := ⟨pz, 1, none⟩)).setCell LC.out (.int .i64 RR.1.base) (p := ⟨pz, 2, none⟩)).setCell LC.out (.int .i64 RR.1.bterm) (p := ⟨pz, 3, none⟩)).setCell LC.out (.slice G1 gm gc) (p := ⟨pz, 4, none⟩))
        have hK := (((((Krb19c.out.other (LK.out) 0 (.int .i64 RR.1.term)).other (LK.out) 1 (.int .i64 RR.1.vote)).other (LK.out) 2 (.int .i64 RR.1.base)).other (LK.out) 3 (.int .i64 RR.1.bterm)).other (LK.out) 4 (.slice G1 gm gc))
        have hJ := (((((Jrb19c.out.other (LJ.out) 0 (.int .i64 RR.1.term)).other (LJ.out) 1 (.int .i64 RR.1.vote)).other (LJ.out) 2 (.int .i64 RR.1.base)).other (LJ.out) 3 (.int .i64 RR.1.bterm)).other (LJ.out) 4 (.slice G1 gm gc))
        have hS := (((((Srb19c.out.other (LS.out) 0 (.int .i64 RR.1.term)).other (LS.out) 1 (.int .i64 RR.1.vote)).other (LS.out) 2 (.int .i64 RR.1.base)).other (LS.out) 3 (.int .i64 RR.1.bterm)).other (LS.out) 4 (.slice G1 gm gc))
        have hO := (((((Orb19c.out.other LO.out 0 (.int .i64 RR.1.term)).other LO.out 1 (.int .i64 RR.1.vote)).other LO.out 2 (.int .i64 RR.1.base)).other LO.out 3 (.int .i64 RR.1.bterm)).other LO.out 4 (.slice G1 gm gc))
        have hX := (((((Xrb19c.out.other (LX.out) 0 (.int .i64 RR.1.term)).other (LX.out) 1 (.int .i64 RR.1.vote)).other (LX.out) 2 (.int .i64 RR.1.base)).other (LX.out) 3 (.int .i64 RR.1.bterm)).other (LX.out) 4 (.slice G1 gm gc))
        clear r0 r1 r2 r3 r4 g0 g1 g2 g3 g4 NE
        clear Brb19c Crb19c Krb19c Jrb19c Srb19c Orb19c Xrb19c zrb19c
        clear Arb19c
        generalize (((((rb19c.setCell ⟨pz, 0, none⟩ (.int .i64 RR.1.term)).setCell ⟨pz, 1, none⟩ (.int .i64 RR.1.vote)).setCell ⟨pz, 2, none⟩ (.int .i64 RR.1.base)).setCell ⟨pz, 3, none⟩ (.int .i64 RR.1.bterm)).setCell ⟨pz, 4, none⟩ (.slice G1 gm gc)) = wb at *
        have Bwb : Hid (Below w.heap.size w wb) := hB
        have Cwb : Hid (Below w6.heap.size w6 wb) := hC
        have Kwb : Hid (Blk wb w.heap.size #[.int .i64 x.term, .int .i64 x.vote, .int .i64 x.base, .int .i64 x.bterm, u] 49) := hK
        have Jwb : Hid (Blk wb (w.heap.size + 1) #[.int .i64 r.kind, .int .i64 r.term, .int .i64 r.index, .int .i64 r.vote, .string r.data] 40) := hJ
        have Swb : Hid (Blk wb p6 #[.int .i64 RR.1.term, .int .i64 RR.1.vote, .int .i64 RR.1.base, .int .i64 RR.1.bterm, .slice E1 em ec] 26) := hS
        have Owb : Hid (Owns wb w6.heap.size 76 2 (.slice A1 m1 c1) (entR x.ents)) := hO
        have Xwb : Hid (Blk wb px #[.int .i64 x.term, .int .i64 x.vote, .int .i64 x.base, .int .i64 x.bterm, .slice A1 m1 c1] 26) := hX
        have Zwb : Hid (Blk wb pz #[.int .i64 RR.1.term, .int .i64 RR.1.vote, .int .i64 RR.1.base, .int .i64 RR.1.bterm, .slice G1 gm gc] 26) := hz
        have Awb : Hid (Owns wb bq 76 2 (.slice G1 gm gc) (entR RR.1.ents)) := hoa
        clear hz hoa hB hC hK hJ hS hO hX LB LC LK LJ LS LO LX
        refine hK.out _ _ (fun _ _ => ⟨Xwb.out.cell 0 _ rfl, Xwb.out.cell 1 _ rfl, Xwb.out.cell 2 _ rfl, Xwb.out.cell 3 _ rfl, Xwb.out.cell 4 _ rfl, Jwb.out.cell 0 _ rfl, Jwb.out.cell 1 _ rfl, Jwb.out.cell 2 _ rfl, Jwb.out.cell 3 _ rfl, Jwb.out.cell 4 _ rfl⟩) ?_
        clear hK K S0
        try simp only [Act.put, List.setIfInBounds_toArray, List.set_cons_zero, List.set_cons_succ]
        refine until_pure 9 (v := ?_) (by rfl) (by kernel_rfl) (by exact fun _ _ _ h => h) (by rfl) ?_ ?_
        rotate_left
        · intro w
          go_simp
          try with_reducible rfl
        try simp only [Act.put, List.setIfInBounds_toArray, List.set_cons_zero, List.set_cons_succ]
        refine until_done (by kernel_rfl) ?_ _
      rotate_left
      focus
        go_simp
        refine (cG rb17c (.agg #[.int .i64 x.term, .int .i64 x.vote, .int .i64 x.base, .int .i64 x.bterm, .slice A1 m1 c1]) ⟨_, rfl, Orb17c.out.lies⟩).mono ?_
        rintro e rb20c ⟨x6, b6', rfl, ⟨hO3, hbb⟩, hba⟩
        subst hbb
        have Brb20c : Hid (Below w.heap.size w rb20c) := Brb17c.out.trans (hba.mono Brb17c.out.size)
        have Crb20c : Hid (Below w6.heap.size w6 rb20c) := Crb17c.out.trans (hba.mono Crb17c.out.size)
        have Krb20c : Hid (Blk rb20c w.heap.size #[.int .i64 x.term, .int .i64 x.vote, .int .i64 x.base, .int .i64 x.bterm, u] 49) := Krb17c.out.on hba Krb17c.out.lt
        have Jrb20c : Hid (Blk rb20c (w.heap.size + 1) #[.int .i64 r.kind, .int .i64 r.term, .int .i64 r.index, .int .i64 r.vote, .string r.data] 40) := Jrb17c.out.on hba Jrb17c.out.lt
        have Srb20c : Hid (Blk rb20c p6 #[.int .i64 RR.1.term, .int .i64 RR.1.vote, .int .i64 RR.1.base, .int .i64 RR.1.bterm, .slice E1 em ec] 26) := Srb17c.out.on hba Srb17c.out.lt
        have Orb20c : Hid (Owns rb20c w6.heap.size 76 2 (.slice A1 m1 c1) (entR x.ents)) := Orb17c.out.on hba
        have Xrb20c : Hid (Blk rb20c px #[.int .i64 x.term, .int .i64 x.vote, .int .i64 x.base, .int .i64 x.bterm, .slice A1 m1 c1] 26) := Xrb17c.out.on hba Xrb17c.out.lt
        obtain ⟨s1, rfl, a1⟩ := hO3
        obtain ⟨G1, gm, gc, rfl⟩ := a1.shape
        have AX : Hid (Owns rb20c rb17c.heap.size 76 2 (.slice G1 gm gc) (entR RR.1.ents)) := a1
        have BQ1 : Hid (w6.heap.size ≤ rb17c.heap.size) := Crb17c.out.size
        have BQ3 : Hid (rb17c.heap.size ≤ rb20c.heap.size) := hba.size
        have BQ2 : Hid (∀ g, (Value.slice A1 m1 c1).ownBlock = some g → g < rb17c.heap.size) := fun g hg => (Orb17c.out.lt g hg).2
        clear hba a1
        clear Brb17c Crb17c Krb17c Jrb17c Srb17c Orb17c Xrb17c
        generalize rb17c.heap.size = bq at *
        have Arb20c : Hid (Owns rb20c bq 76 2 (.slice G1 gm gc) (entR RR.1.ents)) := AX.out
        clear AX
        go_wp2_with fail
        refine hK.out _ _ (fun _ _ => ⟨Xrb20c.out.cell 0 _ rfl, Xrb20c.out.cell 1 _ rfl, Xrb20c.out.cell 2 _ rfl, Xrb20c.out.cell 3 _ rfl, Xrb20c.out.cell 4 _ rfl, Jrb20c.out.cell 0 _ rfl, Jrb20c.out.cell 1 _ rfl, Jrb20c.out.cell 2 _ rfl, Jrb20c.out.cell 3 _ rfl, Jrb20c.out.cell 4 _ rfl⟩) ?_
        clear hK K
        try simp only [Act.put, List.setIfInBounds_toArray, List.set_cons_zero, List.set_cons_succ]
        refine until_pure 4 (v := ?_) (by rfl) (by kernel_rfl) (by exact fun _ _ _ h => h) (by rfl) ?_ ?_
        rotate_left
        · intro w
          go_simp
          try with_reducible rfl
        try simp only [Act.put, List.setIfInBounds_toArray, List.set_cons_zero, List.set_cons_succ]
        refine until_pure 5 (v := ?_) (by rfl) (by kernel_rfl) (by exact fun _ _ _ h => h) (by rfl) ?_ ?_
        rotate_left
        · intro w
          go_simp
          try with_reducible rfl
        try simp only [Act.put, List.setIfInBounds_toArray, List.set_cons_zero, List.set_cons_succ]
        refine until_pure 6 (v := ?_) (by rfl) (by kernel_rfl) (by exact fun _ _ _ h => h) (by rfl) ?_ ?_
        rotate_left
        · intro w
          go_simp
          try with_reducible rfl
        try simp only [Act.put, List.setIfInBounds_toArray, List.set_cons_zero, List.set_cons_succ]
        refine until_one 7 (by rfl) (by kernel_rfl) (fun K hK => ?_)
        go_simp
        have zk := Blk.new rb20c #[.int .i64 0, .int .i64 0, .int .i64 0, .int .i64 0, .slice none 0 0] 26
        have bz : Below rb20c.heap.size rb20c (rb20c.alloc (.cells #[.int .i64 0, .int .i64 0, .int .i64 0, .int .i64 0, .slice none 0 0] 26)) := (Below.refl _ _).alloc (Nat.le_refl _) _
        generalize rb20c.alloc (.cells #[.int .i64 0, .int .i64 0, .int .i64 0, .int .i64 0, .slice none 0 0] 26) = rb21a at *
        have Brb21a : Hid (Below w.heap.size w rb21a) := Brb20c.out.trans (bz.mono Brb20c.out.size)
        have Crb21a : Hid (Below w6.heap.size w6 rb21a) := Crb20c.out.trans (bz.mono Crb20c.out.size)
        have Krb21a : Hid (Blk rb21a w.heap.size #[.int .i64 x.term, .int .i64 x.vote, .int .i64 x.base, .int .i64 x.bterm, u] 49) := Krb20c.out.on bz Krb20c.out.lt
        have Jrb21a : Hid (Blk rb21a (w.heap.size + 1) #[.int .i64 r.kind, .int .i64 r.term, .int .i64 r.index, .int .i64 r.vote, .string r.data] 40) := Jrb20c.out.on bz Jrb20c.out.lt
        have Srb21a : Hid (Blk rb21a p6 #[.int .i64 RR.1.term, .int .i64 RR.1.vote, .int .i64 RR.1.base, .int .i64 RR.1.bterm, .slice E1 em ec] 26) := Srb20c.out.on bz Srb20c.out.lt
        have Orb21a : Hid (Owns rb21a w6.heap.size 76 2 (.slice A1 m1 c1) (entR x.ents)) := Orb20c.out.on bz
        have Xrb21a : Hid (Blk rb21a px #[.int .i64 x.term, .int .i64 x.vote, .int .i64 x.base, .int .i64 x.bterm, .slice A1 m1 c1] 26) := Xrb20c.out.on bz Xrb20c.out.lt
        have LB : Hid (w.heap.size ≤ rb20c.heap.size) := Brb20c.out.size
        have LC : Hid (w6.heap.size ≤ rb20c.heap.size) := Crb20c.out.size
        have LK : Hid (w.heap.size ≠ rb20c.heap.size) := Nat.ne_of_lt Krb20c.out.lt
        have LJ : Hid ((w.heap.size + 1) ≠ rb20c.heap.size) := Nat.ne_of_lt Jrb20c.out.lt
        have LS : Hid (p6 ≠ rb20c.heap.size) := Nat.ne_of_lt Srb20c.out.lt
        have LX : Hid (px ≠ rb20c.heap.size) := Nat.ne_of_lt Xrb20c.out.lt
        have Arb21a : Hid (Owns rb21a bq 76 2 (.slice G1 gm gc) (entR RR.1.ents)) := Arb20c.out.on bz
        clear Arb20c
        have zX : Hid (Blk rb21a rb20c.heap.size #[.int .i64 0, .int .i64 0, .int .i64 0, .int .i64 0, .slice none 0 0] 26) := zk
        clear zk bz
        clear Brb20c Crb20c Krb20c Jrb20c Srb20c Orb20c Xrb20c
        generalize rb20c.heap.size = pz at *
        have zrb21a : Hid (Blk rb21a pz #[.int .i64 0, .int .i64 0, .int .i64 0, .int .i64 0, .slice none 0 0] 26) := zX.out
        clear zX
        refine hK.out _ _ (fun _ _ => ⟨Xrb21a.out.cell 0 _ rfl, Xrb21a.out.cell 1 _ rfl, Xrb21a.out.cell 2 _ rfl, Xrb21a.out.cell 3 _ rfl, Xrb21a.out.cell 4 _ rfl, Jrb21a.out.cell 0 _ rfl, Jrb21a.out.cell 1 _ rfl, Jrb21a.out.cell 2 _ rfl, Jrb21a.out.cell 3 _ rfl, Jrb21a.out.cell 4 _ rfl⟩) ?_
        clear hK K
        try simp only [Act.put, List.setIfInBounds_toArray, List.set_cons_zero, List.set_cons_succ]
        refine until_one 8 (by rfl) (by kernel_rfl) (fun K hK => ?_)
        have r0 := zrb21a.out.cell 0 (.int .i64 0) rfl
        have g0 := zrb21a.out.free 0
        have r1 := zrb21a.out.cell 1 (.int .i64 0) rfl
        have g1 := zrb21a.out.free 1
        have r2 := zrb21a.out.cell 2 (.int .i64 0) rfl
        have g2 := zrb21a.out.free 2
        have r3 := zrb21a.out.cell 3 (.int .i64 0) rfl
        have g3 := zrb21a.out.free 3
        have r4 := zrb21a.out.cell 4 (.slice none 0 0) rfl
        have g4 := zrb21a.out.free 4
        go_simp
        have NE : Hid ((Value.slice G1 gm gc).ownBlock ≠ some pz) := Arb21a.out.notBlk zrb21a.out (by decide)
        have LO : Hid ((Value.slice A1 m1 c1).ownBlock ≠ some pz) := Orb21a.out.notBlk zrb21a.out (by decide)
        have hz := (((((zrb21a.out.set 0 (.int .i64 RR.1.term)).set 1 (.int .i64 RR.1.vote)).set 2 (.int .i64 RR.1.base)).set 3 (.int .i64 RR.1.bterm)).set 4 (.slice G1 gm gc))
        have hoa := (((((Arb21a.out.other NE.out 0 (.int .i64 RR.1.term)).other NE.out 1 (.int .i64 RR.1.vote)).other NE.out 2 (.int .i64 RR.1.base)).other NE.out 3 (.int .i64 RR.1.bterm)).other NE.out 4 (.slice G1 gm gc))
        have hB := (((((Brb21a.out.setCell LB.out (.int .i64 RR.1.term) (p := ⟨pz, 0, none⟩)).setCell LB.out (.int .i64 RR.1.vote) (p := ⟨pz, 1, none⟩)).setCell LB.out (.int .i64 RR.1.base) (p := ⟨pz, 2, none⟩)).setCell LB.out (.int .i64 RR.1.bterm) (p := ⟨pz, 3, none⟩)).setCell LB.out (.slice G1 gm gc) (p := ⟨pz, 4, none⟩))
        have hC := (((((Crb21a.out.setCell LC.out (.int .i64 RR.1.term) (p := ⟨pz, 0, none⟩)).setCell LC.out (.int .i64 RR.1.vote) (p := ⟨pz, 1, none⟩)).setCell LC.out (.int .i64 RR.1.base) (p := ⟨pz, 2, none⟩)).setCell LC.out (.int .i64 RR.1.bterm) (p := ⟨pz, 3, none⟩)).setCell LC.out (.slice G1 gm gc) (p := ⟨pz, 4, none⟩))
        have hK := (((((Krb21a.out.other (LK.out) 0 (.int .i64 RR.1.term)).other (LK.out) 1 (.int .i64 RR.1.vote)).other (LK.out) 2 (.int .i64 RR.1.base)).other (LK.out) 3 (.int .i64 RR.1.bterm)).other (LK.out) 4 (.slice G1 gm gc))
        have hJ := (((((Jrb21a.out.other (LJ.out) 0 (.int .i64 RR.1.term)).other (LJ.out) 1 (.int .i64 RR.1.vote)).other (LJ.out) 2 (.int .i64 RR.1.base)).other (LJ.out) 3 (.int .i64 RR.1.bterm)).other (LJ.out) 4 (.slice G1 gm gc))
        have hS := (((((Srb21a.out.other (LS.out) 0 (.int .i64 RR.1.term)).other (LS.out) 1 (.int .i64 RR.1.vote)).other (LS.out) 2 (.int .i64 RR.1.base)).other (LS.out) 3 (.int .i64 RR.1.bterm)).other (LS.out) 4 (.slice G1 gm gc))
        have hO := (((((Orb21a.out.other LO.out 0 (.int .i64 RR.1.term)).other LO.out 1 (.int .i64 RR.1.vote)).other LO.out 2 (.int .i64 RR.1.base)).other LO.out 3 (.int .i64 RR.1.bterm)).other LO.out 4 (.slice G1 gm gc))
        have hX := (((((Xrb21a.out.other (LX.out) 0 (.int .i64 RR.1.term)).other (LX.out) 1 (.int .i64 RR.1.vote)).other (LX.out) 2 (.int .i64 RR.1.base)).other (LX.out) 3 (.int .i64 RR.1.bterm)).other (LX.out) 4 (.slice G1 gm gc))
        clear r0 r1 r2 r3 r4 g0 g1 g2 g3 g4 NE
        clear Brb21a Crb21a Krb21a Jrb21a Srb21a Orb21a Xrb21a zrb21a
        clear Arb21a
        generalize (((((rb21a.setCell ⟨pz, 0, none⟩ (.int .i64 RR.1.term)).setCell ⟨pz, 1, none⟩ (.int .i64 RR.1.vote)).setCell ⟨pz, 2, none⟩ (.int .i64 RR.1.base)).setCell ⟨pz, 3, none⟩ (.int .i64 RR.1.bterm)).setCell ⟨pz, 4, none⟩ (.slice G1 gm gc)) = wb at *
        have Bwb : Hid (Below w.heap.size w wb) := hB
        have Cwb : Hid (Below w6.heap.size w6 wb) := hC
        have Kwb : Hid (Blk wb w.heap.size #[.int .i64 x.term, .int .i64 x.vote, .int .i64 x.base, .int .i64 x.bterm, u] 49) := hK
        have Jwb : Hid (Blk wb (w.heap.size + 1) #[.int .i64 r.kind, .int .i64 r.term, .int .i64 r.index, .int .i64 r.vote, .string r.data] 40) := hJ
        have Swb : Hid (Blk wb p6 #[.int .i64 RR.1.term, .int .i64 RR.1.vote, .int .i64 RR.1.base, .int .i64 RR.1.bterm, .slice E1 em ec] 26) := hS
        have Owb : Hid (Owns wb w6.heap.size 76 2 (.slice A1 m1 c1) (entR x.ents)) := hO
        have Xwb : Hid (Blk wb px #[.int .i64 x.term, .int .i64 x.vote, .int .i64 x.base, .int .i64 x.bterm, .slice A1 m1 c1] 26) := hX
        have Zwb : Hid (Blk wb pz #[.int .i64 RR.1.term, .int .i64 RR.1.vote, .int .i64 RR.1.base, .int .i64 RR.1.bterm, .slice G1 gm gc] 26) := hz
        have Awb : Hid (Owns wb bq 76 2 (.slice G1 gm gc) (entR RR.1.ents)) := hoa
        clear hz hoa hB hC hK hJ hS hO hX LB LC LK LJ LS LO LX
        refine hK.out _ _ (fun _ _ => ⟨Xwb.out.cell 0 _ rfl, Xwb.out.cell 1 _ rfl, Xwb.out.cell 2 _ rfl, Xwb.out.cell 3 _ rfl, Xwb.out.cell 4 _ rfl, Jwb.out.cell 0 _ rfl, Jwb.out.cell 1 _ rfl, Jwb.out.cell 2 _ rfl, Jwb.out.cell 3 _ rfl, Jwb.out.cell 4 _ rfl⟩) ?_
        clear hK K S0
        try simp only [Act.put, List.setIfInBounds_toArray, List.set_cons_zero, List.set_cons_succ]
        refine until_pure 9 (v := ?_) (by rfl) (by kernel_rfl) (by exact fun _ _ _ h => h) (by rfl) ?_ ?_
        rotate_left
        · intro w
          go_simp
          try with_reducible rfl
        try simp only [Act.put, List.setIfInBounds_toArray, List.set_cons_zero, List.set_cons_succ]
        refine until_done (by kernel_rfl) ?_ _
  all_goals
    generalize pz = p9 at *
    generalize bq = b9 at *
    have Pwb : Hid (Blk wb p9 #[.int .i64 RR.1.term, .int .i64 RR.1.vote, .int .i64 RR.1.base, .int .i64 RR.1.bterm, .slice G1 gm gc] 26) := Zwb.out
    have Gwb : Hid (Owns wb b9 76 2 (.slice G1 gm gc) (entR RR.1.ents)) := Awb.out
    clear Zwb Awb
    have y0 := Pwb.out.cell 0 (.int .i64 RR.1.term) rfl
    have y1 := Pwb.out.cell 1 (.int .i64 RR.1.vote) rfl
    have y2 := Pwb.out.cell 2 (.int .i64 RR.1.base) rfl
    have y3 := Pwb.out.cell 3 (.int .i64 RR.1.bterm) rfl
    have y4 := Pwb.out.cell 4 (.slice G1 gm gc) rfl
    have s0 := Swb.out.cell 0 (.int .i64 RR.1.term) rfl
    have s1 := Swb.out.cell 1 (.int .i64 RR.1.vote) rfl
    have s2 := Swb.out.cell 2 (.int .i64 RR.1.base) rfl
    have s3 := Swb.out.cell 3 (.int .i64 RR.1.bterm) rfl
    have s4 := Swb.out.cell 4 (.slice E1 em ec) rfl
    go_wp2_with fail
    refine (eqWal RR.1 (.agg #[.int .i64 RR.1.term, .int .i64 RR.1.vote, .int .i64 RR.1.base, .int .i64 RR.1.bterm, .slice G1 gm gc]) (.agg #[.int .i64 RR.1.term, .int .i64 RR.1.vote, .int .i64 RR.1.base, .int .i64 RR.1.bterm, .slice E1 em ec]) wb wb.heap.size ⟨_, rfl, Gwb.out.lies⟩ ((TV6.out.on Cwb.out).mono Cwb.out.size) (by have := LR.out; omega) (Nat.le_refl _)).mono ?_
    rintro e wc ⟨rfl, hbc⟩
    have Bwc : Hid (Below w.heap.size w wc) := Bwb.out.trans (hbc.mono Bwb.out.size)
    have Cwc : Hid (Below w6.heap.size w6 wc) := Cwb.out.trans (hbc.mono Cwb.out.size)
    have Kwc : Hid (Blk wc w.heap.size #[.int .i64 x.term, .int .i64 x.vote, .int .i64 x.base, .int .i64 x.bterm, u] 49) := Kwb.out.on hbc Kwb.out.lt
    have Jwc : Hid (Blk wc (w.heap.size + 1) #[.int .i64 r.kind, .int .i64 r.term, .int .i64 r.index, .int .i64 r.vote, .string r.data] 40) := Jwb.out.on hbc Jwb.out.lt
    have Swc : Hid (Blk wc p6 #[.int .i64 RR.1.term, .int .i64 RR.1.vote, .int .i64 RR.1.base, .int .i64 RR.1.bterm, .slice E1 em ec] 26) := Swb.out.on hbc Swb.out.lt
    have Owc : Hid (Owns wc w6.heap.size 76 2 (.slice A1 m1 c1) (entR x.ents)) := Owb.out.on hbc
    have Xwc : Hid (Blk wc px #[.int .i64 x.term, .int .i64 x.vote, .int .i64 x.base, .int .i64 x.bterm, .slice A1 m1 c1] 26) := Xwb.out.on hbc Xwb.out.lt
    have Pwc : Hid (Blk wc p9 #[.int .i64 RR.1.term, .int .i64 RR.1.vote, .int .i64 RR.1.base, .int .i64 RR.1.bterm, .slice G1 gm gc] 26) := Pwb.out.on hbc Pwb.out.lt
    have Gwc : Hid (Owns wc b9 76 2 (.slice G1 gm gc) (entR RR.1.ents)) := Gwb.out.on hbc
    clear hbc y0 y1 y2 y3 y4 s0 s1 s2 s3 s4
    clear Bwb Cwb Kwb Jwb Swb Owb Xwb Pwb Gwb
    have S0 : Hid (wc.drew.cell? ⟨px, 0, none⟩ = some (.int .i64 x.term) ∧ wc.drew.cell? ⟨px, 1, none⟩ = some (.int .i64 x.vote) ∧ wc.drew.cell? ⟨px, 2, none⟩ = some (.int .i64 x.base) ∧ wc.drew.cell? ⟨px, 3, none⟩ = some (.int .i64 x.bterm) ∧ wc.drew.cell? ⟨px, 4, none⟩ = some (.slice A1 m1 c1) ∧ wc.drew.cell? ⟨w.heap.size, 0, none⟩ = some (.int .i64 x.term) ∧ wc.drew.cell? ⟨w.heap.size, 1, none⟩ = some (.int .i64 x.vote) ∧ wc.drew.cell? ⟨w.heap.size, 2, none⟩ = some (.int .i64 x.base) ∧ wc.drew.cell? ⟨w.heap.size, 3, none⟩ = some (.int .i64 x.bterm) ∧ wc.drew.cell? ⟨w.heap.size, 4, none⟩ = some (u)) := ⟨Xwc.out.cell 0 _ rfl, Xwc.out.cell 1 _ rfl, Xwc.out.cell 2 _ rfl, Xwc.out.cell 3 _ rfl, Xwc.out.cell 4 _ rfl, Kwc.out.cell 0 _ rfl, Kwc.out.cell 1 _ rfl, Kwc.out.cell 2 _ rfl, Kwc.out.cell 3 _ rfl, Kwc.out.cell 4 _ rfl⟩
    go_wp2_with fail
    refine wp_region_until (fun w' => w'.cell? ⟨px, 0, none⟩ = some (.int .i64 x.term) ∧ w'.cell? ⟨px, 1, none⟩ = some (.int .i64 x.vote) ∧ w'.cell? ⟨px, 2, none⟩ = some (.int .i64 x.base) ∧ w'.cell? ⟨px, 3, none⟩ = some (.int .i64 x.bterm) ∧ w'.cell? ⟨px, 4, none⟩ = some (.slice A1 m1 c1) ∧ w'.cell? ⟨w.heap.size, 0, none⟩ = some (.int .i64 x.term) ∧ w'.cell? ⟨w.heap.size, 1, none⟩ = some (.int .i64 x.vote) ∧ w'.cell? ⟨w.heap.size, 2, none⟩ = some (.int .i64 x.base) ∧ w'.cell? ⟨w.heap.size, 3, none⟩ = some (.int .i64 x.bterm) ∧ w'.cell? ⟨w.heap.size, 4, none⟩ = some (u)) (fun i => false) 5 (by rfl) (by kernel_rfl) ?_
    have BrcX : Hid (Below w.heap.size w wc.drew) := Bwc.out.drew
    have CrcX : Hid (Below w6.heap.size w6 wc.drew) := Cwc.out.drew
    have KrcX : Hid (Blk wc.drew w.heap.size #[.int .i64 x.term, .int .i64 x.vote, .int .i64 x.base, .int .i64 x.bterm, u] 49) := Kwc.out
    have JrcX : Hid (Blk wc.drew (w.heap.size + 1) #[.int .i64 r.kind, .int .i64 r.term, .int .i64 r.index, .int .i64 r.vote, .string r.data] 40) := Jwc.out
    have SrcX : Hid (Blk wc.drew p6 #[.int .i64 RR.1.term, .int .i64 RR.1.vote, .int .i64 RR.1.base, .int .i64 RR.1.bterm, .slice E1 em ec] 26) := Swc.out
    have OrcX : Hid (Owns wc.drew w6.heap.size 76 2 (.slice A1 m1 c1) (entR x.ents)) := Owc.out
    have XrcX : Hid (Blk wc.drew px #[.int .i64 x.term, .int .i64 x.vote, .int .i64 x.base, .int .i64 x.bterm, .slice A1 m1 c1] 26) := Xwc.out
    have PrcX : Hid (Blk wc.drew p9 #[.int .i64 RR.1.term, .int .i64 RR.1.vote, .int .i64 RR.1.base, .int .i64 RR.1.bterm, .slice G1 gm gc] 26) := Pwc.out
    have GrcX : Hid (Owns wc.drew b9 76 2 (.slice G1 gm gc) (entR RR.1.ents)) := Gwc.out
    clear Bwc Cwc Kwc Jwc Swc Owc Xwc Pwc Gwc
    generalize wc.drew = rcX at *
    refine until_take 0 (v := ?_) (by rfl) (by kernel_rfl) (by exact fun _ _ _ h => h) (by rfl) ?_ S0.out ?_
    rotate_left
    · intro w hSw
      try dsimp only at hSw
      go_simp
      try with_reducible rfl
    try simp only [Act.put, List.setIfInBounds_toArray, List.set_cons_zero, List.set_cons_succ]
    refine until_take 1 (v := ?_) (by rfl) (by kernel_rfl) (by exact fun _ _ _ h => h) (by rfl) ?_ S0.out ?_
    rotate_left
    · intro w hSw
      try dsimp only at hSw
      go_simp
      try with_reducible rfl
    try simp only [Act.put, List.setIfInBounds_toArray, List.set_cons_zero, List.set_cons_succ]
    refine until_one 2 (by rfl) (by kernel_rfl) (fun K hK => ?_)
    go_simp
    refine (cT rcX (HV.out.on BrcX.out) BrcX.out.size).mono ?_
    rintro e rc1 ⟨yrc, rfl, hO7, hb7⟩
    have Brc1 : Hid (Below w.heap.size w rc1) := BrcX.out.trans (hb7.mono BrcX.out.size)
    have Crc1 : Hid (Below w6.heap.size w6 rc1) := CrcX.out.trans (hb7.mono CrcX.out.size)
    have Krc1 : Hid (Blk rc1 w.heap.size #[.int .i64 x.term, .int .i64 x.vote, .int .i64 x.base, .int .i64 x.bterm, u] 49) := KrcX.out.on hb7 KrcX.out.lt
    have Jrc1 : Hid (Blk rc1 (w.heap.size + 1) #[.int .i64 r.kind, .int .i64 r.term, .int .i64 r.index, .int .i64 r.vote, .string r.data] 40) := JrcX.out.on hb7 JrcX.out.lt
    have Src1 : Hid (Blk rc1 p6 #[.int .i64 RR.1.term, .int .i64 RR.1.vote, .int .i64 RR.1.base, .int .i64 RR.1.bterm, .slice E1 em ec] 26) := SrcX.out.on hb7 SrcX.out.lt
    have Orc1 : Hid (Owns rc1 w6.heap.size 76 2 (.slice A1 m1 c1) (entR x.ents)) := OrcX.out.on hb7
    have Xrc1 : Hid (Blk rc1 px #[.int .i64 x.term, .int .i64 x.vote, .int .i64 x.base, .int .i64 x.bterm, .slice A1 m1 c1] 26) := XrcX.out.on hb7 XrcX.out.lt
    have Prc1 : Hid (Blk rc1 p9 #[.int .i64 RR.1.term, .int .i64 RR.1.vote, .int .i64 RR.1.base, .int .i64 RR.1.bterm, .slice G1 gm gc] 26) := PrcX.out.on hb7 PrcX.out.lt
    have Grc1 : Hid (Owns rc1 b9 76 2 (.slice G1 gm gc) (entR RR.1.ents)) := GrcX.out.on hb7
    have cE := eqWal x (.agg #[.int .i64 x.term, .int .i64 x.vote, .int .i64 x.base, .int .i64 x.bterm, .slice A1 m1 c1]) yrc rc1 rc1.heap.size ⟨_, rfl, Orc1.out.lies⟩ hO7.lies (by have := HW.out; unfold wtW at this; omega) (Nat.le_refl _)
    clear hb7 hO7
    clear BrcX CrcX KrcX JrcX SrcX OrcX XrcX PrcX GrcX
    go_wp2_with fail
    refine hK.out _ _ (fun _ _ => ⟨Xrc1.out.cell 0 _ rfl, Xrc1.out.cell 1 _ rfl, Xrc1.out.cell 2 _ rfl, Xrc1.out.cell 3 _ rfl, Xrc1.out.cell 4 _ rfl, Krc1.out.cell 0 _ rfl, Krc1.out.cell 1 _ rfl, Krc1.out.cell 2 _ rfl, Krc1.out.cell 3 _ rfl, Krc1.out.cell 4 _ rfl⟩) ?_
    clear hK K
    try simp only [Act.put, List.setIfInBounds_toArray, List.set_cons_zero, List.set_cons_succ]
    refine until_one 3 (by rfl) (by kernel_rfl) (fun K hK => ?_)
    go_simp
    refine cE.mono ?_
    rintro e wd ⟨rfl, hb8⟩
    have Bwd : Hid (Below w.heap.size w wd) := Brc1.out.trans (hb8.mono Brc1.out.size)
    have Cwd : Hid (Below w6.heap.size w6 wd) := Crc1.out.trans (hb8.mono Crc1.out.size)
    have Kwd : Hid (Blk wd w.heap.size #[.int .i64 x.term, .int .i64 x.vote, .int .i64 x.base, .int .i64 x.bterm, u] 49) := Krc1.out.on hb8 Krc1.out.lt
    have Jwd : Hid (Blk wd (w.heap.size + 1) #[.int .i64 r.kind, .int .i64 r.term, .int .i64 r.index, .int .i64 r.vote, .string r.data] 40) := Jrc1.out.on hb8 Jrc1.out.lt
    have Swd : Hid (Blk wd p6 #[.int .i64 RR.1.term, .int .i64 RR.1.vote, .int .i64 RR.1.base, .int .i64 RR.1.bterm, .slice E1 em ec] 26) := Src1.out.on hb8 Src1.out.lt
    have Owd : Hid (Owns wd w6.heap.size 76 2 (.slice A1 m1 c1) (entR x.ents)) := Orc1.out.on hb8
    have Xwd : Hid (Blk wd px #[.int .i64 x.term, .int .i64 x.vote, .int .i64 x.base, .int .i64 x.bterm, .slice A1 m1 c1] 26) := Xrc1.out.on hb8 Xrc1.out.lt
    have Pwd : Hid (Blk wd p9 #[.int .i64 RR.1.term, .int .i64 RR.1.vote, .int .i64 RR.1.base, .int .i64 RR.1.bterm, .slice G1 gm gc] 26) := Prc1.out.on hb8 Prc1.out.lt
    have Gwd : Hid (Owns wd b9 76 2 (.slice G1 gm gc) (entR RR.1.ents)) := Grc1.out.on hb8
    clear hb8 cE
    clear Brc1 Crc1 Krc1 Jrc1 Src1 Orc1 Xrc1 Prc1 Grc1
    go_wp2_with fail
    refine hK.out _ _ (fun _ _ => ⟨Xwd.out.cell 0 _ rfl, Xwd.out.cell 1 _ rfl, Xwd.out.cell 2 _ rfl, Xwd.out.cell 3 _ rfl, Xwd.out.cell 4 _ rfl, Kwd.out.cell 0 _ rfl, Kwd.out.cell 1 _ rfl, Kwd.out.cell 2 _ rfl, Kwd.out.cell 3 _ rfl, Kwd.out.cell 4 _ rfl⟩) ?_
    clear hK K S0
    try simp only [Act.put, List.setIfInBounds_toArray, List.set_cons_zero, List.set_cons_succ]
    refine until_pure 4 (v := ?_) (by rfl) (by kernel_rfl) (by exact fun _ _ _ h => h) (by rfl) ?_ ?_
    rotate_left
    · intro w
      go_simp
      try with_reducible rfl
    try simp only [Act.put, List.setIfInBounds_toArray, List.set_cons_zero, List.set_cons_succ]
    refine until_done (by kernel_rfl) ?_ _
    have WT : Hid ((entR x.ents).length ≤ 1048576) := by unfold Hid; rw [entR_length]; have := HW.out; unfold wtW at this; omega
    have cM := markWal 1 w6.heap.size x.term x.vote x.base x.bterm (.slice A1 m1 c1) (entR x.ents) wd Owd.out WT.out (Nat.le_refl _) (by omega) Cwd.out.size
    generalize hKK : (1 + 2 * (entR x.ents).length : Nat) = KK at *
    have qK0 : decide ((KK : Int) < 0) = false := decide_eq_false (by omega)
    clear hKK
    have y0 := Xwd.out.cell 0 (.int .i64 x.term) rfl
    have y1 := Xwd.out.cell 1 (.int .i64 x.vote) rfl
    have y2 := Xwd.out.cell 2 (.int .i64 x.base) rfl
    have y3 := Xwd.out.cell 3 (.int .i64 x.bterm) rfl
    have y4 := Xwd.out.cell 4 (.slice A1 m1 c1) rfl
    go_wp2_with fail
    refine cM.mono ?_
    rintro e we ⟨rfl, _, hbe, hke⟩
    have Bwe : Hid (Below w.heap.size w we) := Bwd.out.trans (hbe.mono (Nat.le_of_lt LK6.out))
    have Cwe : Hid (Below w6.heap.size w6 we) := Cwd.out.trans hbe
    have Kwe : Hid (Blk we w.heap.size #[.int .i64 x.term, .int .i64 x.vote, .int .i64 x.base, .int .i64 x.bterm, u] 49) := Kwd.out.on hbe LK6.out
    have Jwe : Hid (Blk we (w.heap.size + 1) #[.int .i64 r.kind, .int .i64 r.term, .int .i64 r.index, .int .i64 r.vote, .string r.data] 40) := Jwd.out.on hbe LJ6.out
    have Swe : Hid (Blk we p6 #[.int .i64 RR.1.term, .int .i64 RR.1.vote, .int .i64 RR.1.base, .int .i64 RR.1.bterm, .slice E1 em ec] 26) := Swd.out.on hbe LS6.out
    have Pwe : Hid (Blk we p9 #[.int .i64 RR.1.term, .int .i64 RR.1.vote, .int .i64 RR.1.base, .int .i64 RR.1.bterm, .slice G1 gm gc] 26) := Pwd.out.spare hke (Owd.out.notBlk Pwd.out (by decide))
    have Gwe : Hid (Owns we b9 76 2 (.slice G1 gm gc) (entR RR.1.ents)) := Gwd.out.spare hke BQ2.out
    clear hbe hke cM y0 y1 y2 y3 y4 BQ2
    clear Bwd Cwd Kwd Jwd Swd Owd Xwd Pwd Gwd
    have y0 := Pwe.out.cell 0 (.int .i64 RR.1.term) rfl
    have y1 := Pwe.out.cell 1 (.int .i64 RR.1.vote) rfl
    have y2 := Pwe.out.cell 2 (.int .i64 RR.1.base) rfl
    have y3 := Pwe.out.cell 3 (.int .i64 RR.1.bterm) rfl
    have y4 := Pwe.out.cell 4 (.slice G1 gm gc) rfl
    have s0 := Swe.out.cell 0 (.int .i64 RR.1.term) rfl
    have s1 := Swe.out.cell 1 (.int .i64 RR.1.vote) rfl
    have s2 := Swe.out.cell 2 (.int .i64 RR.1.base) rfl
    have s3 := Swe.out.cell 3 (.int .i64 RR.1.bterm) rfl
    have s4 := Swe.out.cell 4 (.slice E1 em ec) rfl
    go_wp2_with fail
    refine (eqWal RR.1 (.agg #[.int .i64 RR.1.term, .int .i64 RR.1.vote, .int .i64 RR.1.base, .int .i64 RR.1.bterm, .slice G1 gm gc]) (.agg #[.int .i64 RR.1.term, .int .i64 RR.1.vote, .int .i64 RR.1.base, .int .i64 RR.1.bterm, .slice E1 em ec]) we we.heap.size ⟨_, rfl, Gwe.out.lies⟩ ((TV6.out.on Cwe.out).mono Cwe.out.size) (by have := LR.out; omega) (Nat.le_refl _)).mono ?_
    rintro e wf ⟨rfl, hbf⟩
    have Bwf : Hid (Below w.heap.size w wf) := Bwe.out.trans (hbf.mono Bwe.out.size)
    have Cwf : Hid (Below w6.heap.size w6 wf) := Cwe.out.trans (hbf.mono Cwe.out.size)
    have Kwf : Hid (Blk wf w.heap.size #[.int .i64 x.term, .int .i64 x.vote, .int .i64 x.base, .int .i64 x.bterm, u] 49) := Kwe.out.on hbf Kwe.out.lt
    have Jwf : Hid (Blk wf (w.heap.size + 1) #[.int .i64 r.kind, .int .i64 r.term, .int .i64 r.index, .int .i64 r.vote, .string r.data] 40) := Jwe.out.on hbf Jwe.out.lt
    have Swf : Hid (Blk wf p6 #[.int .i64 RR.1.term, .int .i64 RR.1.vote, .int .i64 RR.1.base, .int .i64 RR.1.bterm, .slice E1 em ec] 26) := Swe.out.on hbf Swe.out.lt
    have Pwf : Hid (Blk wf p9 #[.int .i64 RR.1.term, .int .i64 RR.1.vote, .int .i64 RR.1.base, .int .i64 RR.1.bterm, .slice G1 gm gc] 26) := Pwe.out.on hbf Pwe.out.lt
    have Gwf : Hid (Owns wf b9 76 2 (.slice G1 gm gc) (entR RR.1.ents)) := Gwe.out.on hbf
    clear hbf y0 y1 y2 y3 y4 s0 s1 s2 s3 s4
    clear Bwe Cwe Kwe Jwe Swe Pwe Gwe
    have cM := markWal 1 w6.heap.size RR.1.term RR.1.vote RR.1.base RR.1.bterm (.slice G1 gm gc) (entR RR.1.ents) wf (Gwf.out.mono BQ1.out) (by rw [entR_length]; have := LR.out; omega) (Nat.le_refl _) (by omega) Cwf.out.size
    have cH := fun wx h => heldWal 1 (entR RR.1.ents).length RR.1.term RR.1.vote RR.1.base RR.1.bterm (.slice G1 gm gc) wx wx.heap.size h (by rw [entR_length]; have := LR.out; omega) (Nat.le_refl _) (by omega) (Nat.le_refl _)
    generalize hMM : (1 + 2 * (entR RR.1.ents).length : Nat) = MM at *
    have qM0 : decide ((MM : Int) < 0) = false := decide_eq_false (by omega)
    have nM : ((MM : Int) != (MM : Int)) = false := by simp
    generalize newR (mkEnt 1) (entR RR.1.ents).length = NR at *
    clear hMM
    have y0 := Pwf.out.cell 0 (.int .i64 RR.1.term) rfl
    have y1 := Pwf.out.cell 1 (.int .i64 RR.1.vote) rfl
    have y2 := Pwf.out.cell 2 (.int .i64 RR.1.base) rfl
    have y3 := Pwf.out.cell 3 (.int .i64 RR.1.bterm) rfl
    have y4 := Pwf.out.cell 4 (.slice G1 gm gc) rfl
    go_wp2_with fail
    refine cM.mono ?_
    rintro e wg ⟨rfl, hNg, hbg, hkg⟩
    have Bwg : Hid (Below w.heap.size w wg) := Bwf.out.trans (hbg.mono (Nat.le_of_lt LK6.out))
    have Cwg : Hid (Below w6.heap.size w6 wg) := Cwf.out.trans hbg
    have Kwg : Hid (Blk wg w.heap.size #[.int .i64 x.term, .int .i64 x.vote, .int .i64 x.base, .int .i64 x.bterm, u] 49) := Kwf.out.on hbg LK6.out
    have Jwg : Hid (Blk wg (w.heap.size + 1) #[.int .i64 r.kind, .int .i64 r.term, .int .i64 r.index, .int .i64 r.vote, .string r.data] 40) := Jwf.out.on hbg LJ6.out
    have Swg : Hid (Blk wg p6 #[.int .i64 RR.1.term, .int .i64 RR.1.vote, .int .i64 RR.1.base, .int .i64 RR.1.bterm, .slice E1 em ec] 26) := Swf.out.on hbg LS6.out
    have Pwg : Hid (Blk wg p9 #[.int .i64 RR.1.term, .int .i64 RR.1.vote, .int .i64 RR.1.base, .int .i64 RR.1.bterm, .slice G1 gm gc] 26) := Pwf.out.spare hkg (Gwf.out.notBlk Pwf.out (by decide))
    have Nwg : Hid (Owns wg w6.heap.size 76 2 (.slice G1 gm gc) NR) := hNg
    clear hNg hbg hkg cM y0 y1 y2 y3 y4
    clear Bwf Cwf Kwf Jwf Swf Pwf Gwf
    have y0 := Pwg.out.cell 0 (.int .i64 RR.1.term) rfl
    have y1 := Pwg.out.cell 1 (.int .i64 RR.1.vote) rfl
    have y2 := Pwg.out.cell 2 (.int .i64 RR.1.base) rfl
    have y3 := Pwg.out.cell 3 (.int .i64 RR.1.bterm) rfl
    have y4 := Pwg.out.cell 4 (.slice G1 gm gc) rfl
    go_wp2_with fail
    refine (cH wg Nwg.out.lies).mono ?_
    rintro e wh ⟨rfl, hbh⟩
    have Bwh : Hid (Below w.heap.size w wh) := Bwg.out.trans (hbh.mono Bwg.out.size)
    have Cwh : Hid (Below w6.heap.size w6 wh) := Cwg.out.trans (hbh.mono Cwg.out.size)
    have Kwh : Hid (Blk wh w.heap.size #[.int .i64 x.term, .int .i64 x.vote, .int .i64 x.base, .int .i64 x.bterm, u] 49) := Kwg.out.on hbh Kwg.out.lt
    have Jwh : Hid (Blk wh (w.heap.size + 1) #[.int .i64 r.kind, .int .i64 r.term, .int .i64 r.index, .int .i64 r.vote, .string r.data] 40) := Jwg.out.on hbh Jwg.out.lt
    have Swh : Hid (Blk wh p6 #[.int .i64 RR.1.term, .int .i64 RR.1.vote, .int .i64 RR.1.base, .int .i64 RR.1.bterm, .slice E1 em ec] 26) := Swg.out.on hbh Swg.out.lt
    have Pwh : Hid (Blk wh p9 #[.int .i64 RR.1.term, .int .i64 RR.1.vote, .int .i64 RR.1.base, .int .i64 RR.1.bterm, .slice G1 gm gc] 26) := Pwg.out.on hbh Pwg.out.lt
    have Nwh : Hid (Owns wh w6.heap.size 76 2 (.slice G1 gm gc) NR) := Nwg.out.on hbh
    clear hbh y0 y1 y2 y3 y4
    clear Bwg Cwg Kwg Jwg Swg Pwg Nwg
    have S0 : Hid (wh.drew.cell? ⟨w.heap.size, 0, none⟩ = some (.int .i64 x.term) ∧ wh.drew.cell? ⟨w.heap.size, 1, none⟩ = some (.int .i64 x.vote) ∧ wh.drew.cell? ⟨w.heap.size, 2, none⟩ = some (.int .i64 x.base) ∧ wh.drew.cell? ⟨w.heap.size, 3, none⟩ = some (.int .i64 x.bterm) ∧ wh.drew.cell? ⟨w.heap.size, 4, none⟩ = some (u) ∧ wh.drew.cell? ⟨w.heap.size + 1, 0, none⟩ = some (.int .i64 r.kind) ∧ wh.drew.cell? ⟨w.heap.size + 1, 1, none⟩ = some (.int .i64 r.term) ∧ wh.drew.cell? ⟨w.heap.size + 1, 2, none⟩ = some (.int .i64 r.index) ∧ wh.drew.cell? ⟨w.heap.size + 1, 3, none⟩ = some (.int .i64 r.vote) ∧ wh.drew.cell? ⟨w.heap.size + 1, 4, none⟩ = some (.string r.data)) := ⟨Kwh.out.cell 0 _ rfl, Kwh.out.cell 1 _ rfl, Kwh.out.cell 2 _ rfl, Kwh.out.cell 3 _ rfl, Kwh.out.cell 4 _ rfl, Jwh.out.cell 0 _ rfl, Jwh.out.cell 1 _ rfl, Jwh.out.cell 2 _ rfl, Jwh.out.cell 3 _ rfl, Jwh.out.cell 4 _ rfl⟩
    go_wp2_with fail
    refine wp_region_until (fun w' => w'.cell? ⟨w.heap.size, 0, none⟩ = some (.int .i64 x.term) ∧ w'.cell? ⟨w.heap.size, 1, none⟩ = some (.int .i64 x.vote) ∧ w'.cell? ⟨w.heap.size, 2, none⟩ = some (.int .i64 x.base) ∧ w'.cell? ⟨w.heap.size, 3, none⟩ = some (.int .i64 x.bterm) ∧ w'.cell? ⟨w.heap.size, 4, none⟩ = some (u) ∧ w'.cell? ⟨w.heap.size + 1, 0, none⟩ = some (.int .i64 r.kind) ∧ w'.cell? ⟨w.heap.size + 1, 1, none⟩ = some (.int .i64 r.term) ∧ w'.cell? ⟨w.heap.size + 1, 2, none⟩ = some (.int .i64 r.index) ∧ w'.cell? ⟨w.heap.size + 1, 3, none⟩ = some (.int .i64 r.vote) ∧ w'.cell? ⟨w.heap.size + 1, 4, none⟩ = some (.string r.data)) (fun i => false) 11 (by rfl) (by kernel_rfl) ?_
    have BrdX : Hid (Below w.heap.size w wh.drew) := Bwh.out.drew
    have CrdX : Hid (Below w6.heap.size w6 wh.drew) := Cwh.out.drew
    have KrdX : Hid (Blk wh.drew w.heap.size #[.int .i64 x.term, .int .i64 x.vote, .int .i64 x.base, .int .i64 x.bterm, u] 49) := Kwh.out
    have JrdX : Hid (Blk wh.drew (w.heap.size + 1) #[.int .i64 r.kind, .int .i64 r.term, .int .i64 r.index, .int .i64 r.vote, .string r.data] 40) := Jwh.out
    have SrdX : Hid (Blk wh.drew p6 #[.int .i64 RR.1.term, .int .i64 RR.1.vote, .int .i64 RR.1.base, .int .i64 RR.1.bterm, .slice E1 em ec] 26) := Swh.out
    have PrdX : Hid (Blk wh.drew p9 #[.int .i64 RR.1.term, .int .i64 RR.1.vote, .int .i64 RR.1.base, .int .i64 RR.1.bterm, .slice G1 gm gc] 26) := Pwh.out
    have NrdX : Hid (Owns wh.drew w6.heap.size 76 2 (.slice G1 gm gc) NR) := Nwh.out
    clear Bwh Cwh Kwh Jwh Swh Pwh Nwh
    generalize wh.drew = rdX at *
    refine until_take 0 (v := ?_) (by rfl) (by kernel_rfl) (by exact fun _ _ _ h => h) (by rfl) ?_ S0.out ?_
    rotate_left
    · intro w hSw
      try dsimp only at hSw
      go_simp
      try with_reducible rfl
    try simp only [Act.put, List.setIfInBounds_toArray, List.set_cons_zero, List.set_cons_succ]
    refine until_take 2 (v := ?_) (by rfl) (by kernel_rfl) (by exact fun _ _ _ h => h) (by rfl) ?_ S0.out ?_
    rotate_left
    · intro w hSw
      try dsimp only at hSw
      go_simp
      try with_reducible rfl
    try simp only [Act.put, List.setIfInBounds_toArray, List.set_cons_zero, List.set_cons_succ]
    refine until_two 1 8 (by rfl) (by rfl) (by kernel_rfl) (fun K hK => ?_) (fun K hK => ?_)
    rotate_left
    focus
      go_simp
      have zk := Blk.new rdX #[.int .i64 0, .int .i64 0, .int .i64 0, .int .i64 0, .slice none 0 0] 26
      have bz : Below rdX.heap.size rdX (rdX.alloc (.cells #[.int .i64 0, .int .i64 0, .int .i64 0, .int .i64 0, .slice none 0 0] 26)) := (Below.refl _ _).alloc (Nat.le_refl _) _
      generalize rdX.alloc (.cells #[.int .i64 0, .int .i64 0, .int .i64 0, .int .i64 0, .slice none 0 0] 26) = rd22a at *
      have Brd22a : Hid (Below w.heap.size w rd22a) := BrdX.out.trans (bz.mono BrdX.out.size)
      have Crd22a : Hid (Below w6.heap.size w6 rd22a) := CrdX.out.trans (bz.mono CrdX.out.size)
      have Krd22a : Hid (Blk rd22a w.heap.size #[.int .i64 x.term, .int .i64 x.vote, .int .i64 x.base, .int .i64 x.bterm, u] 49) := KrdX.out.on bz KrdX.out.lt
      have Jrd22a : Hid (Blk rd22a (w.heap.size + 1) #[.int .i64 r.kind, .int .i64 r.term, .int .i64 r.index, .int .i64 r.vote, .string r.data] 40) := JrdX.out.on bz JrdX.out.lt
      have Srd22a : Hid (Blk rd22a p6 #[.int .i64 RR.1.term, .int .i64 RR.1.vote, .int .i64 RR.1.base, .int .i64 RR.1.bterm, .slice E1 em ec] 26) := SrdX.out.on bz SrdX.out.lt
      have Prd22a : Hid (Blk rd22a p9 #[.int .i64 RR.1.term, .int .i64 RR.1.vote, .int .i64 RR.1.base, .int .i64 RR.1.bterm, .slice G1 gm gc] 26) := PrdX.out.on bz PrdX.out.lt
      have Nrd22a : Hid (Owns rd22a w6.heap.size 76 2 (.slice G1 gm gc) NR) := NrdX.out.on bz
      have LB : Hid (w.heap.size ≤ rdX.heap.size) := BrdX.out.size
      have LC : Hid (w6.heap.size ≤ rdX.heap.size) := CrdX.out.size
      have LK : Hid (w.heap.size ≠ rdX.heap.size) := Nat.ne_of_lt KrdX.out.lt
      have LJ : Hid ((w.heap.size + 1) ≠ rdX.heap.size) := Nat.ne_of_lt JrdX.out.lt
      have LS : Hid (p6 ≠ rdX.heap.size) := Nat.ne_of_lt SrdX.out.lt
      have LP : Hid (p9 ≠ rdX.heap.size) := Nat.ne_of_lt PrdX.out.lt
      have zX : Hid (Blk rd22a rdX.heap.size #[.int .i64 0, .int .i64 0, .int .i64 0, .int .i64 0, .slice none 0 0] 26) := zk
      clear zk bz
      clear BrdX CrdX KrdX JrdX SrdX PrdX NrdX
      generalize rdX.heap.size = pz at *
      have zrd22a : Hid (Blk rd22a pz #[.int .i64 0, .int .i64 0, .int .i64 0, .int .i64 0, .slice none 0 0] 26) := zX.out
      clear zX
      refine hK.out _ _ (fun _ _ => ⟨Krd22a.out.cell 0 _ rfl, Krd22a.out.cell 1 _ rfl, Krd22a.out.cell 2 _ rfl, Krd22a.out.cell 3 _ rfl, Krd22a.out.cell 4 _ rfl, Jrd22a.out.cell 0 _ rfl, Jrd22a.out.cell 1 _ rfl, Jrd22a.out.cell 2 _ rfl, Jrd22a.out.cell 3 _ rfl, Jrd22a.out.cell 4 _ rfl⟩) ?_
      clear hK K
      try simp only [Act.put, List.setIfInBounds_toArray, List.set_cons_zero, List.set_cons_succ]
      refine until_one 1 (by rfl) (by kernel_rfl) (fun K hK => ?_)
      go_simp
      refine (cT rd22a (HV.out.on Brd22a.out) Brd22a.out.size).mono ?_
      rintro e rd23c ⟨uard, rfl, hOa, hba⟩
      have Brd23c : Hid (Below w.heap.size w rd23c) := Brd22a.out.trans (hba.mono Brd22a.out.size)
      have Crd23c : Hid (Below w6.heap.size w6 rd23c) := Crd22a.out.trans (hba.mono Crd22a.out.size)
      have Krd23c : Hid (Blk rd23c w.heap.size #[.int .i64 x.term, .int .i64 x.vote, .int .i64 x.base, .int .i64 x.bterm, u] 49) := Krd22a.out.on hba Krd22a.out.lt
      have Jrd23c : Hid (Blk rd23c (w.heap.size + 1) #[.int .i64 r.kind, .int .i64 r.term, .int .i64 r.index, .int .i64 r.vote, .string r.data] 40) := Jrd22a.out.on hba Jrd22a.out.lt
      have Srd23c : Hid (Blk rd23c p6 #[.int .i64 RR.1.term, .int .i64 RR.1.vote, .int .i64 RR.1.base, .int .i64 RR.1.bterm, .slice E1 em ec] 26) := Srd22a.out.on hba Srd22a.out.lt
      have Prd23c : Hid (Blk rd23c p9 #[.int .i64 RR.1.term, .int .i64 RR.1.vote, .int .i64 RR.1.base, .int .i64 RR.1.bterm, .slice G1 gm gc] 26) := Prd22a.out.on hba Prd22a.out.lt
      have Nrd23c : Hid (Owns rd23c w6.heap.size 76 2 (.slice G1 gm gc) NR) := Nrd22a.out.on hba
      have zrd23c : Hid (Blk rd23c pz #[.int .i64 0, .int .i64 0, .int .i64 0, .int .i64 0, .slice none 0 0] 26) := zrd22a.out.on hba zrd22a.out.lt
      have UAX : Hid (WalO rd23c rd22a.heap.size uard x) := hOa
      clear hba hOa
      clear Brd22a Crd22a Krd22a Jrd22a Srd22a Prd22a Nrd22a zrd22a
      generalize rd22a.heap.size = bu at *
      have UArd23c : Hid (WalO rd23c bu uard x) := UAX.out
      clear UAX
      go_wp2_with fail
      refine hK.out _ _ (fun _ _ => ⟨Krd23c.out.cell 0 _ rfl, Krd23c.out.cell 1 _ rfl, Krd23c.out.cell 2 _ rfl, Krd23c.out.cell 3 _ rfl, Krd23c.out.cell 4 _ rfl, Jrd23c.out.cell 0 _ rfl, Jrd23c.out.cell 1 _ rfl, Jrd23c.out.cell 2 _ rfl, Jrd23c.out.cell 3 _ rfl, Jrd23c.out.cell 4 _ rfl⟩) ?_
      clear hK K
      try simp only [Act.put, List.setIfInBounds_toArray, List.set_cons_zero, List.set_cons_succ]
      refine until_one 3 (by rfl) (by kernel_rfl) (fun K hK => ?_)
      go_simp
      refine (cTR rd23c).mono ?_
      rintro e rd24c ⟨rfl, hba⟩
      have Brd24c : Hid (Below w.heap.size w rd24c) := Brd23c.out.trans (hba.mono Brd23c.out.size)
      have Crd24c : Hid (Below w6.heap.size w6 rd24c) := Crd23c.out.trans (hba.mono Crd23c.out.size)
      have Krd24c : Hid (Blk rd24c w.heap.size #[.int .i64 x.term, .int .i64 x.vote, .int .i64 x.base, .int .i64 x.bterm, u] 49) := Krd23c.out.on hba Krd23c.out.lt
      have Jrd24c : Hid (Blk rd24c (w.heap.size + 1) #[.int .i64 r.kind, .int .i64 r.term, .int .i64 r.index, .int .i64 r.vote, .string r.data] 40) := Jrd23c.out.on hba Jrd23c.out.lt
      have Srd24c : Hid (Blk rd24c p6 #[.int .i64 RR.1.term, .int .i64 RR.1.vote, .int .i64 RR.1.base, .int .i64 RR.1.bterm, .slice E1 em ec] 26) := Srd23c.out.on hba Srd23c.out.lt
      have Prd24c : Hid (Blk rd24c p9 #[.int .i64 RR.1.term, .int .i64 RR.1.vote, .int .i64 RR.1.base, .int .i64 RR.1.bterm, .slice G1 gm gc] 26) := Prd23c.out.on hba Prd23c.out.lt
      have Nrd24c : Hid (Owns rd24c w6.heap.size 76 2 (.slice G1 gm gc) NR) := Nrd23c.out.on hba
      have zrd24c : Hid (Blk rd24c pz #[.int .i64 0, .int .i64 0, .int .i64 0, .int .i64 0, .slice none 0 0] 26) := zrd23c.out.on hba zrd23c.out.lt
      have UArd24c : Hid (WalO rd24c bu uard x) := UArd23c.out.on hba
      clear UArd23c
      clear hba
      clear Brd23c Crd23c Krd23c Jrd23c Srd23c Prd23c Nrd23c zrd23c
      go_wp2_with fail
      refine hK.out _ _ (fun _ _ => ⟨Krd24c.out.cell 0 _ rfl, Krd24c.out.cell 1 _ rfl, Krd24c.out.cell 2 _ rfl, Krd24c.out.cell 3 _ rfl, Krd24c.out.cell 4 _ rfl, Jrd24c.out.cell 0 _ rfl, Jrd24c.out.cell 1 _ rfl, Jrd24c.out.cell 2 _ rfl, Jrd24c.out.cell 3 _ rfl, Jrd24c.out.cell 4 _ rfl⟩) ?_
      clear hK K
      try simp only [Act.put, List.setIfInBounds_toArray, List.set_cons_zero, List.set_cons_succ]
      refine until_one 4 (by rfl) (by kernel_rfl) (fun K hK => ?_)
      go_simp
      refine (cG rd24c uard UArd24c.out.lies).mono ?_
      rintro e rd25c ⟨x6, b6', rfl, ⟨hO3, hbb⟩, hba⟩
      subst hbb
      have Brd25c : Hid (Below w.heap.size w rd25c) := Brd24c.out.trans (hba.mono Brd24c.out.size)
      have Crd25c : Hid (Below w6.heap.size w6 rd25c) := Crd24c.out.trans (hba.mono Crd24c.out.size)
      have Krd25c : Hid (Blk rd25c w.heap.size #[.int .i64 x.term, .int .i64 x.vote, .int .i64 x.base, .int .i64 x.bterm, u] 49) := Krd24c.out.on hba Krd24c.out.lt
      have Jrd25c : Hid (Blk rd25c (w.heap.size + 1) #[.int .i64 r.kind, .int .i64 r.term, .int .i64 r.index, .int .i64 r.vote, .string r.data] 40) := Jrd24c.out.on hba Jrd24c.out.lt
      have Srd25c : Hid (Blk rd25c p6 #[.int .i64 RR.1.term, .int .i64 RR.1.vote, .int .i64 RR.1.base, .int .i64 RR.1.bterm, .slice E1 em ec] 26) := Srd24c.out.on hba Srd24c.out.lt
      have Prd25c : Hid (Blk rd25c p9 #[.int .i64 RR.1.term, .int .i64 RR.1.vote, .int .i64 RR.1.base, .int .i64 RR.1.bterm, .slice G1 gm gc] 26) := Prd24c.out.on hba Prd24c.out.lt
      have Nrd25c : Hid (Owns rd25c w6.heap.size 76 2 (.slice G1 gm gc) NR) := Nrd24c.out.on hba
      have zrd25c : Hid (Blk rd25c pz #[.int .i64 0, .int .i64 0, .int .i64 0, .int .i64 0, .slice none 0 0] 26) := zrd24c.out.on hba zrd24c.out.lt
      obtain ⟨s1, rfl, a1⟩ := hO3
      obtain ⟨H1, hm, hc, rfl⟩ := a1.shape
      have AX : Hid (Owns rd25c rd24c.heap.size 76 2 (.slice H1 hm hc) (entR RR.1.ents)) := a1
      clear hba a1
      clear Brd24c Crd24c Krd24c Jrd24c Srd24c Prd24c Nrd24c zrd24c
      clear UArd24c
      generalize rd24c.heap.size = bq at *
      have Ard25c : Hid (Owns rd25c bq 76 2 (.slice H1 hm hc) (entR RR.1.ents)) := AX.out
      clear AX
      go_wp2_with fail
      refine hK.out _ _ (fun _ _ => ⟨Krd25c.out.cell 0 _ rfl, Krd25c.out.cell 1 _ rfl, Krd25c.out.cell 2 _ rfl, Krd25c.out.cell 3 _ rfl, Krd25c.out.cell 4 _ rfl, Jrd25c.out.cell 0 _ rfl, Jrd25c.out.cell 1 _ rfl, Jrd25c.out.cell 2 _ rfl, Jrd25c.out.cell 3 _ rfl, Jrd25c.out.cell 4 _ rfl⟩) ?_
      clear hK K
      try simp only [Act.put, List.setIfInBounds_toArray, List.set_cons_zero, List.set_cons_succ]
      refine until_pure 5 (v := ?_) (by rfl) (by kernel_rfl) (by exact fun _ _ _ h => h) (by rfl) ?_ ?_
      rotate_left
      · intro w
        go_simp
        try with_reducible rfl
      try simp only [Act.put, List.setIfInBounds_toArray, List.set_cons_zero, List.set_cons_succ]
      refine until_pure 6 (v := ?_) (by rfl) (by kernel_rfl) (by exact fun _ _ _ h => h) (by rfl) ?_ ?_
      rotate_left
      · intro w
        go_simp
        try with_reducible rfl
      try simp only [Act.put, List.setIfInBounds_toArray, List.set_cons_zero, List.set_cons_succ]
      refine until_pure 7 (v := ?_) (by rfl) (by kernel_rfl) (by exact fun _ _ _ h => h) (by rfl) ?_ ?_
      rotate_left
      · intro w
        go_simp
        try with_reducible rfl
      try simp only [Act.put, List.setIfInBounds_toArray, List.set_cons_zero, List.set_cons_succ]
      refine until_one 9 (by rfl) (by kernel_rfl) (fun K hK => ?_)
      have r0 := zrd25c.out.cell 0 (.int .i64 0) rfl
      have g0 := zrd25c.out.free 0
      have r1 := zrd25c.out.cell 1 (.int .i64 0) rfl
      have g1 := zrd25c.out.free 1
      have r2 := zrd25c.out.cell 2 (.int .i64 0) rfl
      have g2 := zrd25c.out.free 2
      have r3 := zrd25c.out.cell 3 (.int .i64 0) rfl
      have g3 := zrd25c.out.free 3
      have r4 := zrd25c.out.cell 4 (.slice none 0 0) rfl
      have g4 := zrd25c.out.free 4
      go_simp
      have NE : Hid ((Value.slice H1 hm hc).ownBlock ≠ some pz) := Ard25c.out.notBlk zrd25c.out (by decide)
      have LN : Hid ((Value.slice G1 gm gc).ownBlock ≠ some pz) := Nrd25c.out.notBlk zrd25c.out (by decide)
      have hz := (((((zrd25c.out.set 0 (.int .i64 RR.1.term)).set 1 (.int .i64 RR.1.vote)).set 2 (.int .i64 RR.1.base)).set 3 (.int .i64 RR.1.bterm)).set 4 (.slice H1 hm hc))
      have hoa := (((((Ard25c.out.other NE.out 0 (.int .i64 RR.1.term)).other NE.out 1 (.int .i64 RR.1.vote)).other NE.out 2 (.int .i64 RR.1.base)).other NE.out 3 (.int .i64 RR.1.bterm)).other NE.out 4 (.slice H1 hm hc))
      have hB := (((((Brd25c.out.setCell LB.out (.int .i64 RR.1.term) (p := ⟨pz, 0, none⟩)).setCell LB.out (.int .i64 RR.1.vote) (p := ⟨pz, 1, none⟩)).setCell LB.out (.int .i64 RR.1.base) (p := ⟨pz, 2, none⟩)).setCell LB.out (.int .i64 RR.1.bterm) (p := ⟨pz, 3, none⟩)).setCell LB.out (.slice H1 hm hc) (p := ⟨pz, 4, none⟩))
      have hC := (((((Crd25c.out.setCell LC.out (.int .i64 RR.1.term) (p := ⟨pz, 0, none⟩)).setCell LC.out (.int .i64 RR.1.vote) (p := ⟨pz, 1, none⟩)).setCell LC.out (.int .i64 RR.1.base) (p := ⟨pz, 2, none⟩)).setCell LC.out (.int .i64 RR.1.bterm) (p := ⟨pz, 3, none⟩)).setCell LC.out (.slice H1 hm hc) (p := ⟨pz, 4, none⟩))
      have hK := (((((Krd25c.out.other (LK.out) 0 (.int .i64 RR.1.term)).other (LK.out) 1 (.int .i64 RR.1.vote)).other (LK.out) 2 (.int .i64 RR.1.base)).other (LK.out) 3 (.int .i64 RR.1.bterm)).other (LK.out) 4 (.slice H1 hm hc))
      have hJ := (((((Jrd25c.out.other (LJ.out) 0 (.int .i64 RR.1.term)).other (LJ.out) 1 (.int .i64 RR.1.vote)).other (LJ.out) 2 (.int .i64 RR.1.base)).other (LJ.out) 3 (.int .i64 RR.1.bterm)).other (LJ.out) 4 (.slice H1 hm hc))
      have hS := (((((Srd25c.out.other (LS.out) 0 (.int .i64 RR.1.term)).other (LS.out) 1 (.int .i64 RR.1.vote)).other (LS.out) 2 (.int .i64 RR.1.base)).other (LS.out) 3 (.int .i64 RR.1.bterm)).other (LS.out) 4 (.slice H1 hm hc))
      have hP := (((((Prd25c.out.other (LP.out) 0 (.int .i64 RR.1.term)).other (LP.out) 1 (.int .i64 RR.1.vote)).other (LP.out) 2 (.int .i64 RR.1.base)).other (LP.out) 3 (.int .i64 RR.1.bterm)).other (LP.out) 4 (.slice H1 hm hc))
      have hN := (((((Nrd25c.out.other LN.out 0 (.int .i64 RR.1.term)).other LN.out 1 (.int .i64 RR.1.vote)).other LN.out 2 (.int .i64 RR.1.base)).other LN.out 3 (.int .i64 RR.1.bterm)).other LN.out 4 (.slice H1 hm hc))
      clear r0 r1 r2 r3 r4 g0 g1 g2 g3 g4 NE
      clear Brd25c Crd25c Krd25c Jrd25c Srd25c Prd25c Nrd25c zrd25c
      clear Ard25c
      generalize (((((rd25c.setCell ⟨pz, 0, none⟩ (.int .i64 RR.1.term)).setCell ⟨pz, 1, none⟩ (.int .i64 RR.1.vote)).setCell ⟨pz, 2, none⟩ (.int .i64 RR.1.base)).setCell ⟨pz, 3, none⟩ (.int .i64 RR.1.bterm)).setCell ⟨pz, 4, none⟩ (.slice H1 hm hc)) = wk at *
      have Bwk : Hid (Below w.heap.size w wk) := hB
      have Cwk : Hid (Below w6.heap.size w6 wk) := hC
      have Kwk : Hid (Blk wk w.heap.size #[.int .i64 x.term, .int .i64 x.vote, .int .i64 x.base, .int .i64 x.bterm, u] 49) := hK
      have Jwk : Hid (Blk wk (w.heap.size + 1) #[.int .i64 r.kind, .int .i64 r.term, .int .i64 r.index, .int .i64 r.vote, .string r.data] 40) := hJ
      have Swk : Hid (Blk wk p6 #[.int .i64 RR.1.term, .int .i64 RR.1.vote, .int .i64 RR.1.base, .int .i64 RR.1.bterm, .slice E1 em ec] 26) := hS
      have Pwk : Hid (Blk wk p9 #[.int .i64 RR.1.term, .int .i64 RR.1.vote, .int .i64 RR.1.base, .int .i64 RR.1.bterm, .slice G1 gm gc] 26) := hP
      have Nwk : Hid (Owns wk w6.heap.size 76 2 (.slice G1 gm gc) NR) := hN
      have Zwk : Hid (Blk wk pz #[.int .i64 RR.1.term, .int .i64 RR.1.vote, .int .i64 RR.1.base, .int .i64 RR.1.bterm, .slice H1 hm hc] 26) := hz
      have Awk : Hid (Owns wk bq 76 2 (.slice H1 hm hc) (entR RR.1.ents)) := hoa
      clear hz hoa hB hC hK hJ hS hP hN LB LC LK LJ LS LP LN
      refine hK.out _ _ (fun _ _ => ⟨Kwk.out.cell 0 _ rfl, Kwk.out.cell 1 _ rfl, Kwk.out.cell 2 _ rfl, Kwk.out.cell 3 _ rfl, Kwk.out.cell 4 _ rfl, Jwk.out.cell 0 _ rfl, Jwk.out.cell 1 _ rfl, Jwk.out.cell 2 _ rfl, Jwk.out.cell 3 _ rfl, Jwk.out.cell 4 _ rfl⟩) ?_
      clear hK K S0
      try simp only [Act.put, List.setIfInBounds_toArray, List.set_cons_zero, List.set_cons_succ]
      refine until_pure 10 (v := ?_) (by rfl) (by kernel_rfl) (by exact fun _ _ _ h => h) (by rfl) ?_ ?_
      rotate_left
      · intro w
        go_simp
        try with_reducible rfl
      try simp only [Act.put, List.setIfInBounds_toArray, List.set_cons_zero, List.set_cons_succ]
      refine until_done (by kernel_rfl) ?_ _
    rotate_left
    focus
      go_simp
      refine (cT rdX (HV.out.on BrdX.out) BrdX.out.size).mono ?_
      rintro e rd26c ⟨uard, rfl, hOa, hba⟩
      have Brd26c : Hid (Below w.heap.size w rd26c) := BrdX.out.trans (hba.mono BrdX.out.size)
      have Crd26c : Hid (Below w6.heap.size w6 rd26c) := CrdX.out.trans (hba.mono CrdX.out.size)
      have Krd26c : Hid (Blk rd26c w.heap.size #[.int .i64 x.term, .int .i64 x.vote, .int .i64 x.base, .int .i64 x.bterm, u] 49) := KrdX.out.on hba KrdX.out.lt
      have Jrd26c : Hid (Blk rd26c (w.heap.size + 1) #[.int .i64 r.kind, .int .i64 r.term, .int .i64 r.index, .int .i64 r.vote, .string r.data] 40) := JrdX.out.on hba JrdX.out.lt
      have Srd26c : Hid (Blk rd26c p6 #[.int .i64 RR.1.term, .int .i64 RR.1.vote, .int .i64 RR.1.base, .int .i64 RR.1.bterm, .slice E1 em ec] 26) := SrdX.out.on hba SrdX.out.lt
      have Prd26c : Hid (Blk rd26c p9 #[.int .i64 RR.1.term, .int .i64 RR.1.vote, .int .i64 RR.1.base, .int .i64 RR.1.bterm, .slice G1 gm gc] 26) := PrdX.out.on hba PrdX.out.lt
      have Nrd26c : Hid (Owns rd26c w6.heap.size 76 2 (.slice G1 gm gc) NR) := NrdX.out.on hba
      have UAX : Hid (WalO rd26c rdX.heap.size uard x) := hOa
      clear hba hOa
      clear BrdX CrdX KrdX JrdX SrdX PrdX NrdX
      generalize rdX.heap.size = bu at *
      have UArd26c : Hid (WalO rd26c bu uard x) := UAX.out
      clear UAX
      go_wp2_with fail
      refine hK.out _ _ (fun _ _ => ⟨Krd26c.out.cell 0 _ rfl, Krd26c.out.cell 1 _ rfl, Krd26c.out.cell 2 _ rfl, Krd26c.out.cell 3 _ rfl, Krd26c.out.cell 4 _ rfl, Jrd26c.out.cell 0 _ rfl, Jrd26c.out.cell 1 _ rfl, Jrd26c.out.cell 2 _ rfl, Jrd26c.out.cell 3 _ rfl, Jrd26c.out.cell 4 _ rfl⟩) ?_
      clear hK K
      try simp only [Act.put, List.setIfInBounds_toArray, List.set_cons_zero, List.set_cons_succ]
      refine until_two 3 8 (by rfl) (by rfl) (by kernel_rfl) (fun K hK => ?_) (fun K hK => ?_)
      rotate_left
      focus
        go_simp
        have zk := Blk.new rd26c #[.int .i64 0, .int .i64 0, .int .i64 0, .int .i64 0, .slice none 0 0] 26
        have bz : Below rd26c.heap.size rd26c (rd26c.alloc (.cells #[.int .i64 0, .int .i64 0, .int .i64 0, .int .i64 0, .slice none 0 0] 26)) := (Below.refl _ _).alloc (Nat.le_refl _) _
        generalize rd26c.alloc (.cells #[.int .i64 0, .int .i64 0, .int .i64 0, .int .i64 0, .slice none 0 0] 26) = rd27a at *
        have Brd27a : Hid (Below w.heap.size w rd27a) := Brd26c.out.trans (bz.mono Brd26c.out.size)
        have Crd27a : Hid (Below w6.heap.size w6 rd27a) := Crd26c.out.trans (bz.mono Crd26c.out.size)
        have Krd27a : Hid (Blk rd27a w.heap.size #[.int .i64 x.term, .int .i64 x.vote, .int .i64 x.base, .int .i64 x.bterm, u] 49) := Krd26c.out.on bz Krd26c.out.lt
        have Jrd27a : Hid (Blk rd27a (w.heap.size + 1) #[.int .i64 r.kind, .int .i64 r.term, .int .i64 r.index, .int .i64 r.vote, .string r.data] 40) := Jrd26c.out.on bz Jrd26c.out.lt
        have Srd27a : Hid (Blk rd27a p6 #[.int .i64 RR.1.term, .int .i64 RR.1.vote, .int .i64 RR.1.base, .int .i64 RR.1.bterm, .slice E1 em ec] 26) := Srd26c.out.on bz Srd26c.out.lt
        have Prd27a : Hid (Blk rd27a p9 #[.int .i64 RR.1.term, .int .i64 RR.1.vote, .int .i64 RR.1.base, .int .i64 RR.1.bterm, .slice G1 gm gc] 26) := Prd26c.out.on bz Prd26c.out.lt
        have Nrd27a : Hid (Owns rd27a w6.heap.size 76 2 (.slice G1 gm gc) NR) := Nrd26c.out.on bz
        have LB : Hid (w.heap.size ≤ rd26c.heap.size) := Brd26c.out.size
        have LC : Hid (w6.heap.size ≤ rd26c.heap.size) := Crd26c.out.size
        have LK : Hid (w.heap.size ≠ rd26c.heap.size) := Nat.ne_of_lt Krd26c.out.lt
        have LJ : Hid ((w.heap.size + 1) ≠ rd26c.heap.size) := Nat.ne_of_lt Jrd26c.out.lt
        have LS : Hid (p6 ≠ rd26c.heap.size) := Nat.ne_of_lt Srd26c.out.lt
        have LP : Hid (p9 ≠ rd26c.heap.size) := Nat.ne_of_lt Prd26c.out.lt
        have UArd27a : Hid (WalO rd27a bu uard x) := UArd26c.out.on bz
        clear UArd26c
        have zX : Hid (Blk rd27a rd26c.heap.size #[.int .i64 0, .int .i64 0, .int .i64 0, .int .i64 0, .slice none 0 0] 26) := zk
        clear zk bz
        clear Brd26c Crd26c Krd26c Jrd26c Srd26c Prd26c Nrd26c
        generalize rd26c.heap.size = pz at *
        have zrd27a : Hid (Blk rd27a pz #[.int .i64 0, .int .i64 0, .int .i64 0, .int .i64 0, .slice none 0 0] 26) := zX.out
        clear zX
        refine hK.out _ _ (fun _ _ => ⟨Krd27a.out.cell 0 _ rfl, Krd27a.out.cell 1 _ rfl, Krd27a.out.cell 2 _ rfl, Krd27a.out.cell 3 _ rfl, Krd27a.out.cell 4 _ rfl, Jrd27a.out.cell 0 _ rfl, Jrd27a.out.cell 1 _ rfl, Jrd27a.out.cell 2 _ rfl, Jrd27a.out.cell 3 _ rfl, Jrd27a.out.cell 4 _ rfl⟩) ?_
        clear hK K
        try simp only [Act.put, List.setIfInBounds_toArray, List.set_cons_zero, List.set_cons_succ]
        refine until_one 3 (by rfl) (by kernel_rfl) (fun K hK => ?_)
        go_simp
        refine (cTR rd27a).mono ?_
        rintro e rd28c ⟨rfl, hba⟩
        have Brd28c : Hid (Below w.heap.size w rd28c) := Brd27a.out.trans (hba.mono Brd27a.out.size)
        have Crd28c : Hid (Below w6.heap.size w6 rd28c) := Crd27a.out.trans (hba.mono Crd27a.out.size)
        have Krd28c : Hid (Blk rd28c w.heap.size #[.int .i64 x.term, .int .i64 x.vote, .int .i64 x.base, .int .i64 x.bterm, u] 49) := Krd27a.out.on hba Krd27a.out.lt
        have Jrd28c : Hid (Blk rd28c (w.heap.size + 1) #[.int .i64 r.kind, .int .i64 r.term, .int .i64 r.index, .int .i64 r.vote, .string r.data] 40) := Jrd27a.out.on hba Jrd27a.out.lt
        have Srd28c : Hid (Blk rd28c p6 #[.int .i64 RR.1.term, .int .i64 RR.1.vote, .int .i64 RR.1.base, .int .i64 RR.1.bterm, .slice E1 em ec] 26) := Srd27a.out.on hba Srd27a.out.lt
        have Prd28c : Hid (Blk rd28c p9 #[.int .i64 RR.1.term, .int .i64 RR.1.vote, .int .i64 RR.1.base, .int .i64 RR.1.bterm, .slice G1 gm gc] 26) := Prd27a.out.on hba Prd27a.out.lt
        have Nrd28c : Hid (Owns rd28c w6.heap.size 76 2 (.slice G1 gm gc) NR) := Nrd27a.out.on hba
        have zrd28c : Hid (Blk rd28c pz #[.int .i64 0, .int .i64 0, .int .i64 0, .int .i64 0, .slice none 0 0] 26) := zrd27a.out.on hba zrd27a.out.lt
        have UArd28c : Hid (WalO rd28c bu uard x) := UArd27a.out.on hba
        clear UArd27a
        clear hba
        clear Brd27a Crd27a Krd27a Jrd27a Srd27a Prd27a Nrd27a zrd27a
        go_wp2_with fail
        refine hK.out _ _ (fun _ _ => ⟨Krd28c.out.cell 0 _ rfl, Krd28c.out.cell 1 _ rfl, Krd28c.out.cell 2 _ rfl, Krd28c.out.cell 3 _ rfl, Krd28c.out.cell 4 _ rfl, Jrd28c.out.cell 0 _ rfl, Jrd28c.out.cell 1 _ rfl, Jrd28c.out.cell 2 _ rfl, Jrd28c.out.cell 3 _ rfl, Jrd28c.out.cell 4 _ rfl⟩) ?_
        clear hK K
        try simp only [Act.put, List.setIfInBounds_toArray, List.set_cons_zero, List.set_cons_succ]
        refine until_one 4 (by rfl) (by kernel_rfl) (fun K hK => ?_)
        go_simp
        refine (cG rd28c uard UArd28c.out.lies).mono ?_
        rintro e rd29c ⟨x6, b6', rfl, ⟨hO3, hbb⟩, hba⟩
        subst hbb
        have Brd29c : Hid (Below w.heap.size w rd29c) := Brd28c.out.trans (hba.mono Brd28c.out.size)
        have Crd29c : Hid (Below w6.heap.size w6 rd29c) := Crd28c.out.trans (hba.mono Crd28c.out.size)
        have Krd29c : Hid (Blk rd29c w.heap.size #[.int .i64 x.term, .int .i64 x.vote, .int .i64 x.base, .int .i64 x.bterm, u] 49) := Krd28c.out.on hba Krd28c.out.lt
        have Jrd29c : Hid (Blk rd29c (w.heap.size + 1) #[.int .i64 r.kind, .int .i64 r.term, .int .i64 r.index, .int .i64 r.vote, .string r.data] 40) := Jrd28c.out.on hba Jrd28c.out.lt
        have Srd29c : Hid (Blk rd29c p6 #[.int .i64 RR.1.term, .int .i64 RR.1.vote, .int .i64 RR.1.base, .int .i64 RR.1.bterm, .slice E1 em ec] 26) := Srd28c.out.on hba Srd28c.out.lt
        have Prd29c : Hid (Blk rd29c p9 #[.int .i64 RR.1.term, .int .i64 RR.1.vote, .int .i64 RR.1.base, .int .i64 RR.1.bterm, .slice G1 gm gc] 26) := Prd28c.out.on hba Prd28c.out.lt
        have Nrd29c : Hid (Owns rd29c w6.heap.size 76 2 (.slice G1 gm gc) NR) := Nrd28c.out.on hba
        have zrd29c : Hid (Blk rd29c pz #[.int .i64 0, .int .i64 0, .int .i64 0, .int .i64 0, .slice none 0 0] 26) := zrd28c.out.on hba zrd28c.out.lt
        obtain ⟨s1, rfl, a1⟩ := hO3
        obtain ⟨H1, hm, hc, rfl⟩ := a1.shape
        have AX : Hid (Owns rd29c rd28c.heap.size 76 2 (.slice H1 hm hc) (entR RR.1.ents)) := a1
        clear hba a1
        clear Brd28c Crd28c Krd28c Jrd28c Srd28c Prd28c Nrd28c zrd28c
        clear UArd28c
        generalize rd28c.heap.size = bq at *
        have Ard29c : Hid (Owns rd29c bq 76 2 (.slice H1 hm hc) (entR RR.1.ents)) := AX.out
        clear AX
        go_wp2_with fail
        refine hK.out _ _ (fun _ _ => ⟨Krd29c.out.cell 0 _ rfl, Krd29c.out.cell 1 _ rfl, Krd29c.out.cell 2 _ rfl, Krd29c.out.cell 3 _ rfl, Krd29c.out.cell 4 _ rfl, Jrd29c.out.cell 0 _ rfl, Jrd29c.out.cell 1 _ rfl, Jrd29c.out.cell 2 _ rfl, Jrd29c.out.cell 3 _ rfl, Jrd29c.out.cell 4 _ rfl⟩) ?_
        clear hK K
        try simp only [Act.put, List.setIfInBounds_toArray, List.set_cons_zero, List.set_cons_succ]
        refine until_pure 5 (v := ?_) (by rfl) (by kernel_rfl) (by exact fun _ _ _ h => h) (by rfl) ?_ ?_
        rotate_left
        · intro w
          go_simp
          try with_reducible rfl
        try simp only [Act.put, List.setIfInBounds_toArray, List.set_cons_zero, List.set_cons_succ]
        refine until_pure 6 (v := ?_) (by rfl) (by kernel_rfl) (by exact fun _ _ _ h => h) (by rfl) ?_ ?_
        rotate_left
        · intro w
          go_simp
          try with_reducible rfl
        try simp only [Act.put, List.setIfInBounds_toArray, List.set_cons_zero, List.set_cons_succ]
        refine until_pure 7 (v := ?_) (by rfl) (by kernel_rfl) (by exact fun _ _ _ h => h) (by rfl) ?_ ?_
        rotate_left
        · intro w
          go_simp
          try with_reducible rfl
        try simp only [Act.put, List.setIfInBounds_toArray, List.set_cons_zero, List.set_cons_succ]
        refine until_one 9 (by rfl) (by kernel_rfl) (fun K hK => ?_)
        have r0 := zrd29c.out.cell 0 (.int .i64 0) rfl
        have g0 := zrd29c.out.free 0
        have r1 := zrd29c.out.cell 1 (.int .i64 0) rfl
        have g1 := zrd29c.out.free 1
        have r2 := zrd29c.out.cell 2 (.int .i64 0) rfl
        have g2 := zrd29c.out.free 2
        have r3 := zrd29c.out.cell 3 (.int .i64 0) rfl
        have g3 := zrd29c.out.free 3
        have r4 := zrd29c.out.cell 4 (.slice none 0 0) rfl
        have g4 := zrd29c.out.free 4
        go_simp
        have NE : Hid ((Value.slice H1 hm hc).ownBlock ≠ some pz) := Ard29c.out.notBlk zrd29c.out (by decide)
        have LN : Hid ((Value.slice G1 gm gc).ownBlock ≠ some pz) := Nrd29c.out.notBlk zrd29c.out (by decide)
        have hz := (((((zrd29c.out.set 0 (.int .i64 RR.1.term)).set 1 (.int .i64 RR.1.vote)).set 2 (.int .i64 RR.1.base)).set 3 (.int .i64 RR.1.bterm)).set 4 (.slice H1 hm hc))
        have hoa := (((((Ard29c.out.other NE.out 0 (.int .i64 RR.1.term)).other NE.out 1 (.int .i64 RR.1.vote)).other NE.out 2 (.int .i64 RR.1.base)).other NE.out 3 (.int .i64 RR.1.bterm)).other NE.out 4 (.slice H1 hm hc))
        have hB := (((((Brd29c.out.setCell LB.out (.int .i64 RR.1.term) (p := ⟨pz, 0, none⟩)).setCell LB.out (.int .i64 RR.1.vote) (p := ⟨pz, 1, none⟩)).setCell LB.out (.int .i64 RR.1.base) (p := ⟨pz, 2, none⟩)).setCell LB.out (.int .i64 RR.1.bterm) (p := ⟨pz, 3, none⟩)).setCell LB.out (.slice H1 hm hc) (p := ⟨pz, 4, none⟩))
        have hC := (((((Crd29c.out.setCell LC.out (.int .i64 RR.1.term) (p := ⟨pz, 0, none⟩)).setCell LC.out (.int .i64 RR.1.vote) (p := ⟨pz, 1, none⟩)).setCell LC.out (.int .i64 RR.1.base) (p := ⟨pz, 2, none⟩)).setCell LC.out (.int .i64 RR.1.bterm) (p := ⟨pz, 3, none⟩)).setCell LC.out (.slice H1 hm hc) (p := ⟨pz, 4, none⟩))
        have hK := (((((Krd29c.out.other (LK.out) 0 (.int .i64 RR.1.term)).other (LK.out) 1 (.int .i64 RR.1.vote)).other (LK.out) 2 (.int .i64 RR.1.base)).other (LK.out) 3 (.int .i64 RR.1.bterm)).other (LK.out) 4 (.slice H1 hm hc))
        have hJ := (((((Jrd29c.out.other (LJ.out) 0 (.int .i64 RR.1.term)).other (LJ.out) 1 (.int .i64 RR.1.vote)).other (LJ.out) 2 (.int .i64 RR.1.base)).other (LJ.out) 3 (.int .i64 RR.1.bterm)).other (LJ.out) 4 (.slice H1 hm hc))
        have hS := (((((Srd29c.out.other (LS.out) 0 (.int .i64 RR.1.term)).other (LS.out) 1 (.int .i64 RR.1.vote)).other (LS.out) 2 (.int .i64 RR.1.base)).other (LS.out) 3 (.int .i64 RR.1.bterm)).other (LS.out) 4 (.slice H1 hm hc))
        have hP := (((((Prd29c.out.other (LP.out) 0 (.int .i64 RR.1.term)).other (LP.out) 1 (.int .i64 RR.1.vote)).other (LP.out) 2 (.int .i64 RR.1.base)).other (LP.out) 3 (.int .i64 RR.1.bterm)).other (LP.out) 4 (.slice H1 hm hc))
        have hN := (((((Nrd29c.out.other LN.out 0 (.int .i64 RR.1.term)).other LN.out 1 (.int .i64 RR.1.vote)).other LN.out 2 (.int .i64 RR.1.base)).other LN.out 3 (.int .i64 RR.1.bterm)).other LN.out 4 (.slice H1 hm hc))
        clear r0 r1 r2 r3 r4 g0 g1 g2 g3 g4 NE
        clear Brd29c Crd29c Krd29c Jrd29c Srd29c Prd29c Nrd29c zrd29c
        clear Ard29c
        generalize (((((rd29c.setCell ⟨pz, 0, none⟩ (.int .i64 RR.1.term)).setCell ⟨pz, 1, none⟩ (.int .i64 RR.1.vote)).setCell ⟨pz, 2, none⟩ (.int .i64 RR.1.base)).setCell ⟨pz, 3, none⟩ (.int .i64 RR.1.bterm)).setCell ⟨pz, 4, none⟩ (.slice H1 hm hc)) = wk at *
        have Bwk : Hid (Below w.heap.size w wk) := hB
        have Cwk : Hid (Below w6.heap.size w6 wk) := hC
        have Kwk : Hid (Blk wk w.heap.size #[.int .i64 x.term, .int .i64 x.vote, .int .i64 x.base, .int .i64 x.bterm, u] 49) := hK
        have Jwk : Hid (Blk wk (w.heap.size + 1) #[.int .i64 r.kind, .int .i64 r.term, .int .i64 r.index, .int .i64 r.vote, .string r.data] 40) := hJ
        have Swk : Hid (Blk wk p6 #[.int .i64 RR.1.term, .int .i64 RR.1.vote, .int .i64 RR.1.base, .int .i64 RR.1.bterm, .slice E1 em ec] 26) := hS
        have Pwk : Hid (Blk wk p9 #[.int .i64 RR.1.term, .int .i64 RR.1.vote, .int .i64 RR.1.base, .int .i64 RR.1.bterm, .slice G1 gm gc] 26) := hP
        have Nwk : Hid (Owns wk w6.heap.size 76 2 (.slice G1 gm gc) NR) := hN
        have Zwk : Hid (Blk wk pz #[.int .i64 RR.1.term, .int .i64 RR.1.vote, .int .i64 RR.1.base, .int .i64 RR.1.bterm, .slice H1 hm hc] 26) := hz
        have Awk : Hid (Owns wk bq 76 2 (.slice H1 hm hc) (entR RR.1.ents)) := hoa
        clear hz hoa hB hC hK hJ hS hP hN LB LC LK LJ LS LP LN
        refine hK.out _ _ (fun _ _ => ⟨Kwk.out.cell 0 _ rfl, Kwk.out.cell 1 _ rfl, Kwk.out.cell 2 _ rfl, Kwk.out.cell 3 _ rfl, Kwk.out.cell 4 _ rfl, Jwk.out.cell 0 _ rfl, Jwk.out.cell 1 _ rfl, Jwk.out.cell 2 _ rfl, Jwk.out.cell 3 _ rfl, Jwk.out.cell 4 _ rfl⟩) ?_
        clear hK K S0
        try simp only [Act.put, List.setIfInBounds_toArray, List.set_cons_zero, List.set_cons_succ]
        refine until_pure 10 (v := ?_) (by rfl) (by kernel_rfl) (by exact fun _ _ _ h => h) (by rfl) ?_ ?_
        rotate_left
        · intro w
          go_simp
          try with_reducible rfl
        try simp only [Act.put, List.setIfInBounds_toArray, List.set_cons_zero, List.set_cons_succ]
        refine until_done (by kernel_rfl) ?_ _
      rotate_left
      focus
        go_simp
        refine (cTR rd26c).mono ?_
        rintro e rd30c ⟨rfl, hba⟩
        have Brd30c : Hid (Below w.heap.size w rd30c) := Brd26c.out.trans (hba.mono Brd26c.out.size)
        have Crd30c : Hid (Below w6.heap.size w6 rd30c) := Crd26c.out.trans (hba.mono Crd26c.out.size)
        have Krd30c : Hid (Blk rd30c w.heap.size #[.int .i64 x.term, .int .i64 x.vote, .int .i64 x.base, .int .i64 x.bterm, u] 49) := Krd26c.out.on hba Krd26c.out.lt
        have Jrd30c : Hid (Blk rd30c (w.heap.size + 1) #[.int .i64 r.kind, .int .i64 r.term, .int .i64 r.index, .int .i64 r.vote, .string r.data] 40) := Jrd26c.out.on hba Jrd26c.out.lt
        have Srd30c : Hid (Blk rd30c p6 #[.int .i64 RR.1.term, .int .i64 RR.1.vote, .int .i64 RR.1.base, .int .i64 RR.1.bterm, .slice E1 em ec] 26) := Srd26c.out.on hba Srd26c.out.lt
        have Prd30c : Hid (Blk rd30c p9 #[.int .i64 RR.1.term, .int .i64 RR.1.vote, .int .i64 RR.1.base, .int .i64 RR.1.bterm, .slice G1 gm gc] 26) := Prd26c.out.on hba Prd26c.out.lt
        have Nrd30c : Hid (Owns rd30c w6.heap.size 76 2 (.slice G1 gm gc) NR) := Nrd26c.out.on hba
        have UArd30c : Hid (WalO rd30c bu uard x) := UArd26c.out.on hba
        clear UArd26c
        clear hba
        clear Brd26c Crd26c Krd26c Jrd26c Srd26c Prd26c Nrd26c
        go_wp2_with fail
        refine hK.out _ _ (fun _ _ => ⟨Krd30c.out.cell 0 _ rfl, Krd30c.out.cell 1 _ rfl, Krd30c.out.cell 2 _ rfl, Krd30c.out.cell 3 _ rfl, Krd30c.out.cell 4 _ rfl, Jrd30c.out.cell 0 _ rfl, Jrd30c.out.cell 1 _ rfl, Jrd30c.out.cell 2 _ rfl, Jrd30c.out.cell 3 _ rfl, Jrd30c.out.cell 4 _ rfl⟩) ?_
        clear hK K
        try simp only [Act.put, List.setIfInBounds_toArray, List.set_cons_zero, List.set_cons_succ]
        refine until_two 4 8 (by rfl) (by rfl) (by kernel_rfl) (fun K hK => ?_) (fun K hK => ?_)
        rotate_left
        focus
          go_simp
          have zk := Blk.new rd30c #[.int .i64 0, .int .i64 0, .int .i64 0, .int .i64 0, .slice none 0 0] 26
          have bz : Below rd30c.heap.size rd30c (rd30c.alloc (.cells #[.int .i64 0, .int .i64 0, .int .i64 0, .int .i64 0, .slice none 0 0] 26)) := (Below.refl _ _).alloc (Nat.le_refl _) _
          generalize rd30c.alloc (.cells #[.int .i64 0, .int .i64 0, .int .i64 0, .int .i64 0, .slice none 0 0] 26) = rd31a at *
          have Brd31a : Hid (Below w.heap.size w rd31a) := Brd30c.out.trans (bz.mono Brd30c.out.size)
          have Crd31a : Hid (Below w6.heap.size w6 rd31a) := Crd30c.out.trans (bz.mono Crd30c.out.size)
          have Krd31a : Hid (Blk rd31a w.heap.size #[.int .i64 x.term, .int .i64 x.vote, .int .i64 x.base, .int .i64 x.bterm, u] 49) := Krd30c.out.on bz Krd30c.out.lt
          have Jrd31a : Hid (Blk rd31a (w.heap.size + 1) #[.int .i64 r.kind, .int .i64 r.term, .int .i64 r.index, .int .i64 r.vote, .string r.data] 40) := Jrd30c.out.on bz Jrd30c.out.lt
          have Srd31a : Hid (Blk rd31a p6 #[.int .i64 RR.1.term, .int .i64 RR.1.vote, .int .i64 RR.1.base, .int .i64 RR.1.bterm, .slice E1 em ec] 26) := Srd30c.out.on bz Srd30c.out.lt
          have Prd31a : Hid (Blk rd31a p9 #[.int .i64 RR.1.term, .int .i64 RR.1.vote, .int .i64 RR.1.base, .int .i64 RR.1.bterm, .slice G1 gm gc] 26) := Prd30c.out.on bz Prd30c.out.lt
          have Nrd31a : Hid (Owns rd31a w6.heap.size 76 2 (.slice G1 gm gc) NR) := Nrd30c.out.on bz
          have LB : Hid (w.heap.size ≤ rd30c.heap.size) := Brd30c.out.size
          have LC : Hid (w6.heap.size ≤ rd30c.heap.size) := Crd30c.out.size
          have LK : Hid (w.heap.size ≠ rd30c.heap.size) := Nat.ne_of_lt Krd30c.out.lt
          have LJ : Hid ((w.heap.size + 1) ≠ rd30c.heap.size) := Nat.ne_of_lt Jrd30c.out.lt
          have LS : Hid (p6 ≠ rd30c.heap.size) := Nat.ne_of_lt Srd30c.out.lt
          have LP : Hid (p9 ≠ rd30c.heap.size) := Nat.ne_of_lt Prd30c.out.lt
          have UArd31a : Hid (WalO rd31a bu uard x) := UArd30c.out.on bz
          clear UArd30c
          have zX : Hid (Blk rd31a rd30c.heap.size #[.int .i64 0, .int .i64 0, .int .i64 0, .int .i64 0, .slice none 0 0] 26) := zk
          clear zk bz
          clear Brd30c Crd30c Krd30c Jrd30c Srd30c Prd30c Nrd30c
          generalize rd30c.heap.size = pz at *
          have zrd31a : Hid (Blk rd31a pz #[.int .i64 0, .int .i64 0, .int .i64 0, .int .i64 0, .slice none 0 0] 26) := zX.out
          clear zX
          refine hK.out _ _ (fun _ _ => ⟨Krd31a.out.cell 0 _ rfl, Krd31a.out.cell 1 _ rfl, Krd31a.out.cell 2 _ rfl, Krd31a.out.cell 3 _ rfl, Krd31a.out.cell 4 _ rfl, Jrd31a.out.cell 0 _ rfl, Jrd31a.out.cell 1 _ rfl, Jrd31a.out.cell 2 _ rfl, Jrd31a.out.cell 3 _ rfl, Jrd31a.out.cell 4 _ rfl⟩) ?_
          clear hK K
          try simp only [Act.put, List.setIfInBounds_toArray, List.set_cons_zero, List.set_cons_succ]
          refine until_one 4 (by rfl) (by kernel_rfl) (fun K hK => ?_)
          go_simp
          refine (cG rd31a uard UArd31a.out.lies).mono ?_
          rintro e rd32c ⟨x6, b6', rfl, ⟨hO3, hbb⟩, hba⟩
          subst hbb
          have Brd32c : Hid (Below w.heap.size w rd32c) := Brd31a.out.trans (hba.mono Brd31a.out.size)
          have Crd32c : Hid (Below w6.heap.size w6 rd32c) := Crd31a.out.trans (hba.mono Crd31a.out.size)
          have Krd32c : Hid (Blk rd32c w.heap.size #[.int .i64 x.term, .int .i64 x.vote, .int .i64 x.base, .int .i64 x.bterm, u] 49) := Krd31a.out.on hba Krd31a.out.lt
          have Jrd32c : Hid (Blk rd32c (w.heap.size + 1) #[.int .i64 r.kind, .int .i64 r.term, .int .i64 r.index, .int .i64 r.vote, .string r.data] 40) := Jrd31a.out.on hba Jrd31a.out.lt
          have Srd32c : Hid (Blk rd32c p6 #[.int .i64 RR.1.term, .int .i64 RR.1.vote, .int .i64 RR.1.base, .int .i64 RR.1.bterm, .slice E1 em ec] 26) := Srd31a.out.on hba Srd31a.out.lt
          have Prd32c : Hid (Blk rd32c p9 #[.int .i64 RR.1.term, .int .i64 RR.1.vote, .int .i64 RR.1.base, .int .i64 RR.1.bterm, .slice G1 gm gc] 26) := Prd31a.out.on hba Prd31a.out.lt
          have Nrd32c : Hid (Owns rd32c w6.heap.size 76 2 (.slice G1 gm gc) NR) := Nrd31a.out.on hba
          have zrd32c : Hid (Blk rd32c pz #[.int .i64 0, .int .i64 0, .int .i64 0, .int .i64 0, .slice none 0 0] 26) := zrd31a.out.on hba zrd31a.out.lt
          obtain ⟨s1, rfl, a1⟩ := hO3
          obtain ⟨H1, hm, hc, rfl⟩ := a1.shape
          have AX : Hid (Owns rd32c rd31a.heap.size 76 2 (.slice H1 hm hc) (entR RR.1.ents)) := a1
          clear hba a1
          clear Brd31a Crd31a Krd31a Jrd31a Srd31a Prd31a Nrd31a zrd31a
          clear UArd31a
          generalize rd31a.heap.size = bq at *
          have Ard32c : Hid (Owns rd32c bq 76 2 (.slice H1 hm hc) (entR RR.1.ents)) := AX.out
          clear AX
          go_wp2_with fail
          refine hK.out _ _ (fun _ _ => ⟨Krd32c.out.cell 0 _ rfl, Krd32c.out.cell 1 _ rfl, Krd32c.out.cell 2 _ rfl, Krd32c.out.cell 3 _ rfl, Krd32c.out.cell 4 _ rfl, Jrd32c.out.cell 0 _ rfl, Jrd32c.out.cell 1 _ rfl, Jrd32c.out.cell 2 _ rfl, Jrd32c.out.cell 3 _ rfl, Jrd32c.out.cell 4 _ rfl⟩) ?_
          clear hK K
          try simp only [Act.put, List.setIfInBounds_toArray, List.set_cons_zero, List.set_cons_succ]
          refine until_pure 5 (v := ?_) (by rfl) (by kernel_rfl) (by exact fun _ _ _ h => h) (by rfl) ?_ ?_
          rotate_left
          · intro w
            go_simp
            try with_reducible rfl
          try simp only [Act.put, List.setIfInBounds_toArray, List.set_cons_zero, List.set_cons_succ]
          refine until_pure 6 (v := ?_) (by rfl) (by kernel_rfl) (by exact fun _ _ _ h => h) (by rfl) ?_ ?_
          rotate_left
          · intro w
            go_simp
            try with_reducible rfl
          try simp only [Act.put, List.setIfInBounds_toArray, List.set_cons_zero, List.set_cons_succ]
          refine until_pure 7 (v := ?_) (by rfl) (by kernel_rfl) (by exact fun _ _ _ h => h) (by rfl) ?_ ?_
          rotate_left
          · intro w
            go_simp
            try with_reducible rfl
          try simp only [Act.put, List.setIfInBounds_toArray, List.set_cons_zero, List.set_cons_succ]
          refine until_one 9 (by rfl) (by kernel_rfl) (fun K hK => ?_)
          have r0 := zrd32c.out.cell 0 (.int .i64 0) rfl
          have g0 := zrd32c.out.free 0
          have r1 := zrd32c.out.cell 1 (.int .i64 0) rfl
          have g1 := zrd32c.out.free 1
          have r2 := zrd32c.out.cell 2 (.int .i64 0) rfl
          have g2 := zrd32c.out.free 2
          have r3 := zrd32c.out.cell 3 (.int .i64 0) rfl
          have g3 := zrd32c.out.free 3
          have r4 := zrd32c.out.cell 4 (.slice none 0 0) rfl
          have g4 := zrd32c.out.free 4
          go_simp
          have NE : Hid ((Value.slice H1 hm hc).ownBlock ≠ some pz) := Ard32c.out.notBlk zrd32c.out (by decide)
          have LN : Hid ((Value.slice G1 gm gc).ownBlock ≠ some pz) := Nrd32c.out.notBlk zrd32c.out (by decide)
          have hz := (((((zrd32c.out.set 0 (.int .i64 RR.1.term)).set 1 (.int .i64 RR.1.vote)).set 2 (.int .i64 RR.1.base)).set 3 (.int .i64 RR.1.bterm)).set 4 (.slice H1 hm hc))
          have hoa := (((((Ard32c.out.other NE.out 0 (.int .i64 RR.1.term)).other NE.out 1 (.int .i64 RR.1.vote)).other NE.out 2 (.int .i64 RR.1.base)).other NE.out 3 (.int .i64 RR.1.bterm)).other NE.out 4 (.slice H1 hm hc))
          have hB := (((((Brd32c.out.setCell LB.out (.int .i64 RR.1.term) (p := ⟨pz, 0, none⟩)).setCell LB.out (.int .i64 RR.1.vote) (p := ⟨pz, 1, none⟩)).setCell LB.out (.int .i64 RR.1.base) (p := ⟨pz, 2, none⟩)).setCell LB.out (.int .i64 RR.1.bterm) (p := ⟨pz, 3, none⟩)).setCell LB.out (.slice H1 hm hc) (p := ⟨pz, 4, none⟩))
          have hC := (((((Crd32c.out.setCell LC.out (.int .i64 RR.1.term) (p := ⟨pz, 0, none⟩)).setCell LC.out (.int .i64 RR.1.vote) (p := ⟨pz, 1, none⟩)).setCell LC.out (.int .i64 RR.1.base) (p := ⟨pz, 2, none⟩)).setCell LC.out (.int .i64 RR.1.bterm) (p := ⟨pz, 3, none⟩)).setCell LC.out (.slice H1 hm hc) (p := ⟨pz, 4, none⟩))
          have hK := (((((Krd32c.out.other (LK.out) 0 (.int .i64 RR.1.term)).other (LK.out) 1 (.int .i64 RR.1.vote)).other (LK.out) 2 (.int .i64 RR.1.base)).other (LK.out) 3 (.int .i64 RR.1.bterm)).other (LK.out) 4 (.slice H1 hm hc))
          have hJ := (((((Jrd32c.out.other (LJ.out) 0 (.int .i64 RR.1.term)).other (LJ.out) 1 (.int .i64 RR.1.vote)).other (LJ.out) 2 (.int .i64 RR.1.base)).other (LJ.out) 3 (.int .i64 RR.1.bterm)).other (LJ.out) 4 (.slice H1 hm hc))
          have hS := (((((Srd32c.out.other (LS.out) 0 (.int .i64 RR.1.term)).other (LS.out) 1 (.int .i64 RR.1.vote)).other (LS.out) 2 (.int .i64 RR.1.base)).other (LS.out) 3 (.int .i64 RR.1.bterm)).other (LS.out) 4 (.slice H1 hm hc))
          have hP := (((((Prd32c.out.other (LP.out) 0 (.int .i64 RR.1.term)).other (LP.out) 1 (.int .i64 RR.1.vote)).other (LP.out) 2 (.int .i64 RR.1.base)).other (LP.out) 3 (.int .i64 RR.1.bterm)).other (LP.out) 4 (.slice H1 hm hc))
          have hN := (((((Nrd32c.out.other LN.out 0 (.int .i64 RR.1.term)).other LN.out 1 (.int .i64 RR.1.vote)).other LN.out 2 (.int .i64 RR.1.base)).other LN.out 3 (.int .i64 RR.1.bterm)).other LN.out 4 (.slice H1 hm hc))
          clear r0 r1 r2 r3 r4 g0 g1 g2 g3 g4 NE
          clear Brd32c Crd32c Krd32c Jrd32c Srd32c Prd32c Nrd32c zrd32c
          clear Ard32c
          generalize (((((rd32c.setCell ⟨pz, 0, none⟩ (.int .i64 RR.1.term)).setCell ⟨pz, 1, none⟩ (.int .i64 RR.1.vote)).setCell ⟨pz, 2, none⟩ (.int .i64 RR.1.base)).setCell ⟨pz, 3, none⟩ (.int .i64 RR.1.bterm)).setCell ⟨pz, 4, none⟩ (.slice H1 hm hc)) = wk at *
          have Bwk : Hid (Below w.heap.size w wk) := hB
          have Cwk : Hid (Below w6.heap.size w6 wk) := hC
          have Kwk : Hid (Blk wk w.heap.size #[.int .i64 x.term, .int .i64 x.vote, .int .i64 x.base, .int .i64 x.bterm, u] 49) := hK
          have Jwk : Hid (Blk wk (w.heap.size + 1) #[.int .i64 r.kind, .int .i64 r.term, .int .i64 r.index, .int .i64 r.vote, .string r.data] 40) := hJ
          have Swk : Hid (Blk wk p6 #[.int .i64 RR.1.term, .int .i64 RR.1.vote, .int .i64 RR.1.base, .int .i64 RR.1.bterm, .slice E1 em ec] 26) := hS
          have Pwk : Hid (Blk wk p9 #[.int .i64 RR.1.term, .int .i64 RR.1.vote, .int .i64 RR.1.base, .int .i64 RR.1.bterm, .slice G1 gm gc] 26) := hP
          have Nwk : Hid (Owns wk w6.heap.size 76 2 (.slice G1 gm gc) NR) := hN
          have Zwk : Hid (Blk wk pz #[.int .i64 RR.1.term, .int .i64 RR.1.vote, .int .i64 RR.1.base, .int .i64 RR.1.bterm, .slice H1 hm hc] 26) := hz
          have Awk : Hid (Owns wk bq 76 2 (.slice H1 hm hc) (entR RR.1.ents)) := hoa
          clear hz hoa hB hC hK hJ hS hP hN LB LC LK LJ LS LP LN
          refine hK.out _ _ (fun _ _ => ⟨Kwk.out.cell 0 _ rfl, Kwk.out.cell 1 _ rfl, Kwk.out.cell 2 _ rfl, Kwk.out.cell 3 _ rfl, Kwk.out.cell 4 _ rfl, Jwk.out.cell 0 _ rfl, Jwk.out.cell 1 _ rfl, Jwk.out.cell 2 _ rfl, Jwk.out.cell 3 _ rfl, Jwk.out.cell 4 _ rfl⟩) ?_
          clear hK K S0
          try simp only [Act.put, List.setIfInBounds_toArray, List.set_cons_zero, List.set_cons_succ]
          refine until_pure 10 (v := ?_) (by rfl) (by kernel_rfl) (by exact fun _ _ _ h => h) (by rfl) ?_ ?_
          rotate_left
          · intro w
            go_simp
            try with_reducible rfl
          try simp only [Act.put, List.setIfInBounds_toArray, List.set_cons_zero, List.set_cons_succ]
          refine until_done (by kernel_rfl) ?_ _
        rotate_left
        focus
          go_simp
          refine (cG rd30c uard UArd30c.out.lies).mono ?_
          rintro e rd33c ⟨x6, b6', rfl, ⟨hO3, hbb⟩, hba⟩
          subst hbb
          have Brd33c : Hid (Below w.heap.size w rd33c) := Brd30c.out.trans (hba.mono Brd30c.out.size)
          have Crd33c : Hid (Below w6.heap.size w6 rd33c) := Crd30c.out.trans (hba.mono Crd30c.out.size)
          have Krd33c : Hid (Blk rd33c w.heap.size #[.int .i64 x.term, .int .i64 x.vote, .int .i64 x.base, .int .i64 x.bterm, u] 49) := Krd30c.out.on hba Krd30c.out.lt
          have Jrd33c : Hid (Blk rd33c (w.heap.size + 1) #[.int .i64 r.kind, .int .i64 r.term, .int .i64 r.index, .int .i64 r.vote, .string r.data] 40) := Jrd30c.out.on hba Jrd30c.out.lt
          have Srd33c : Hid (Blk rd33c p6 #[.int .i64 RR.1.term, .int .i64 RR.1.vote, .int .i64 RR.1.base, .int .i64 RR.1.bterm, .slice E1 em ec] 26) := Srd30c.out.on hba Srd30c.out.lt
          have Prd33c : Hid (Blk rd33c p9 #[.int .i64 RR.1.term, .int .i64 RR.1.vote, .int .i64 RR.1.base, .int .i64 RR.1.bterm, .slice G1 gm gc] 26) := Prd30c.out.on hba Prd30c.out.lt
          have Nrd33c : Hid (Owns rd33c w6.heap.size 76 2 (.slice G1 gm gc) NR) := Nrd30c.out.on hba
          obtain ⟨s1, rfl, a1⟩ := hO3
          obtain ⟨H1, hm, hc, rfl⟩ := a1.shape
          have AX : Hid (Owns rd33c rd30c.heap.size 76 2 (.slice H1 hm hc) (entR RR.1.ents)) := a1
          clear hba a1
          clear Brd30c Crd30c Krd30c Jrd30c Srd30c Prd30c Nrd30c
          clear UArd30c
          generalize rd30c.heap.size = bq at *
          have Ard33c : Hid (Owns rd33c bq 76 2 (.slice H1 hm hc) (entR RR.1.ents)) := AX.out
          clear AX
          go_wp2_with fail
          refine hK.out _ _ (fun _ _ => ⟨Krd33c.out.cell 0 _ rfl, Krd33c.out.cell 1 _ rfl, Krd33c.out.cell 2 _ rfl, Krd33c.out.cell 3 _ rfl, Krd33c.out.cell 4 _ rfl, Jrd33c.out.cell 0 _ rfl, Jrd33c.out.cell 1 _ rfl, Jrd33c.out.cell 2 _ rfl, Jrd33c.out.cell 3 _ rfl, Jrd33c.out.cell 4 _ rfl⟩) ?_
          clear hK K
          try simp only [Act.put, List.setIfInBounds_toArray, List.set_cons_zero, List.set_cons_succ]
          refine until_pure 5 (v := ?_) (by rfl) (by kernel_rfl) (by exact fun _ _ _ h => h) (by rfl) ?_ ?_
          rotate_left
          · intro w
            go_simp
            try with_reducible rfl
          try simp only [Act.put, List.setIfInBounds_toArray, List.set_cons_zero, List.set_cons_succ]
          refine until_pure 6 (v := ?_) (by rfl) (by kernel_rfl) (by exact fun _ _ _ h => h) (by rfl) ?_ ?_
          rotate_left
          · intro w
            go_simp
            try with_reducible rfl
          try simp only [Act.put, List.setIfInBounds_toArray, List.set_cons_zero, List.set_cons_succ]
          refine until_pure 7 (v := ?_) (by rfl) (by kernel_rfl) (by exact fun _ _ _ h => h) (by rfl) ?_ ?_
          rotate_left
          · intro w
            go_simp
            try with_reducible rfl
          try simp only [Act.put, List.setIfInBounds_toArray, List.set_cons_zero, List.set_cons_succ]
          refine until_one 8 (by rfl) (by kernel_rfl) (fun K hK => ?_)
          go_simp
          have zk := Blk.new rd33c #[.int .i64 0, .int .i64 0, .int .i64 0, .int .i64 0, .slice none 0 0] 26
          have bz : Below rd33c.heap.size rd33c (rd33c.alloc (.cells #[.int .i64 0, .int .i64 0, .int .i64 0, .int .i64 0, .slice none 0 0] 26)) := (Below.refl _ _).alloc (Nat.le_refl _) _
          generalize rd33c.alloc (.cells #[.int .i64 0, .int .i64 0, .int .i64 0, .int .i64 0, .slice none 0 0] 26) = rd34a at *
          have Brd34a : Hid (Below w.heap.size w rd34a) := Brd33c.out.trans (bz.mono Brd33c.out.size)
          have Crd34a : Hid (Below w6.heap.size w6 rd34a) := Crd33c.out.trans (bz.mono Crd33c.out.size)
          have Krd34a : Hid (Blk rd34a w.heap.size #[.int .i64 x.term, .int .i64 x.vote, .int .i64 x.base, .int .i64 x.bterm, u] 49) := Krd33c.out.on bz Krd33c.out.lt
          have Jrd34a : Hid (Blk rd34a (w.heap.size + 1) #[.int .i64 r.kind, .int .i64 r.term, .int .i64 r.index, .int .i64 r.vote, .string r.data] 40) := Jrd33c.out.on bz Jrd33c.out.lt
          have Srd34a : Hid (Blk rd34a p6 #[.int .i64 RR.1.term, .int .i64 RR.1.vote, .int .i64 RR.1.base, .int .i64 RR.1.bterm, .slice E1 em ec] 26) := Srd33c.out.on bz Srd33c.out.lt
          have Prd34a : Hid (Blk rd34a p9 #[.int .i64 RR.1.term, .int .i64 RR.1.vote, .int .i64 RR.1.base, .int .i64 RR.1.bterm, .slice G1 gm gc] 26) := Prd33c.out.on bz Prd33c.out.lt
          have Nrd34a : Hid (Owns rd34a w6.heap.size 76 2 (.slice G1 gm gc) NR) := Nrd33c.out.on bz
          have LB : Hid (w.heap.size ≤ rd33c.heap.size) := Brd33c.out.size
          have LC : Hid (w6.heap.size ≤ rd33c.heap.size) := Crd33c.out.size
          have LK : Hid (w.heap.size ≠ rd33c.heap.size) := Nat.ne_of_lt Krd33c.out.lt
          have LJ : Hid ((w.heap.size + 1) ≠ rd33c.heap.size) := Nat.ne_of_lt Jrd33c.out.lt
          have LS : Hid (p6 ≠ rd33c.heap.size) := Nat.ne_of_lt Srd33c.out.lt
          have LP : Hid (p9 ≠ rd33c.heap.size) := Nat.ne_of_lt Prd33c.out.lt
          have Ard34a : Hid (Owns rd34a bq 76 2 (.slice H1 hm hc) (entR RR.1.ents)) := Ard33c.out.on bz
          clear Ard33c
          have zX : Hid (Blk rd34a rd33c.heap.size #[.int .i64 0, .int .i64 0, .int .i64 0, .int .i64 0, .slice none 0 0] 26) := zk
          clear zk bz
          clear Brd33c Crd33c Krd33c Jrd33c Srd33c Prd33c Nrd33c
          generalize rd33c.heap.size = pz at *
          have zrd34a : Hid (Blk rd34a pz #[.int .i64 0, .int .i64 0, .int .i64 0, .int .i64 0, .slice none 0 0] 26) := zX.out
          clear zX
          refine hK.out _ _ (fun _ _ => ⟨Krd34a.out.cell 0 _ rfl, Krd34a.out.cell 1 _ rfl, Krd34a.out.cell 2 _ rfl, Krd34a.out.cell 3 _ rfl, Krd34a.out.cell 4 _ rfl, Jrd34a.out.cell 0 _ rfl, Jrd34a.out.cell 1 _ rfl, Jrd34a.out.cell 2 _ rfl, Jrd34a.out.cell 3 _ rfl, Jrd34a.out.cell 4 _ rfl⟩) ?_
          clear hK K
          try simp only [Act.put, List.setIfInBounds_toArray, List.set_cons_zero, List.set_cons_succ]
          refine until_one 9 (by rfl) (by kernel_rfl) (fun K hK => ?_)
          have r0 := zrd34a.out.cell 0 (.int .i64 0) rfl
          have g0 := zrd34a.out.free 0
          have r1 := zrd34a.out.cell 1 (.int .i64 0) rfl
          have g1 := zrd34a.out.free 1
          have r2 := zrd34a.out.cell 2 (.int .i64 0) rfl
          have g2 := zrd34a.out.free 2
          have r3 := zrd34a.out.cell 3 (.int .i64 0) rfl
          have g3 := zrd34a.out.free 3
          have r4 := zrd34a.out.cell 4 (.slice none 0 0) rfl
          have g4 := zrd34a.out.free 4
          go_simp
          have NE : Hid ((Value.slice H1 hm hc).ownBlock ≠ some pz) := Ard34a.out.notBlk zrd34a.out (by decide)
          have LN : Hid ((Value.slice G1 gm gc).ownBlock ≠ some pz) := Nrd34a.out.notBlk zrd34a.out (by decide)
          have hz := (((((zrd34a.out.set 0 (.int .i64 RR.1.term)).set 1 (.int .i64 RR.1.vote)).set 2 (.int .i64 RR.1.base)).set 3 (.int .i64 RR.1.bterm)).set 4 (.slice H1 hm hc))
          have hoa := (((((Ard34a.out.other NE.out 0 (.int .i64 RR.1.term)).other NE.out 1 (.int .i64 RR.1.vote)).other NE.out 2 (.int .i64 RR.1.base)).other NE.out 3 (.int .i64 RR.1.bterm)).other NE.out 4 (.slice H1 hm hc))
          have hB := (((((Brd34a.out.setCell LB.out (.int .i64 RR.1.term) (p := ⟨pz, 0, none⟩)).setCell LB.out (.int .i64 RR.1.vote) (p := ⟨pz, 1, none⟩)).setCell LB.out (.int .i64 RR.1.base) (p := ⟨pz, 2, none⟩)).setCell LB.out (.int .i64 RR.1.bterm) (p := ⟨pz, 3, none⟩)).setCell LB.out (.slice H1 hm hc) (p := ⟨pz, 4, none⟩))
          have hC := (((((Crd34a.out.setCell LC.out (.int .i64 RR.1.term) (p := ⟨pz, 0, none⟩)).setCell LC.out (.int .i64 RR.1.vote) (p := ⟨pz, 1, none⟩)).setCell LC.out (.int .i64 RR.1.base) (p := ⟨pz, 2, none⟩)).setCell LC.out (.int .i64 RR.1.bterm) (p := ⟨pz, 3, none⟩)).setCell LC.out (.slice H1 hm hc) (p := ⟨pz, 4, none⟩))
          have hK := (((((Krd34a.out.other (LK.out) 0 (.int .i64 RR.1.term)).other (LK.out) 1 (.int .i64 RR.1.vote)).other (LK.out) 2 (.int .i64 RR.1.base)).other (LK.out) 3 (.int .i64 RR.1.bterm)).other (LK.out) 4 (.slice H1 hm hc))
          have hJ := (((((Jrd34a.out.other (LJ.out) 0 (.int .i64 RR.1.term)).other (LJ.out) 1 (.int .i64 RR.1.vote)).other (LJ.out) 2 (.int .i64 RR.1.base)).other (LJ.out) 3 (.int .i64 RR.1.bterm)).other (LJ.out) 4 (.slice H1 hm hc))
          have hS := (((((Srd34a.out.other (LS.out) 0 (.int .i64 RR.1.term)).other (LS.out) 1 (.int .i64 RR.1.vote)).other (LS.out) 2 (.int .i64 RR.1.base)).other (LS.out) 3 (.int .i64 RR.1.bterm)).other (LS.out) 4 (.slice H1 hm hc))
          have hP := (((((Prd34a.out.other (LP.out) 0 (.int .i64 RR.1.term)).other (LP.out) 1 (.int .i64 RR.1.vote)).other (LP.out) 2 (.int .i64 RR.1.base)).other (LP.out) 3 (.int .i64 RR.1.bterm)).other (LP.out) 4 (.slice H1 hm hc))
          have hN := (((((Nrd34a.out.other LN.out 0 (.int .i64 RR.1.term)).other LN.out 1 (.int .i64 RR.1.vote)).other LN.out 2 (.int .i64 RR.1.base)).other LN.out 3 (.int .i64 RR.1.bterm)).other LN.out 4 (.slice H1 hm hc))
          clear r0 r1 r2 r3 r4 g0 g1 g2 g3 g4 NE
          clear Brd34a Crd34a Krd34a Jrd34a Srd34a Prd34a Nrd34a zrd34a
          clear Ard34a
          generalize (((((rd34a.setCell ⟨pz, 0, none⟩ (.int .i64 RR.1.term)).setCell ⟨pz, 1, none⟩ (.int .i64 RR.1.vote)).setCell ⟨pz, 2, none⟩ (.int .i64 RR.1.base)).setCell ⟨pz, 3, none⟩ (.int .i64 RR.1.bterm)).setCell ⟨pz, 4, none⟩ (.slice H1 hm hc)) = wk at *
          have Bwk : Hid (Below w.heap.size w wk) := hB
          have Cwk : Hid (Below w6.heap.size w6 wk) := hC
          have Kwk : Hid (Blk wk w.heap.size #[.int .i64 x.term, .int .i64 x.vote, .int .i64 x.base, .int .i64 x.bterm, u] 49) := hK
          have Jwk : Hid (Blk wk (w.heap.size + 1) #[.int .i64 r.kind, .int .i64 r.term, .int .i64 r.index, .int .i64 r.vote, .string r.data] 40) := hJ
          have Swk : Hid (Blk wk p6 #[.int .i64 RR.1.term, .int .i64 RR.1.vote, .int .i64 RR.1.base, .int .i64 RR.1.bterm, .slice E1 em ec] 26) := hS
          have Pwk : Hid (Blk wk p9 #[.int .i64 RR.1.term, .int .i64 RR.1.vote, .int .i64 RR.1.base, .int .i64 RR.1.bterm, .slice G1 gm gc] 26) := hP
          have Nwk : Hid (Owns wk w6.heap.size 76 2 (.slice G1 gm gc) NR) := hN
          have Zwk : Hid (Blk wk pz #[.int .i64 RR.1.term, .int .i64 RR.1.vote, .int .i64 RR.1.base, .int .i64 RR.1.bterm, .slice H1 hm hc] 26) := hz
          have Awk : Hid (Owns wk bq 76 2 (.slice H1 hm hc) (entR RR.1.ents)) := hoa
          clear hz hoa hB hC hK hJ hS hP hN LB LC LK LJ LS LP LN
          refine hK.out _ _ (fun _ _ => ⟨Kwk.out.cell 0 _ rfl, Kwk.out.cell 1 _ rfl, Kwk.out.cell 2 _ rfl, Kwk.out.cell 3 _ rfl, Kwk.out.cell 4 _ rfl, Jwk.out.cell 0 _ rfl, Jwk.out.cell 1 _ rfl, Jwk.out.cell 2 _ rfl, Jwk.out.cell 3 _ rfl, Jwk.out.cell 4 _ rfl⟩) ?_
          clear hK K S0
          try simp only [Act.put, List.setIfInBounds_toArray, List.set_cons_zero, List.set_cons_succ]
          refine until_pure 10 (v := ?_) (by rfl) (by kernel_rfl) (by exact fun _ _ _ h => h) (by rfl) ?_ ?_
          rotate_left
          · intro w
            go_simp
            try with_reducible rfl
          try simp only [Act.put, List.setIfInBounds_toArray, List.set_cons_zero, List.set_cons_succ]
          refine until_done (by kernel_rfl) ?_ _
  all_goals
    generalize pz = p14 at *
    have Qwk : Hid (Blk wk p14 #[.int .i64 RR.1.term, .int .i64 RR.1.vote, .int .i64 RR.1.base, .int .i64 RR.1.bterm, .slice H1 hm hc] 26) := Zwk.out
    have y0 := Qwk.out.cell 0 (.int .i64 RR.1.term) rfl
    have y1 := Qwk.out.cell 1 (.int .i64 RR.1.vote) rfl
    have y2 := Qwk.out.cell 2 (.int .i64 RR.1.base) rfl
    have y3 := Qwk.out.cell 3 (.int .i64 RR.1.bterm) rfl
    have y4 := Qwk.out.cell 4 (.slice H1 hm hc) rfl
    have s0 := Swk.out.cell 0 (.int .i64 RR.1.term) rfl
    have s1 := Swk.out.cell 1 (.int .i64 RR.1.vote) rfl
    have s2 := Swk.out.cell 2 (.int .i64 RR.1.base) rfl
    have s3 := Swk.out.cell 3 (.int .i64 RR.1.bterm) rfl
    have s4 := Swk.out.cell 4 (.slice E1 em ec) rfl
    go_wp2_with fail
    refine (eqWal RR.1 (.agg #[.int .i64 RR.1.term, .int .i64 RR.1.vote, .int .i64 RR.1.base, .int .i64 RR.1.bterm, .slice H1 hm hc]) (.agg #[.int .i64 RR.1.term, .int .i64 RR.1.vote, .int .i64 RR.1.base, .int .i64 RR.1.bterm, .slice E1 em ec]) wk wk.heap.size ⟨_, rfl, Awk.out.lies⟩ ((TV6.out.on Cwk.out).mono Cwk.out.size) (by have := LR.out; omega) (Nat.le_refl _)).mono ?_
    rintro e wl ⟨rfl, hbl⟩
    have Bwl : Hid (Below w.heap.size w wl) := Bwk.out.trans (hbl.mono Bwk.out.size)
    have Pwl : Hid (Blk wl p9 #[.int .i64 RR.1.term, .int .i64 RR.1.vote, .int .i64 RR.1.base, .int .i64 RR.1.bterm, .slice G1 gm gc] 26) := Pwk.out.on hbl Pwk.out.lt
    have Nwl : Hid (Owns wl w6.heap.size 76 2 (.slice G1 gm gc) NR) := Nwk.out.on hbl
    clear hbl y0 y1 y2 y3 y4 s0 s1 s2 s3 s4
    have y0 := Pwl.out.cell 0 (.int .i64 RR.1.term) rfl
    have y1 := Pwl.out.cell 1 (.int .i64 RR.1.vote) rfl
    have y2 := Pwl.out.cell 2 (.int .i64 RR.1.base) rfl
    have y3 := Pwl.out.cell 3 (.int .i64 RR.1.bterm) rfl
    have y4 := Pwl.out.cell 4 (.slice G1 gm gc) rfl
    go_wp2_with fail
    refine (cH wl Nwl.out.lies).mono ?_
    rintro e wm ⟨rfl, hbm⟩
    have Bwm : Hid (Below w.heap.size w wm) := Bwl.out.trans (hbm.mono Bwl.out.size)
    clear hbm y0 y1 y2 y3 y4
    go_wp2_with fail
    go_ret
    exact ⟨rfl, Bwm.out⟩
end Go.Proofs.Ytajodeahigmcoaa
