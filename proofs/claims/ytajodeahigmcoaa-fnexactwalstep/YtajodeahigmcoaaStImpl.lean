/-
  Contracts of impl.stepped at every record, and of impl.WalStep.
-/
import Derived.Test.YtajodeahigmcoaaRows
import Derived.Test.YtajodeahigmcoaaStStep
import Derived.Test.YtajodeahigmcoaaStSpec
import Derived.Test.YtajodeahigmcoaaReadTold
import Derived.Test.YtajodeahigmcoaaWokImpl
import Derived.Handy
import Derived.Deep.RegionHeld3
namespace Go.Proofs.Ytajodeahigmcoaa
open Go.ChangeShapes Go.WideShapes Go.ChangeAt Go.RowKit Go.PlainAid
set_option linter.unusedVariables false

/-- What a record makes of a right log. -/
def stepR (x : Wl) (r : Rcd) : Wl × Bool := if (recOk r && recFits x r) = true then (stepTo x r, true) else (x, false)
theorem steppedV (x : Wl) (r : Rcd) (v : Value) (w : World) (base : Nat) (hv : WalO w base v x) (hn : x.ents.length ≤ 60) (hb1 : 0 ≤ x.base) (hb2 : x.base ≤ 100000) (hB : base ≤ w.heap.size) (hd : r.data.size ≤ 1048576) :
    Calls Try.prog 45 #[v, recV r] w fun e w' => ∃ u b, e = .returned (.tuple #[u, .bool b]) ∧ (WalO w' base u (stepR x r).1 ∧ b = (stepR x r).2) ∧ Below base w w' := by
  cases ho : recOk r
  · have h1 : recV r = .nilIface := by unfold recV; rw [ho]; rfl
    have h2 : stepR x r = (x, false) := by unfold stepR; rw [ho]; rfl
    rw [h1, h2]
    exact stepped_nil x v w base hv hn hb1 hb2 hB
  · have h1 : recV r = kindV r := by unfold recV; rw [if_pos ho]
    have h2 : stepR x r = if recFits x r = true then (stepTo x r, true) else (x, false) := by unfold stepR; rw [ho, Bool.true_and]
    rw [h1, h2]
    obtain ⟨k, t, i, vo, d⟩ := r
    rcases rest0_of k t i vo d ho with ⟨rfl, _, _⟩ | ⟨rfl, _⟩ | ⟨rfl, _, _, _⟩ | ⟨rfl, _, _⟩
    · exact stepped_hard t i vo d x v w base hv hn hb1 hb2 hB
    · exact stepped_entry t i vo d x v w base hv hn hb1 hb2 hB hd
    · exact stepped_cut t i vo d x v w base hv hn hb1 hb2 hB
    · have h3 : recFits x ⟨4, t, i, vo, d⟩ = false := by unfold recFits; simp
      rw [h3, if_neg Bool.false_ne_true]
      exact stepped_base _ x v w base hv hn hb1 hb2 hB

set_option maxRecDepth 20000 in
set_option maxHeartbeats 4000000 in
theorem implWalStep (x : Wl) (r : Rcd) (v : Value) (w : World) (B : Nat) (hv : WalV w B v x) (hf : FitsW x) (hd : r.data.size ≤ 1048576) (hw : wtW x ≤ 1048576) (hB : B ≤ w.heap.size) :
    Calls Try.prog 14 #[v, vRcd r] w fun e w' => ∃ u b, e = .returned (.tuple #[u, .bool b]) ∧ (WalO w' w.heap.size u (walStep x r).1 ∧ b = (walStep x r).2) ∧ Below w.heap.size w w' := by
  have HV : Hid (WalV w B v x) := hv
  have HF : Hid (FitsW x) := hf
  have HB : Hid (B ≤ w.heap.size) := hB
  have HD : Hid (r.data.size ≤ 1048576) := hd
  have HDD : Hid (∀ e ∈ x.ents, e.data.size ≤ 1048576) := fun e he => by have := wtE_mem x.ents e he; unfold wtW at hw; omega
  obtain ⟨u, rfl, hl⟩ := hv
  have c3 := fun wx => recordOfV r wx (by unfold maxLen; omega)
  unfold vRcd at c3 ⊢
  clear hl hf hB hd hw
  cases ho : walOk x
  · rw [step_bad x r ho]
    go_enter Try.func14, Try.ntmps14
    go_wp2_with fail
    have b0 : Below w.heap.size w (((w.alloc (.cells #[.int .i64 x.term, .int .i64 x.vote, .int .i64 x.base, .int .i64 x.bterm, u] 26)).alloc (.cells #[.int .i64 r.kind, .int .i64 r.term, .int .i64 r.index, .int .i64 r.vote, .string r.data] 35)).alloc (.cells #[.int .i64 0, .int .i64 0, .int .i64 0, .int .i64 0, .slice none 0 0] 26)) := below_alloc3 w _ _ _
    have kp := ((Blk.new w #[.int .i64 x.term, .int .i64 x.vote, .int .i64 x.base, .int .i64 x.bterm, u] 26).alloc (.cells #[.int .i64 r.kind, .int .i64 r.term, .int .i64 r.index, .int .i64 r.vote, .string r.data] 35)).alloc (.cells #[.int .i64 0, .int .i64 0, .int .i64 0, .int .i64 0, .slice none 0 0] 26)
    have kq := (Blk.new (w.alloc (.cells #[.int .i64 x.term, .int .i64 x.vote, .int .i64 x.base, .int .i64 x.bterm, u] 26)) #[.int .i64 r.kind, .int .i64 r.term, .int .i64 r.index, .int .i64 r.vote, .string r.data] 35).alloc (.cells #[.int .i64 0, .int .i64 0, .int .i64 0, .int .i64 0, .slice none 0 0] 26)
    have kr := Blk.new ((w.alloc (.cells #[.int .i64 x.term, .int .i64 x.vote, .int .i64 x.base, .int .i64 x.bterm, u] 26)).alloc (.cells #[.int .i64 r.kind, .int .i64 r.term, .int .i64 r.index, .int .i64 r.vote, .string r.data] 35)) #[.int .i64 0, .int .i64 0, .int .i64 0, .int .i64 0, .slice none 0 0] 26
    simp only [World.size_alloc] at kq kr
    generalize ((w.alloc (.cells #[.int .i64 x.term, .int .i64 x.vote, .int .i64 x.base, .int .i64 x.bterm, u] 26)).alloc (.cells #[.int .i64 r.kind, .int .i64 r.term, .int .i64 r.index, .int .i64 r.vote, .string r.data] 35)).alloc (.cells #[.int .i64 0, .int .i64 0, .int .i64 0, .int .i64 0, .slice none 0 0] 26) = W at *
    refine (implWalOk x (.agg #[.int .i64 x.term, .int .i64 x.vote, .int .i64 x.base, .int .i64 x.bterm, u]) W B (HV.out.on (b0.mono HB.out)) HF.out (Nat.le_trans HB.out b0.size)).mono ?_
    rintro e w1 ⟨rfl, hb1⟩
    have B1 : Hid (Below w.heap.size w w1) := b0.trans (hb1.mono b0.size)
    have KP1 : Hid (Blk w1 w.heap.size #[.int .i64 x.term, .int .i64 x.vote, .int .i64 x.base, .int .i64 x.bterm, u] 26) := kp.on hb1 kp.lt
    have KQ1 : Hid (Blk w1 (w.heap.size + 1) #[.int .i64 r.kind, .int .i64 r.term, .int .i64 r.index, .int .i64 r.vote, .string r.data] 35) := kq.on hb1 kq.lt
    have KR1 : Hid (Blk w1 (w.heap.size + 1 + 1) #[.int .i64 0, .int .i64 0, .int .i64 0, .int .i64 0, .slice none 0 0] 26) := kr.on hb1 kr.lt
    clear b0 kp kq kr hb1
    rw [ho]
    have e0 := KP1.out.cell 0 (.int .i64 x.term) rfl
    have f0 := KP1.out.free 0
    have e1 := KP1.out.cell 1 (.int .i64 x.vote) rfl
    have f1 := KP1.out.free 1
    have e2 := KP1.out.cell 2 (.int .i64 x.base) rfl
    have f2 := KP1.out.free 2
    have e3 := KP1.out.cell 3 (.int .i64 x.bterm) rfl
    have f3 := KP1.out.free 3
    have e4 := KP1.out.cell 4 (u) rfl
    have f4 := KP1.out.free 4
    have r0 := KR1.out.cell 0 (.int .i64 0) rfl
    have g0 := KR1.out.free 0
    have r1 := KR1.out.cell 1 (.int .i64 0) rfl
    have g1 := KR1.out.free 1
    have r2 := KR1.out.cell 2 (.int .i64 0) rfl
    have g2 := KR1.out.free 2
    have r3 := KR1.out.cell 3 (.int .i64 0) rfl
    have g3 := KR1.out.free 3
    have r4 := KR1.out.cell 4 (.slice none 0 0) rfl
    have g4 := KR1.out.free 4
    go_wp2_with fail
    have hF := (((((KR1.out.set 0 (.int .i64 0)).set 1 (.int .i64 0)).set 2 (.int .i64 0)).set 3 (.int .i64 0)).set 4 (.slice none 0 0))
    have FB := (((((B1.out.setCell (show w.heap.size ≤ w.heap.size + 1 + 1 by omega) (.int .i64 0) (p := ⟨_, 0, none⟩)).setCell (show w.heap.size ≤ w.heap.size + 1 + 1 by omega) (.int .i64 0) (p := ⟨_, 1, none⟩)).setCell (show w.heap.size ≤ w.heap.size + 1 + 1 by omega) (.int .i64 0) (p := ⟨_, 2, none⟩)).setCell (show w.heap.size ≤ w.heap.size + 1 + 1 by omega) (.int .i64 0) (p := ⟨_, 3, none⟩)).setCell (show w.heap.size ≤ w.heap.size + 1 + 1 by omega) (.slice none 0 0) (p := ⟨_, 4, none⟩))
    clear e0 f0 e1 f1 e2 f2 e3 f3 e4 f4 r0 g0 r1 g1 r2 g2 r3 g3 r4 g4
    generalize (((((w1.setCell ⟨w.heap.size + 1 + 1, 0, none⟩ (.int .i64 0)).setCell ⟨w.heap.size + 1 + 1, 1, none⟩ (.int .i64 0)).setCell ⟨w.heap.size + 1 + 1, 2, none⟩ (.int .i64 0)).setCell ⟨w.heap.size + 1 + 1, 3, none⟩ (.int .i64 0)).setCell ⟨w.heap.size + 1 + 1, 4, none⟩ (.slice none 0 0)) = WF at *
    have hG : Blk WF (w.heap.size + 1 + 1) #[.int .i64 0, .int .i64 0, .int .i64 0, .int .i64 0, .slice none 0 0] 26 := hF
    have mm0 := hG.cell 0 (.int .i64 0) rfl
    have mm1 := hG.cell 1 (.int .i64 0) rfl
    have mm2 := hG.cell 2 (.int .i64 0) rfl
    have mm3 := hG.cell 3 (.int .i64 0) rfl
    have mm4 := hG.cell 4 (.slice none 0 0) rfl
    exact bodyPost_ret (v := .tuple #[.agg #[.int .i64 0, .int .i64 0, .int .i64 0, .int .i64 0, .slice none 0 0], .bool false]) (by simp [results, go_sem, mm0, mm1, mm2, mm3, mm4]) rfl ⟨_, _, rfl, ⟨⟨_, rfl, Owns.nil _ _ _ _⟩, rfl⟩, FB⟩
  obtain ⟨n60, nb1, nb2⟩ := walOk_in x ho
  have HN60 : Hid (x.ents.length ≤ 60) := n60
  have HN : Hid (x.ents.length ≤ 1048576) := by unfold Hid; omega
  have HB1 : Hid (0 ≤ x.base) := nb1
  have HB2 : Hid (x.base ≤ 100000) := nb2
  clear n60 nb1 nb2
  have HS : Hid (walStep x r = stepR x r) := by
    unfold Hid walStep stepR
    rw [if_neg (by rw [ho]; exact Bool.noConfusion)]
  rw [HS.out]
  go_enter Try.func14, Try.ntmps14
  go_wp2_with fail
  have b0 : Below w.heap.size w (((w.alloc (.cells #[.int .i64 x.term, .int .i64 x.vote, .int .i64 x.base, .int .i64 x.bterm, u] 26)).alloc (.cells #[.int .i64 r.kind, .int .i64 r.term, .int .i64 r.index, .int .i64 r.vote, .string r.data] 35)).alloc (.cells #[.int .i64 0, .int .i64 0, .int .i64 0, .int .i64 0, .slice none 0 0] 26)) := below_alloc3 w _ _ _
  have kp := ((Blk.new w #[.int .i64 x.term, .int .i64 x.vote, .int .i64 x.base, .int .i64 x.bterm, u] 26).alloc (.cells #[.int .i64 r.kind, .int .i64 r.term, .int .i64 r.index, .int .i64 r.vote, .string r.data] 35)).alloc (.cells #[.int .i64 0, .int .i64 0, .int .i64 0, .int .i64 0, .slice none 0 0] 26)
  have kq := (Blk.new (w.alloc (.cells #[.int .i64 x.term, .int .i64 x.vote, .int .i64 x.base, .int .i64 x.bterm, u] 26)) #[.int .i64 r.kind, .int .i64 r.term, .int .i64 r.index, .int .i64 r.vote, .string r.data] 35).alloc (.cells #[.int .i64 0, .int .i64 0, .int .i64 0, .int .i64 0, .slice none 0 0] 26)
  have kr := Blk.new ((w.alloc (.cells #[.int .i64 x.term, .int .i64 x.vote, .int .i64 x.base, .int .i64 x.bterm, u] 26)).alloc (.cells #[.int .i64 r.kind, .int .i64 r.term, .int .i64 r.index, .int .i64 r.vote, .string r.data] 35)) #[.int .i64 0, .int .i64 0, .int .i64 0, .int .i64 0, .slice none 0 0] 26
  simp only [World.size_alloc] at kq kr
  generalize ((w.alloc (.cells #[.int .i64 x.term, .int .i64 x.vote, .int .i64 x.base, .int .i64 x.bterm, u] 26)).alloc (.cells #[.int .i64 r.kind, .int .i64 r.term, .int .i64 r.index, .int .i64 r.vote, .string r.data] 35)).alloc (.cells #[.int .i64 0, .int .i64 0, .int .i64 0, .int .i64 0, .slice none 0 0] 26) = W at *
  refine (implWalOk x (.agg #[.int .i64 x.term, .int .i64 x.vote, .int .i64 x.base, .int .i64 x.bterm, u]) W B (HV.out.on (b0.mono HB.out)) HF.out (Nat.le_trans HB.out b0.size)).mono ?_
  rintro e w1 ⟨rfl, hb1⟩
  have B1 : Hid (Below w.heap.size w w1) := b0.trans (hb1.mono b0.size)
  have KP1 : Hid (Blk w1 w.heap.size #[.int .i64 x.term, .int .i64 x.vote, .int .i64 x.base, .int .i64 x.bterm, u] 26) := kp.on hb1 kp.lt
  have KQ1 : Hid (Blk w1 (w.heap.size + 1) #[.int .i64 r.kind, .int .i64 r.term, .int .i64 r.index, .int .i64 r.vote, .string r.data] 35) := kq.on hb1 kq.lt
  have KR1 : Hid (Blk w1 (w.heap.size + 1 + 1) #[.int .i64 0, .int .i64 0, .int .i64 0, .int .i64 0, .slice none 0 0] 26) := kr.on hb1 kr.lt
  clear b0 kp kq kr hb1
  rw [ho]
  go_wp2_with fail
  have S0 : Hid (w1.drew.cell? ⟨w.heap.size, 0, none⟩ = some (.int .i64 x.term) ∧ w1.drew.cell? ⟨w.heap.size, 1, none⟩ = some (.int .i64 x.vote) ∧ w1.drew.cell? ⟨w.heap.size, 2, none⟩ = some (.int .i64 x.base) ∧ w1.drew.cell? ⟨w.heap.size, 3, none⟩ = some (.int .i64 x.bterm) ∧ w1.drew.cell? ⟨w.heap.size, 4, none⟩ = some (u) ∧ w1.drew.cell? ⟨w.heap.size + 1, 0, none⟩ = some (.int .i64 r.kind) ∧ w1.drew.cell? ⟨w.heap.size + 1, 1, none⟩ = some (.int .i64 r.term) ∧ w1.drew.cell? ⟨w.heap.size + 1, 2, none⟩ = some (.int .i64 r.index) ∧ w1.drew.cell? ⟨w.heap.size + 1, 3, none⟩ = some (.int .i64 r.vote) ∧ w1.drew.cell? ⟨w.heap.size + 1, 4, none⟩ = some (.string r.data)) := ⟨KP1.out.cell 0 _ rfl, KP1.out.cell 1 _ rfl, KP1.out.cell 2 _ rfl, KP1.out.cell 3 _ rfl, KP1.out.cell 4 _ rfl, KQ1.out.cell 0 _ rfl, KQ1.out.cell 1 _ rfl, KQ1.out.cell 2 _ rfl, KQ1.out.cell 3 _ rfl, KQ1.out.cell 4 _ rfl⟩
  refine wp_region_until (fun w' => w'.cell? ⟨w.heap.size, 0, none⟩ = some (.int .i64 x.term) ∧ w'.cell? ⟨w.heap.size, 1, none⟩ = some (.int .i64 x.vote) ∧ w'.cell? ⟨w.heap.size, 2, none⟩ = some (.int .i64 x.base) ∧ w'.cell? ⟨w.heap.size, 3, none⟩ = some (.int .i64 x.bterm) ∧ w'.cell? ⟨w.heap.size, 4, none⟩ = some (u) ∧ w'.cell? ⟨w.heap.size + 1, 0, none⟩ = some (.int .i64 r.kind) ∧ w'.cell? ⟨w.heap.size + 1, 1, none⟩ = some (.int .i64 r.term) ∧ w'.cell? ⟨w.heap.size + 1, 2, none⟩ = some (.int .i64 r.index) ∧ w'.cell? ⟨w.heap.size + 1, 3, none⟩ = some (.int .i64 r.vote) ∧ w'.cell? ⟨w.heap.size + 1, 4, none⟩ = some (.string r.data)) (fun i => false) 9 (by rfl) (by kernel_rfl) ?_
  have KPX : Hid (Blk w1.drew w.heap.size #[.int .i64 x.term, .int .i64 x.vote, .int .i64 x.base, .int .i64 x.bterm, u] 26) := KP1.out
  have KQX : Hid (Blk w1.drew (w.heap.size + 1) #[.int .i64 r.kind, .int .i64 r.term, .int .i64 r.index, .int .i64 r.vote, .string r.data] 35) := KQ1.out
  have KRX : Hid (Blk w1.drew (w.heap.size + 1 + 1) #[.int .i64 0, .int .i64 0, .int .i64 0, .int .i64 0, .slice none 0 0] 26) := KR1.out
  have BX : Hid (Below w.heap.size w w1.drew) := B1.out.drew
  clear KP1 KQ1 KR1 B1
  generalize w1.drew = X at *
  refine until_take 0 (v := ?viw1) (by rfl) (by kernel_rfl) (by exact fun _ _ _ h => h) (by rfl) ?hyiw1 S0.out ?riw1
  case hyiw1 =>
    intro w hSw
    try dsimp only at hSw
    go_simp
    try with_reducible rfl
  try simp only [Act.put, List.setIfInBounds_toArray, List.set_cons_zero, List.set_cons_succ]
  refine until_take 2 (v := ?viw2) (by rfl) (by kernel_rfl) (by exact fun _ _ _ h => h) (by rfl) ?hyiw2 S0.out ?riw2
  case hyiw2 =>
    intro w hSw
    try dsimp only at hSw
    go_simp
    try with_reducible rfl
  try simp only [Act.put, List.setIfInBounds_toArray, List.set_cons_zero, List.set_cons_succ]
  refine until_one 1 (by rfl) (by kernel_rfl) (fun K hK => ?_)
  go_simp
  refine (copyI x (.agg #[.int .i64 x.term, .int .i64 x.vote, .int .i64 x.base, .int .i64 x.bterm, u]) X B (HV.out.on (BX.out.mono HB.out)) HN.out HDD.out (Nat.le_trans HB.out BX.out.size)).mono ?_
  rintro e w2 ⟨u2, rfl, hO2, hb2⟩
  have B2 : Hid (Below w.heap.size w w2) := BX.out.trans (hb2.mono BX.out.size)
  have KP2 : Hid (Blk w2 w.heap.size #[.int .i64 x.term, .int .i64 x.vote, .int .i64 x.base, .int .i64 x.bterm, u] 26) := KPX.out.on hb2 KPX.out.lt
  have KQ2 : Hid (Blk w2 (w.heap.size + 1) #[.int .i64 r.kind, .int .i64 r.term, .int .i64 r.index, .int .i64 r.vote, .string r.data] 35) := KQX.out.on hb2 KQX.out.lt
  have KR2 : Hid (Blk w2 (w.heap.size + 1 + 1) #[.int .i64 0, .int .i64 0, .int .i64 0, .int .i64 0, .slice none 0 0] 26) := KRX.out.on hb2 KRX.out.lt
  have O2 : Hid (WalO w2 X.heap.size u2 x) := hO2
  have Z2 : Hid (X.heap.size ≤ w2.heap.size) := hb2.size
  clear hb2 hO2
  go_wp2_with fail
  refine hK.out _ _ (fun _ _ => ⟨KP2.out.cell 0 _ rfl, KP2.out.cell 1 _ rfl, KP2.out.cell 2 _ rfl, KP2.out.cell 3 _ rfl, KP2.out.cell 4 _ rfl, KQ2.out.cell 0 _ rfl, KQ2.out.cell 1 _ rfl, KQ2.out.cell 2 _ rfl, KQ2.out.cell 3 _ rfl, KQ2.out.cell 4 _ rfl⟩) ?_
  clear hK K
  try simp only [Act.put, List.setIfInBounds_toArray, List.set_cons_zero, List.set_cons_succ]
  refine until_one 3 (by rfl) (by kernel_rfl) (fun K hK => ?_)
  go_simp
  refine (c3 w2).mono ?_
  rintro e w3 ⟨rfl, hb3⟩
  have B3 : Hid (Below w.heap.size w w3) := B2.out.trans (hb3.mono B2.out.size)
  have KP3 : Hid (Blk w3 w.heap.size #[.int .i64 x.term, .int .i64 x.vote, .int .i64 x.base, .int .i64 x.bterm, u] 26) := KP2.out.on hb3 KP2.out.lt
  have KQ3 : Hid (Blk w3 (w.heap.size + 1) #[.int .i64 r.kind, .int .i64 r.term, .int .i64 r.index, .int .i64 r.vote, .string r.data] 35) := KQ2.out.on hb3 KQ2.out.lt
  have KR3 : Hid (Blk w3 (w.heap.size + 1 + 1) #[.int .i64 0, .int .i64 0, .int .i64 0, .int .i64 0, .slice none 0 0] 26) := KR2.out.on hb3 KR2.out.lt
  have O3 : Hid (WalO w3 X.heap.size u2 x) := O2.out.on hb3
  have Z3 : Hid (X.heap.size ≤ w3.heap.size) := Nat.le_trans Z2.out hb3.size
  have c4 := steppedV x r u2 w3 X.heap.size O3.out HN60.out HB1.out HB2.out Z3.out HD.out
  clear hb3
  generalize recV r = rv at *
  go_wp2_with fail
  refine hK.out _ _ (fun _ _ => ⟨KP3.out.cell 0 _ rfl, KP3.out.cell 1 _ rfl, KP3.out.cell 2 _ rfl, KP3.out.cell 3 _ rfl, KP3.out.cell 4 _ rfl, KQ3.out.cell 0 _ rfl, KQ3.out.cell 1 _ rfl, KQ3.out.cell 2 _ rfl, KQ3.out.cell 3 _ rfl, KQ3.out.cell 4 _ rfl⟩) ?_
  clear hK K
  try simp only [Act.put, List.setIfInBounds_toArray, List.set_cons_zero, List.set_cons_succ]
  refine until_one 4 (by rfl) (by kernel_rfl) (fun K hK => ?_)
  go_simp
  refine c4.mono ?_
  rintro e w4 ⟨u4, b4, rfl, ⟨hO4, hb4⟩, hB4⟩
  have B4 : Hid (Below w.heap.size w w4) := B3.out.trans (hB4.mono BX.out.size)
  have KP4 : Hid (Blk w4 w.heap.size #[.int .i64 x.term, .int .i64 x.vote, .int .i64 x.base, .int .i64 x.bterm, u] 26) := KP3.out.on hB4 KPX.out.lt
  have KQ4 : Hid (Blk w4 (w.heap.size + 1) #[.int .i64 r.kind, .int .i64 r.term, .int .i64 r.index, .int .i64 r.vote, .string r.data] 35) := KQ3.out.on hB4 KQX.out.lt
  have KR4 : Hid (Blk w4 (w.heap.size + 1 + 1) #[.int .i64 0, .int .i64 0, .int .i64 0, .int .i64 0, .slice none 0 0] 26) := KR3.out.on hB4 KRX.out.lt
  have HB4 : Hid (b4 = (stepR x r).2) := hb4
  have ZX : Hid (w.heap.size + 1 + 1 < X.heap.size) := KRX.out.lt
  obtain ⟨s4, rfl, o4⟩ := hO4
  obtain ⟨A4, m4, k4, rfl⟩ := o4.shape
  generalize hsr : stepR x r = sr at *
  have O4 : Hid (Owns w4 (w.heap.size + 1 + 1 + 1) 76 2 (.slice A4 m4 k4) (entR sr.1.ents)) := o4.mono ZX.out
  clear hB4 hb4 o4 c4
  go_wp2_with fail
  refine hK.out _ _ (fun _ _ => ⟨KP4.out.cell 0 _ rfl, KP4.out.cell 1 _ rfl, KP4.out.cell 2 _ rfl, KP4.out.cell 3 _ rfl, KP4.out.cell 4 _ rfl, KQ4.out.cell 0 _ rfl, KQ4.out.cell 1 _ rfl, KQ4.out.cell 2 _ rfl, KQ4.out.cell 3 _ rfl, KQ4.out.cell 4 _ rfl⟩) ?_
  clear hK K
  try simp only [Act.put, List.setIfInBounds_toArray, List.set_cons_zero, List.set_cons_succ]
  refine until_pure 5 (v := ?viw3) (by rfl) (by kernel_rfl) (by exact fun _ _ _ h => h) (by rfl) ?hyiw3 ?riw3
  case hyiw3 =>
    intro w
    go_simp
    try with_reducible rfl
  try simp only [Act.put, List.setIfInBounds_toArray, List.set_cons_zero, List.set_cons_succ]
  refine until_pure 6 (v := ?viw4) (by rfl) (by kernel_rfl) (by exact fun _ _ _ h => h) (by rfl) ?hyiw4 ?riw4
  case hyiw4 =>
    intro w
    go_simp
    try with_reducible rfl
  try simp only [Act.put, List.setIfInBounds_toArray, List.set_cons_zero, List.set_cons_succ]
  refine until_one 7 (by rfl) (by kernel_rfl) (fun K hK => ?_)
  have r0 := KR4.out.cell 0 (.int .i64 0) rfl
  have g0 := KR4.out.free 0
  have r1 := KR4.out.cell 1 (.int .i64 0) rfl
  have g1 := KR4.out.free 1
  have r2 := KR4.out.cell 2 (.int .i64 0) rfl
  have g2 := KR4.out.free 2
  have r3 := KR4.out.cell 3 (.int .i64 0) rfl
  have g3 := KR4.out.free 3
  have r4 := KR4.out.cell 4 (.slice none 0 0) rfl
  have g4 := KR4.out.free 4
  go_simp
  have hF := (((((KR4.out.set 0 (.int .i64 sr.1.term)).set 1 (.int .i64 sr.1.vote)).set 2 (.int .i64 sr.1.base)).set 3 (.int .i64 sr.1.bterm)).set 4 (.slice A4 m4 k4))
  have hP := (((((KP4.out.other (show w.heap.size ≠ w.heap.size + 1 + 1 by omega) 0 (.int .i64 sr.1.term)).other (show w.heap.size ≠ w.heap.size + 1 + 1 by omega) 1 (.int .i64 sr.1.vote)).other (show w.heap.size ≠ w.heap.size + 1 + 1 by omega) 2 (.int .i64 sr.1.base)).other (show w.heap.size ≠ w.heap.size + 1 + 1 by omega) 3 (.int .i64 sr.1.bterm)).other (show w.heap.size ≠ w.heap.size + 1 + 1 by omega) 4 (.slice A4 m4 k4))
  have hQ := (((((KQ4.out.other (show w.heap.size + 1 ≠ w.heap.size + 1 + 1 by omega) 0 (.int .i64 sr.1.term)).other (show w.heap.size + 1 ≠ w.heap.size + 1 + 1 by omega) 1 (.int .i64 sr.1.vote)).other (show w.heap.size + 1 ≠ w.heap.size + 1 + 1 by omega) 2 (.int .i64 sr.1.base)).other (show w.heap.size + 1 ≠ w.heap.size + 1 + 1 by omega) 3 (.int .i64 sr.1.bterm)).other (show w.heap.size + 1 ≠ w.heap.size + 1 + 1 by omega) 4 (.slice A4 m4 k4))
  have FB := (((((B4.out.setCell (show w.heap.size ≤ w.heap.size + 1 + 1 by omega) (.int .i64 sr.1.term) (p := ⟨_, 0, none⟩)).setCell (show w.heap.size ≤ w.heap.size + 1 + 1 by omega) (.int .i64 sr.1.vote) (p := ⟨_, 1, none⟩)).setCell (show w.heap.size ≤ w.heap.size + 1 + 1 by omega) (.int .i64 sr.1.base) (p := ⟨_, 2, none⟩)).setCell (show w.heap.size ≤ w.heap.size + 1 + 1 by omega) (.int .i64 sr.1.bterm) (p := ⟨_, 3, none⟩)).setCell (show w.heap.size ≤ w.heap.size + 1 + 1 by omega) (.slice A4 m4 k4) (p := ⟨_, 4, none⟩))
  have OF := (((((O4.out.other (O4.out.below (show w.heap.size + 1 + 1 < _ by omega)) 0 (.int .i64 sr.1.term)).other (O4.out.below (show w.heap.size + 1 + 1 < _ by omega)) 1 (.int .i64 sr.1.vote)).other (O4.out.below (show w.heap.size + 1 + 1 < _ by omega)) 2 (.int .i64 sr.1.base)).other (O4.out.below (show w.heap.size + 1 + 1 < _ by omega)) 3 (.int .i64 sr.1.bterm)).other (O4.out.below (show w.heap.size + 1 + 1 < _ by omega)) 4 (.slice A4 m4 k4))
  clear r0 g0 r1 g1 r2 g2 r3 g3 r4 g4
  generalize (((((w4.setCell ⟨w.heap.size + 1 + 1, 0, none⟩ (.int .i64 sr.1.term)).setCell ⟨w.heap.size + 1 + 1, 1, none⟩ (.int .i64 sr.1.vote)).setCell ⟨w.heap.size + 1 + 1, 2, none⟩ (.int .i64 sr.1.base)).setCell ⟨w.heap.size + 1 + 1, 3, none⟩ (.int .i64 sr.1.bterm)).setCell ⟨w.heap.size + 1 + 1, 4, none⟩ (.slice A4 m4 k4)) = WF at *
  refine hK.out _ _ (fun _ _ => ⟨hP.cell 0 _ rfl, hP.cell 1 _ rfl, hP.cell 2 _ rfl, hP.cell 3 _ rfl, hP.cell 4 _ rfl, hQ.cell 0 _ rfl, hQ.cell 1 _ rfl, hQ.cell 2 _ rfl, hQ.cell 3 _ rfl, hQ.cell 4 _ rfl⟩) ?_
  clear hK K hP hQ
  try simp only [Act.put, List.setIfInBounds_toArray, List.set_cons_zero, List.set_cons_succ]
  refine until_pure 8 (v := ?viw5) (by rfl) (by kernel_rfl) (by exact fun _ _ _ h => h) (by rfl) ?hyiw5 ?riw5
  case hyiw5 =>
    intro w
    go_simp
    try with_reducible rfl
  try simp only [Act.put, List.setIfInBounds_toArray, List.set_cons_zero, List.set_cons_succ]
  refine until_done (by kernel_rfl) ?_ _
  have hG : Blk WF (w.heap.size + 1 + 1) #[.int .i64 sr.1.term, .int .i64 sr.1.vote, .int .i64 sr.1.base, .int .i64 sr.1.bterm, .slice A4 m4 k4] 26 := hF
  have mm0 := hG.cell 0 (.int .i64 sr.1.term) rfl
  have mm1 := hG.cell 1 (.int .i64 sr.1.vote) rfl
  have mm2 := hG.cell 2 (.int .i64 sr.1.base) rfl
  have mm3 := hG.cell 3 (.int .i64 sr.1.bterm) rfl
  have mm4 := hG.cell 4 (.slice A4 m4 k4) rfl
  go_wp2_with fail
  exact bodyPost_ret (v := .tuple #[.agg #[.int .i64 sr.1.term, .int .i64 sr.1.vote, .int .i64 sr.1.base, .int .i64 sr.1.bterm, .slice A4 m4 k4], .bool b4]) (by simp [results, go_sem, mm0, mm1, mm2, mm3, mm4]) rfl ⟨_, _, rfl, (by rw [hsr]; exact ⟨⟨_, rfl, OF.mono (by omega)⟩, HB4.out⟩), FB⟩
end Go.Proofs.Ytajodeahigmcoaa
