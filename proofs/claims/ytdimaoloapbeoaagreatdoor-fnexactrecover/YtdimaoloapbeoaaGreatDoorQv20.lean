/- StSpec -/
import Derived.Test.YtdimaoloapbeoaaGreatDoorRows
import Derived.Test.YtdimaoloapbeoaaGreatDoorQv19
import Derived.Test.YtdimaoloapbeoaaGreatDoorQv16
import Derived.Test.YtdimaoloapbeoaaGreatDoorQv15
import Derived.Handy
import Derived.Deep.RegionHeld3
namespace Go.Proofs.YtdimaoloapbeoaaGreatDoor
open Go.ChangeShapes Go.WideShapes Go.ChangeAt Go.RowKit Go.PlainAid
set_option linter.unusedVariables false
theorem step_bad (x : Wl) (r : Rcd) (h : walOk x = false) : walStep x r = (wal0, false) := by unfold walStep; rw [if_pos h]
theorem step_not (x : Wl) (r : Rcd) (h : walOk x = true) (h2 : (recOk r && recFits x r) = false) : walStep x r = (x, false) := by unfold walStep; rw [if_neg (by rw [h]; exact Bool.noConfusion), if_neg (by rw [h2]; exact Bool.noConfusion)]
theorem step_yes (x : Wl) (r : Rcd) (h : walOk x = true) (h2 : (recOk r && recFits x r) = true) : walStep x r = (stepTo x r, true) := by unfold walStep; rw [if_neg (by rw [h]; exact Bool.noConfusion), if_pos h2]
theorem walOk_in (x : Wl) (h : walOk x = true) : x.ents.length ≤ 60 ∧ 0 ≤ x.base ∧ x.base ≤ 100000 := by
 unfold walOk at h
 simp only [Bool.and_eq_true] at h
 obtain ⟨⟨⟨⟨⟨⟨_, _⟩, h3⟩, _⟩, h5⟩, _⟩, _⟩ := h
 exact ⟨of_decide_eq_true h5, (based_in _ _ h3).1.1, (based_in _ _ h3).1.2⟩
theorem fits_kind (x : Wl) (r : Rcd) (h : recFits x r = true) : r.kind = 1 ∨ r.kind = 2 ∨ r.kind = 3 := by
 unfold recFits at h
 split at h
 ·exact .inl (by assumption)
 split at h
 ·exact .inr (.inl (by assumption))
 split at h
 ·exact .inr (.inr (by assumption))
 ·cases h
theorem fits_cut (x : Wl) (r : Rcd) (hk : r.kind = 3) (h : recFits x r = true) : x.base < r.index ∧ r.index ≤ x.base + x.ents.length := by
 unfold recFits at h
 rw [if_neg (by omega), if_neg (by omega), if_pos hk] at h
 simpa using h
set_option maxRecDepth 20000 in
set_option maxHeartbeats 4000000 in
theorem specWalStep (x : Wl) (r : Rcd) (v : Value) (w : World) (B : Nat) (hv : WalV w B v x) (hf : FitsW x) (hd : r.data.size ≤ maxLen) (hB : B ≤ w.heap.size) :
  Calls Tryz.prog 53 #[v, vRcd r] w fun e w' => ∃ u b, e = .returned (.tuple #[u, .bool b]) ∧ (WalO w' w.heap.size u (walStep x r).1 ∧ b = (walStep x r).2) ∧ Below w.heap.size w w' := by
 have HV : Hid (WalV w B v x) := hv
 have HF : Hid (FitsW x) := hf
 have HB : Hid (B ≤ w.heap.size) := hB
 have HD : Hid (r.data.size ≤ maxLen) := hd
 obtain ⟨u, rfl, hl⟩ := hv
 unfold vRcd
 clear hl hf hB hd
 cases ho : walOk x
 ·rw [step_bad x r ho]
  go_enter Tryz.func53, Tryz.ntmps53
  go_wp2_with fail
  have b0 : Below w.heap.size w (((w.alloc (.cells #[.int .i64 x.term, .int .i64 x.vote, .int .i64 x.base, .int .i64 x.bterm, u] 30)).alloc (.cells #[.int .i64 r.kind, .int .i64 r.term, .int .i64 r.index, .int .i64 r.vote, .string r.data] 102)).alloc (.cells #[.int .i64 0, .int .i64 0, .int .i64 0, .int .i64 0, .slice none 0 0] 30)) := below_alloc3 w _ _ _
  have kp := ((Blk.new w #[.int .i64 x.term, .int .i64 x.vote, .int .i64 x.base, .int .i64 x.bterm, u] 30).alloc (.cells #[.int .i64 r.kind, .int .i64 r.term, .int .i64 r.index, .int .i64 r.vote, .string r.data] 102)).alloc (.cells #[.int .i64 0, .int .i64 0, .int .i64 0, .int .i64 0, .slice none 0 0] 30)
  have kq := (Blk.new (w.alloc (.cells #[.int .i64 x.term, .int .i64 x.vote, .int .i64 x.base, .int .i64 x.bterm, u] 30)) #[.int .i64 r.kind, .int .i64 r.term, .int .i64 r.index, .int .i64 r.vote, .string r.data] 102).alloc (.cells #[.int .i64 0, .int .i64 0, .int .i64 0, .int .i64 0, .slice none 0 0] 30)
  have kr := Blk.new ((w.alloc (.cells #[.int .i64 x.term, .int .i64 x.vote, .int .i64 x.base, .int .i64 x.bterm, u] 30)).alloc (.cells #[.int .i64 r.kind, .int .i64 r.term, .int .i64 r.index, .int .i64 r.vote, .string r.data] 102)) #[.int .i64 0, .int .i64 0, .int .i64 0, .int .i64 0, .slice none 0 0] 30
  simp only [World.size_alloc] at kq kr
  generalize ((w.alloc (.cells #[.int .i64 x.term, .int .i64 x.vote, .int .i64 x.base, .int .i64 x.bterm, u] 30)).alloc (.cells #[.int .i64 r.kind, .int .i64 r.term, .int .i64 r.index, .int .i64 r.vote, .string r.data] 102)).alloc (.cells #[.int .i64 0, .int .i64 0, .int .i64 0, .int .i64 0, .slice none 0 0] 30) = W at *
  refine (specWalOk x (.agg #[.int .i64 x.term, .int .i64 x.vote, .int .i64 x.base, .int .i64 x.bterm, u]) W B (HV.out.on (b0.mono HB.out)) HF.out (Nat.le_trans HB.out b0.size)).mono ?_
  rintro e w1 ⟨rfl, hb1⟩
  have B1 : Hid (Below w.heap.size w w1) := b0.trans (hb1.mono b0.size)
  have KP1 : Hid (Blk w1 w.heap.size #[.int .i64 x.term, .int .i64 x.vote, .int .i64 x.base, .int .i64 x.bterm, u] 30) := kp.on hb1 kp.lt
  have KQ1 : Hid (Blk w1 (w.heap.size + 1) #[.int .i64 r.kind, .int .i64 r.term, .int .i64 r.index, .int .i64 r.vote, .string r.data] 102) := kq.on hb1 kq.lt
  have KR1 : Hid (Blk w1 (w.heap.size + 1 + 1) #[.int .i64 0, .int .i64 0, .int .i64 0, .int .i64 0, .slice none 0 0] 30) := kr.on hb1 kr.lt
  clear b0 kp kq kr hb1
  rw [ho]
  have e0 := KP1.out.cell 0 (.int .i64 x.term) rfl
  have f0 := KP1.out.free 0
  have e1 := KP1.out.cell 1 (.int .i64 x.vote) rfl
  have f1 := KP1.out.free 1
  have e2 := KP1.out.cell 2 (.int .i64 x.base) rfl
  have f2 := KP1.out.free 2
  have e3 := KP1.out.cell 3 (.int .i64 x.bterm) rfl
  have f3 := KP1.out.free 3
  have e4 := KP1.out.cell 4 (u) rfl
  have f4 := KP1.out.free 4
  have r0 := KR1.out.cell 0 (.int .i64 0) rfl
  have g0 := KR1.out.free 0
  have r1 := KR1.out.cell 1 (.int .i64 0) rfl
  have g1 := KR1.out.free 1
  have r2 := KR1.out.cell 2 (.int .i64 0) rfl
  have g2 := KR1.out.free 2
  have r3 := KR1.out.cell 3 (.int .i64 0) rfl
  have g3 := KR1.out.free 3
  have r4 := KR1.out.cell 4 (.slice none 0 0) rfl
  have g4 := KR1.out.free 4
  go_wp2_with fail
  have hF := (((((KR1.out.set 0 (.int .i64 0)).set 1 (.int .i64 0)).set 2 (.int .i64 0)).set 3 (.int .i64 0)).set 4 (.slice none 0 0))
  have FB := (((((B1.out.setCell (show w.heap.size ≤ w.heap.size + 1 + 1 by omega) (.int .i64 0) (p := ⟨_, 0, none⟩)).setCell (show w.heap.size ≤ w.heap.size + 1 + 1 by omega) (.int .i64 0) (p := ⟨_, 1, none⟩)).setCell (show w.heap.size ≤ w.heap.size + 1 + 1 by omega) (.int .i64 0) (p := ⟨_, 2, none⟩)).setCell (show w.heap.size ≤ w.heap.size + 1 + 1 by omega) (.int .i64 0) (p := ⟨_, 3, none⟩)).setCell (show w.heap.size ≤ w.heap.size + 1 + 1 by omega) (.slice none 0 0) (p := ⟨_, 4, none⟩))
  clear e0 f0 e1 f1 e2 f2 e3 f3 e4 f4 r0 g0 r1 g1 r2 g2 r3 g3 r4 g4
  generalize (((((w1.setCell ⟨w.heap.size + 1 + 1, 0, none⟩ (.int .i64 0)).setCell ⟨w.heap.size + 1 + 1, 1, none⟩ (.int .i64 0)).setCell ⟨w.heap.size + 1 + 1, 2, none⟩ (.int .i64 0)).setCell ⟨w.heap.size + 1 + 1, 3, none⟩ (.int .i64 0)).setCell ⟨w.heap.size + 1 + 1, 4, none⟩ (.slice none 0 0)) = WF at *
  have hG : Blk WF (w.heap.size + 1 + 1) #[.int .i64 0, .int .i64 0, .int .i64 0, .int .i64 0, .slice none 0 0] 30 := hF
  have mm0 := hG.cell 0 (.int .i64 0) rfl
  have mm1 := hG.cell 1 (.int .i64 0) rfl
  have mm2 := hG.cell 2 (.int .i64 0) rfl
  have mm3 := hG.cell 3 (.int .i64 0) rfl
  have mm4 := hG.cell 4 (.slice none 0 0) rfl
  exact bodyPost_ret (v := .tuple #[.agg #[.int .i64 0, .int .i64 0, .int .i64 0, .int .i64 0, .slice none 0 0], .bool false]) (by simp [results, go_sem, mm0, mm1, mm2, mm3, mm4]) rfl ⟨_, _, rfl, ⟨⟨_, rfl, Owns.nil _ _ _ _⟩, rfl⟩, FB⟩
 obtain ⟨n60, nb1, nb2⟩ := walOk_in x ho
 have HN60 : Hid (x.ents.length ≤ 60) := n60
 have HN : Hid (x.ents.length ≤ 1048576) := by unfold Hid; omega
 have HB1 : Hid (0 ≤ x.base) := nb1
 have HB2 : Hid (x.base ≤ 100000) := nb2
 clear n60
 cases hr : recOk r
 ·rw [step_not x r ho (by rw [hr]; rfl)]
  go_enter Tryz.func53, Tryz.ntmps53
  go_wp2_with fail
  have b0 : Below w.heap.size w (((w.alloc (.cells #[.int .i64 x.term, .int .i64 x.vote, .int .i64 x.base, .int .i64 x.bterm, u] 30)).alloc (.cells #[.int .i64 r.kind, .int .i64 r.term, .int .i64 r.index, .int .i64 r.vote, .string r.data] 102)).alloc (.cells #[.int .i64 0, .int .i64 0, .int .i64 0, .int .i64 0, .slice none 0 0] 30)) := below_alloc3 w _ _ _
  have kp := ((Blk.new w #[.int .i64 x.term, .int .i64 x.vote, .int .i64 x.base, .int .i64 x.bterm, u] 30).alloc (.cells #[.int .i64 r.kind, .int .i64 r.term, .int .i64 r.index, .int .i64 r.vote, .string r.data] 102)).alloc (.cells #[.int .i64 0, .int .i64 0, .int .i64 0, .int .i64 0, .slice none 0 0] 30)
  have kq := (Blk.new (w.alloc (.cells #[.int .i64 x.term, .int .i64 x.vote, .int .i64 x.base, .int .i64 x.bterm, u] 30)) #[.int .i64 r.kind, .int .i64 r.term, .int .i64 r.index, .int .i64 r.vote, .string r.data] 102).alloc (.cells #[.int .i64 0, .int .i64 0, .int .i64 0, .int .i64 0, .slice none 0 0] 30)
  have kr := Blk.new ((w.alloc (.cells #[.int .i64 x.term, .int .i64 x.vote, .int .i64 x.base, .int .i64 x.bterm, u] 30)).alloc (.cells #[.int .i64 r.kind, .int .i64 r.term, .int .i64 r.index, .int .i64 r.vote, .string r.data] 102)) #[.int .i64 0, .int .i64 0, .int .i64 0, .int .i64 0, .slice none 0 0] 30
  simp only [World.size_alloc] at kq kr
  generalize ((w.alloc (.cells #[.int .i64 x.term, .int .i64 x.vote, .int .i64 x.base, .int .i64 x.bterm, u] 30)).alloc (.cells #[.int .i64 r.kind, .int .i64 r.term, .int .i64 r.index, .int .i64 r.vote, .string r.data] 102)).alloc (.cells #[.int .i64 0, .int .i64 0, .int .i64 0, .int .i64 0, .slice none 0 0] 30) = W at *
  refine (specWalOk x (.agg #[.int .i64 x.term, .int .i64 x.vote, .int .i64 x.base, .int .i64 x.bterm, u]) W B (HV.out.on (b0.mono HB.out)) HF.out (Nat.le_trans HB.out b0.size)).mono ?_
  rintro e w1 ⟨rfl, hb1⟩
  have B1 : Hid (Below w.heap.size w w1) := b0.trans (hb1.mono b0.size)
  have KP1 : Hid (Blk w1 w.heap.size #[.int .i64 x.term, .int .i64 x.vote, .int .i64 x.base, .int .i64 x.bterm, u] 30) := kp.on hb1 kp.lt
  have KQ1 : Hid (Blk w1 (w.heap.size + 1) #[.int .i64 r.kind, .int .i64 r.term, .int .i64 r.index, .int .i64 r.vote, .string r.data] 102) := kq.on hb1 kq.lt
  have KR1 : Hid (Blk w1 (w.heap.size + 1 + 1) #[.int .i64 0, .int .i64 0, .int .i64 0, .int .i64 0, .slice none 0 0] 30) := kr.on hb1 kr.lt
  clear b0 kp kq kr hb1
  rw [ho]
  have e0 := KP1.out.cell 0 (.int .i64 x.term) rfl
  have e1 := KP1.out.cell 1 (.int .i64 x.vote) rfl
  have e2 := KP1.out.cell 2 (.int .i64 x.base) rfl
  have e3 := KP1.out.cell 3 (.int .i64 x.bterm) rfl
  have e4 := KP1.out.cell 4 (u) rfl
  go_wp2_with fail
  refine (copyS x (.agg #[.int .i64 x.term, .int .i64 x.vote, .int .i64 x.base, .int .i64 x.bterm, u]) w1 B (HV.out.on (B1.out.mono HB.out)) HN.out (Nat.le_trans HB.out B1.out.size)).mono ?_
  rintro e w2 ⟨u1, rfl, hO2, hb2⟩
  obtain ⟨s1, rfl, o2⟩ := hO2
  obtain ⟨A1, m1, c1, rfl⟩ := o2.shape
  have B2 : Hid (Below w.heap.size w w2) := B1.out.trans (hb2.mono B1.out.size)
  have KP2 : Hid (Blk w2 w.heap.size #[.int .i64 x.term, .int .i64 x.vote, .int .i64 x.base, .int .i64 x.bterm, u] 30) := KP1.out.on hb2 KP1.out.lt
  have KQ2 : Hid (Blk w2 (w.heap.size + 1) #[.int .i64 r.kind, .int .i64 r.term, .int .i64 r.index, .int .i64 r.vote, .string r.data] 102) := KQ1.out.on hb2 KQ1.out.lt
  have KR2 : Hid (Blk w2 (w.heap.size + 1 + 1) #[.int .i64 0, .int .i64 0, .int .i64 0, .int .i64 0, .slice none 0 0] 30) := KR1.out.on hb2 KR1.out.lt
  have O2 : Hid (Owns w2 (w.heap.size + 1 + 1 + 1) 59 2 (.slice A1 m1 c1) (entR x.ents)) := o2.mono KR1.out.lt
  clear e0 e1 e2 e3 e4 hb2 o2 B1 KP1 KQ1 KR1
  have e0 := KP2.out.cell 0 (.int .i64 x.term) rfl
  have f0 := KP2.out.free 0
  have e1 := KP2.out.cell 1 (.int .i64 x.vote) rfl
  have f1 := KP2.out.free 1
  have e2 := KP2.out.cell 2 (.int .i64 x.base) rfl
  have f2 := KP2.out.free 2
  have e3 := KP2.out.cell 3 (.int .i64 x.bterm) rfl
  have f3 := KP2.out.free 3
  have e4 := KP2.out.cell 4 (u) rfl
  have f4 := KP2.out.free 4
  have q0 := KQ2.out.cell 0 (.int .i64 r.kind) rfl
  have q1 := KQ2.out.cell 1 (.int .i64 r.term) rfl
  have q2 := KQ2.out.cell 2 (.int .i64 r.index) rfl
  have q3 := KQ2.out.cell 3 (.int .i64 r.vote) rfl
  have q4 := KQ2.out.cell 4 (.string r.data) rfl
  go_wp2_with fail
  have kp := (((((KP2.out.set 0 (.int .i64 x.term)).set 1 (.int .i64 x.vote)).set 2 (.int .i64 x.base)).set 3 (.int .i64 x.bterm)).set 4 (.slice A1 m1 c1))
  have kq := (((((KQ2.out.other (show w.heap.size + 1 ≠ w.heap.size by omega) 0 (.int .i64 x.term)).other (show w.heap.size + 1 ≠ w.heap.size by omega) 1 (.int .i64 x.vote)).other (show w.heap.size + 1 ≠ w.heap.size by omega) 2 (.int .i64 x.base)).other (show w.heap.size + 1 ≠ w.heap.size by omega) 3 (.int .i64 x.bterm)).other (show w.heap.size + 1 ≠ w.heap.size by omega) 4 (.slice A1 m1 c1))
  have kr := (((((KR2.out.other (show w.heap.size + 1 + 1 ≠ w.heap.size by omega) 0 (.int .i64 x.term)).other (show w.heap.size + 1 + 1 ≠ w.heap.size by omega) 1 (.int .i64 x.vote)).other (show w.heap.size + 1 + 1 ≠ w.heap.size by omega) 2 (.int .i64 x.base)).other (show w.heap.size + 1 + 1 ≠ w.heap.size by omega) 3 (.int .i64 x.bterm)).other (show w.heap.size + 1 + 1 ≠ w.heap.size by omega) 4 (.slice A1 m1 c1))
  have b3 := (((((B2.out.setCell (Nat.le_refl _) (.int .i64 x.term) (p := ⟨_, 0, none⟩)).setCell (Nat.le_refl _) (.int .i64 x.vote) (p := ⟨_, 1, none⟩)).setCell (Nat.le_refl _) (.int .i64 x.base) (p := ⟨_, 2, none⟩)).setCell (Nat.le_refl _) (.int .i64 x.bterm) (p := ⟨_, 3, none⟩)).setCell (Nat.le_refl _) (.slice A1 m1 c1) (p := ⟨_, 4, none⟩))
  have o3 := (((((O2.out.other (O2.out.below (show w.heap.size < _ by omega)) 0 (.int .i64 x.term)).other (O2.out.below (show w.heap.size < _ by omega)) 1 (.int .i64 x.vote)).other (O2.out.below (show w.heap.size < _ by omega)) 2 (.int .i64 x.base)).other (O2.out.below (show w.heap.size < _ by omega)) 3 (.int .i64 x.bterm)).other (O2.out.below (show w.heap.size < _ by omega)) 4 (.slice A1 m1 c1))
  clear e0 f0 e1 f1 e2 f2 e3 f3 e4 f4 q0 q1 q2 q3 q4
  generalize (((((w2.setCell ⟨w.heap.size, 0, none⟩ (.int .i64 x.term)).setCell ⟨w.heap.size, 1, none⟩ (.int .i64 x.vote)).setCell ⟨w.heap.size, 2, none⟩ (.int .i64 x.base)).setCell ⟨w.heap.size, 3, none⟩ (.int .i64 x.bterm)).setCell ⟨w.heap.size, 4, none⟩ (.slice A1 m1 c1)) = W3 at *
  refine (specRecOk r W3 HD.out).mono ?_
  rintro e w4 ⟨rfl, hb4⟩
  have B4 : Hid (Below w.heap.size w w4) := b3.trans (hb4.mono b3.size)
  have KP4 : Hid (Blk w4 w.heap.size #[.int .i64 x.term, .int .i64 x.vote, .int .i64 x.base, .int .i64 x.bterm, .slice A1 m1 c1] 30) := kp.on hb4 kp.lt
  have KQ4 : Hid (Blk w4 (w.heap.size + 1) #[.int .i64 r.kind, .int .i64 r.term, .int .i64 r.index, .int .i64 r.vote, .string r.data] 102) := kq.on hb4 kq.lt
  have KR4 : Hid (Blk w4 (w.heap.size + 1 + 1) #[.int .i64 0, .int .i64 0, .int .i64 0, .int .i64 0, .slice none 0 0] 30) := kr.on hb4 kr.lt
  have O4 : Hid (Owns w4 (w.heap.size + 1 + 1 + 1) 59 2 (.slice A1 m1 c1) (entR x.ents)) := o3.on hb4
  clear kp kq kr b3 o3 hb4 B2 KP2 KQ2 KR2 O2
  rw [hr]
  have e0 := KP4.out.cell 0 (.int .i64 x.term) rfl
  have f0 := KP4.out.free 0
  have e1 := KP4.out.cell 1 (.int .i64 x.vote) rfl
  have f1 := KP4.out.free 1
  have e2 := KP4.out.cell 2 (.int .i64 x.base) rfl
  have f2 := KP4.out.free 2
  have e3 := KP4.out.cell 3 (.int .i64 x.bterm) rfl
  have f3 := KP4.out.free 3
  have e4 := KP4.out.cell 4 (.slice A1 m1 c1) rfl
  have f4 := KP4.out.free 4
  have r0 := KR4.out.cell 0 (.int .i64 0) rfl
  have g0 := KR4.out.free 0
  have r1 := KR4.out.cell 1 (.int .i64 0) rfl
  have g1 := KR4.out.free 1
  have r2 := KR4.out.cell 2 (.int .i64 0) rfl
  have g2 := KR4.out.free 2
  have r3 := KR4.out.cell 3 (.int .i64 0) rfl
  have g3 := KR4.out.free 3
  have r4 := KR4.out.cell 4 (.slice none 0 0) rfl
  have g4 := KR4.out.free 4
  go_wp2_with fail
  have hF := (((((KR4.out.set 0 (.int .i64 x.term)).set 1 (.int .i64 x.vote)).set 2 (.int .i64 x.base)).set 3 (.int .i64 x.bterm)).set 4 (.slice A1 m1 c1))
  have FB := (((((B4.out.setCell (show w.heap.size ≤ w.heap.size + 1 + 1 by omega) (.int .i64 x.term) (p := ⟨_, 0, none⟩)).setCell (show w.heap.size ≤ w.heap.size + 1 + 1 by omega) (.int .i64 x.vote) (p := ⟨_, 1, none⟩)).setCell (show w.heap.size ≤ w.heap.size + 1 + 1 by omega) (.int .i64 x.base) (p := ⟨_, 2, none⟩)).setCell (show w.heap.size ≤ w.heap.size + 1 + 1 by omega) (.int .i64 x.bterm) (p := ⟨_, 3, none⟩)).setCell (show w.heap.size ≤ w.heap.size + 1 + 1 by omega) (.slice A1 m1 c1) (p := ⟨_, 4, none⟩))
  have OF := (((((O4.out.other (O4.out.below (show w.heap.size + 1 + 1 < _ by omega)) 0 (.int .i64 x.term)).other (O4.out.below (show w.heap.size + 1 + 1 < _ by omega)) 1 (.int .i64 x.vote)).other (O4.out.below (show w.heap.size + 1 + 1 < _ by omega)) 2 (.int .i64 x.base)).other (O4.out.below (show w.heap.size + 1 + 1 < _ by omega)) 3 (.int .i64 x.bterm)).other (O4.out.below (show w.heap.size + 1 + 1 < _ by omega)) 4 (.slice A1 m1 c1))
  clear e0 f0 e1 f1 e2 f2 e3 f3 e4 f4 r0 g0 r1 g1 r2 g2 r3 g3 r4 g4
  generalize (((((w4.setCell ⟨w.heap.size + 1 + 1, 0, none⟩ (.int .i64 x.term)).setCell ⟨w.heap.size + 1 + 1, 1, none⟩ (.int .i64 x.vote)).setCell ⟨w.heap.size + 1 + 1, 2, none⟩ (.int .i64 x.base)).setCell ⟨w.heap.size + 1 + 1, 3, none⟩ (.int .i64 x.bterm)).setCell ⟨w.heap.size + 1 + 1, 4, none⟩ (.slice A1 m1 c1)) = WF at *
  have hG : Blk WF (w.heap.size + 1 + 1) #[.int .i64 x.term, .int .i64 x.vote, .int .i64 x.base, .int .i64 x.bterm, .slice A1 m1 c1] 30 := hF
  have mm0 := hG.cell 0 (.int .i64 x.term) rfl
  have mm1 := hG.cell 1 (.int .i64 x.vote) rfl
  have mm2 := hG.cell 2 (.int .i64 x.base) rfl
  have mm3 := hG.cell 3 (.int .i64 x.bterm) rfl
  have mm4 := hG.cell 4 (.slice A1 m1 c1) rfl
  exact bodyPost_ret (v := .tuple #[.agg #[.int .i64 x.term, .int .i64 x.vote, .int .i64 x.base, .int .i64 x.bterm, .slice A1 m1 c1], .bool false]) (by simp [results, go_sem, mm0, mm1, mm2, mm3, mm4]) rfl ⟨_, _, rfl, ⟨⟨_, rfl, OF.mono (by omega)⟩, rfl⟩, FB⟩
 cases hfit : recFits x r
 ·rw [step_not x r ho (by rw [hr, hfit]; rfl)]
  go_enter Tryz.func53, Tryz.ntmps53
  go_wp2_with fail
  have b0 : Below w.heap.size w (((w.alloc (.cells #[.int .i64 x.term, .int .i64 x.vote, .int .i64 x.base, .int .i64 x.bterm, u] 30)).alloc (.cells #[.int .i64 r.kind, .int .i64 r.term, .int .i64 r.index, .int .i64 r.vote, .string r.data] 102)).alloc (.cells #[.int .i64 0, .int .i64 0, .int .i64 0, .int .i64 0, .slice none 0 0] 30)) := below_alloc3 w _ _ _
  have kp := ((Blk.new w #[.int .i64 x.term, .int .i64 x.vote, .int .i64 x.base, .int .i64 x.bterm, u] 30).alloc (.cells #[.int .i64 r.kind, .int .i64 r.term, .int .i64 r.index, .int .i64 r.vote, .string r.data] 102)).alloc (.cells #[.int .i64 0, .int .i64 0, .int .i64 0, .int .i64 0, .slice none 0 0] 30)
  have kq := (Blk.new (w.alloc (.cells #[.int .i64 x.term, .int .i64 x.vote, .int .i64 x.base, .int .i64 x.bterm, u] 30)) #[.int .i64 r.kind, .int .i64 r.term, .int .i64 r.index, .int .i64 r.vote, .string r.data] 102).alloc (.cells #[.int .i64 0, .int .i64 0, .int .i64 0, .int .i64 0, .slice none 0 0] 30)
  have kr := Blk.new ((w.alloc (.cells #[.int .i64 x.term, .int .i64 x.vote, .int .i64 x.base, .int .i64 x.bterm, u] 30)).alloc (.cells #[.int .i64 r.kind, .int .i64 r.term, .int .i64 r.index, .int .i64 r.vote, .string r.data] 102)) #[.int .i64 0, .int .i64 0, .int .i64 0, .int .i64 0, .slice none 0 0] 30
  simp only [World.size_alloc] at kq kr
  generalize ((w.alloc (.cells #[.int .i64 x.term, .int .i64 x.vote, .int .i64 x.base, .int .i64 x.bterm, u] 30)).alloc (.cells #[.int .i64 r.kind, .int .i64 r.term, .int .i64 r.index, .int .i64 r.vote, .string r.data] 102)).alloc (.cells #[.int .i64 0, .int .i64 0, .int .i64 0, .int .i64 0, .slice none 0 0] 30) = W at *
  refine (specWalOk x (.agg #[.int .i64 x.term, .int .i64 x.vote, .int .i64 x.base, .int .i64 x.bterm, u]) W B (HV.out.on (b0.mono HB.out)) HF.out (Nat.le_trans HB.out b0.size)).mono ?_
  rintro e w1 ⟨rfl, hb1⟩
  have B1 : Hid (Below w.heap.size w w1) := b0.trans (hb1.mono b0.size)
  have KP1 : Hid (Blk w1 w.heap.size #[.int .i64 x.term, .int .i64 x.vote, .int .i64 x.base, .int .i64 x.bterm, u] 30) := kp.on hb1 kp.lt
  have KQ1 : Hid (Blk w1 (w.heap.size + 1) #[.int .i64 r.kind, .int .i64 r.term, .int .i64 r.index, .int .i64 r.vote, .string r.data] 102) := kq.on hb1 kq.lt
  have KR1 : Hid (Blk w1 (w.heap.size + 1 + 1) #[.int .i64 0, .int .i64 0, .int .i64 0, .int .i64 0, .slice none 0 0] 30) := kr.on hb1 kr.lt
  clear b0 kp kq kr hb1
  rw [ho]
  have e0 := KP1.out.cell 0 (.int .i64 x.term) rfl
  have e1 := KP1.out.cell 1 (.int .i64 x.vote) rfl
  have e2 := KP1.out.cell 2 (.int .i64 x.base) rfl
  have e3 := KP1.out.cell 3 (.int .i64 x.bterm) rfl
  have e4 := KP1.out.cell 4 (u) rfl
  go_wp2_with fail
  refine (copyS x (.agg #[.int .i64 x.term, .int .i64 x.vote, .int .i64 x.base, .int .i64 x.bterm, u]) w1 B (HV.out.on (B1.out.mono HB.out)) HN.out (Nat.le_trans HB.out B1.out.size)).mono ?_
  rintro e w2 ⟨u1, rfl, hO2, hb2⟩
  obtain ⟨s1, rfl, o2⟩ := hO2
  obtain ⟨A1, m1, c1, rfl⟩ := o2.shape
  have B2 : Hid (Below w.heap.size w w2) := B1.out.trans (hb2.mono B1.out.size)
  have KP2 : Hid (Blk w2 w.heap.size #[.int .i64 x.term, .int .i64 x.vote, .int .i64 x.base, .int .i64 x.bterm, u] 30) := KP1.out.on hb2 KP1.out.lt
  have KQ2 : Hid (Blk w2 (w.heap.size + 1) #[.int .i64 r.kind, .int .i64 r.term, .int .i64 r.index, .int .i64 r.vote, .string r.data] 102) := KQ1.out.on hb2 KQ1.out.lt
  have KR2 : Hid (Blk w2 (w.heap.size + 1 + 1) #[.int .i64 0, .int .i64 0, .int .i64 0, .int .i64 0, .slice none 0 0] 30) := KR1.out.on hb2 KR1.out.lt
  have O2 : Hid (Owns w2 (w.heap.size + 1 + 1 + 1) 59 2 (.slice A1 m1 c1) (entR x.ents)) := o2.mono KR1.out.lt
  clear e0 e1 e2 e3 e4 hb2 o2 B1 KP1 KQ1 KR1
  have e0 := KP2.out.cell 0 (.int .i64 x.term) rfl
  have f0 := KP2.out.free 0
  have e1 := KP2.out.cell 1 (.int .i64 x.vote) rfl
  have f1 := KP2.out.free 1
  have e2 := KP2.out.cell 2 (.int .i64 x.base) rfl
  have f2 := KP2.out.free 2
  have e3 := KP2.out.cell 3 (.int .i64 x.bterm) rfl
  have f3 := KP2.out.free 3
  have e4 := KP2.out.cell 4 (u) rfl
  have f4 := KP2.out.free 4
  have q0 := KQ2.out.cell 0 (.int .i64 r.kind) rfl
  have q1 := KQ2.out.cell 1 (.int .i64 r.term) rfl
  have q2 := KQ2.out.cell 2 (.int .i64 r.index) rfl
  have q3 := KQ2.out.cell 3 (.int .i64 r.vote) rfl
  have q4 := KQ2.out.cell 4 (.string r.data) rfl
  go_wp2_with fail
  have kp := (((((KP2.out.set 0 (.int .i64 x.term)).set 1 (.int .i64 x.vote)).set 2 (.int .i64 x.base)).set 3 (.int .i64 x.bterm)).set 4 (.slice A1 m1 c1))
  have kq := (((((KQ2.out.other (show w.heap.size + 1 ≠ w.heap.size by omega) 0 (.int .i64 x.term)).other (show w.heap.size + 1 ≠ w.heap.size by omega) 1 (.int .i64 x.vote)).other (show w.heap.size + 1 ≠ w.heap.size by omega) 2 (.int .i64 x.base)).other (show w.heap.size + 1 ≠ w.heap.size by omega) 3 (.int .i64 x.bterm)).other (show w.heap.size + 1 ≠ w.heap.size by omega) 4 (.slice A1 m1 c1))
  have kr := (((((KR2.out.other (show w.heap.size + 1 + 1 ≠ w.heap.size by omega) 0 (.int .i64 x.term)).other (show w.heap.size + 1 + 1 ≠ w.heap.size by omega) 1 (.int .i64 x.vote)).other (show w.heap.size + 1 + 1 ≠ w.heap.size by omega) 2 (.int .i64 x.base)).other (show w.heap.size + 1 + 1 ≠ w.heap.size by omega) 3 (.int .i64 x.bterm)).other (show w.heap.size + 1 + 1 ≠ w.heap.size by omega) 4 (.slice A1 m1 c1))
  have b3 := (((((B2.out.setCell (Nat.le_refl _) (.int .i64 x.term) (p := ⟨_, 0, none⟩)).setCell (Nat.le_refl _) (.int .i64 x.vote) (p := ⟨_, 1, none⟩)).setCell (Nat.le_refl _) (.int .i64 x.base) (p := ⟨_, 2, none⟩)).setCell (Nat.le_refl _) (.int .i64 x.bterm) (p := ⟨_, 3, none⟩)).setCell (Nat.le_refl _) (.slice A1 m1 c1) (p := ⟨_, 4, none⟩))
  have o3 := (((((O2.out.other (O2.out.below (show w.heap.size < _ by omega)) 0 (.int .i64 x.term)).other (O2.out.below (show w.heap.size < _ by omega)) 1 (.int .i64 x.vote)).other (O2.out.below (show w.heap.size < _ by omega)) 2 (.int .i64 x.base)).other (O2.out.below (show w.heap.size < _ by omega)) 3 (.int .i64 x.bterm)).other (O2.out.below (show w.heap.size < _ by omega)) 4 (.slice A1 m1 c1))
  clear e0 f0 e1 f1 e2 f2 e3 f3 e4 f4 q0 q1 q2 q3 q4
  generalize (((((w2.setCell ⟨w.heap.size, 0, none⟩ (.int .i64 x.term)).setCell ⟨w.heap.size, 1, none⟩ (.int .i64 x.vote)).setCell ⟨w.heap.size, 2, none⟩ (.int .i64 x.base)).setCell ⟨w.heap.size, 3, none⟩ (.int .i64 x.bterm)).setCell ⟨w.heap.size, 4, none⟩ (.slice A1 m1 c1)) = W3 at *
  refine (specRecOk r W3 HD.out).mono ?_
  rintro e w4 ⟨rfl, hb4⟩
  have B4 : Hid (Below w.heap.size w w4) := b3.trans (hb4.mono b3.size)
  have KP4 : Hid (Blk w4 w.heap.size #[.int .i64 x.term, .int .i64 x.vote, .int .i64 x.base, .int .i64 x.bterm, .slice A1 m1 c1] 30) := kp.on hb4 kp.lt
  have KQ4 : Hid (Blk w4 (w.heap.size + 1) #[.int .i64 r.kind, .int .i64 r.term, .int .i64 r.index, .int .i64 r.vote, .string r.data] 102) := kq.on hb4 kq.lt
  have KR4 : Hid (Blk w4 (w.heap.size + 1 + 1) #[.int .i64 0, .int .i64 0, .int .i64 0, .int .i64 0, .slice none 0 0] 30) := kr.on hb4 kr.lt
  have O4 : Hid (Owns w4 (w.heap.size + 1 + 1 + 1) 59 2 (.slice A1 m1 c1) (entR x.ents)) := o3.on hb4
  clear kp kq kr b3 o3 hb4 B2 KP2 KQ2 KR2 O2
  rw [hr]
  have e0 := KP4.out.cell 0 (.int .i64 x.term) rfl
  have e1 := KP4.out.cell 1 (.int .i64 x.vote) rfl
  have e2 := KP4.out.cell 2 (.int .i64 x.base) rfl
  have e3 := KP4.out.cell 3 (.int .i64 x.bterm) rfl
  have e4 := KP4.out.cell 4 (.slice A1 m1 c1) rfl
  have q0 := KQ4.out.cell 0 (.int .i64 r.kind) rfl
  have q1 := KQ4.out.cell 1 (.int .i64 r.term) rfl
  have q2 := KQ4.out.cell 2 (.int .i64 r.index) rfl
  have q3 := KQ4.out.cell 3 (.int .i64 r.vote) rfl
  have q4 := KQ4.out.cell 4 (.string r.data) rfl
  go_wp2_with fail
  refine (fitsS x r (.agg #[.int .i64 x.term, .int .i64 x.vote, .int .i64 x.base, .int .i64 x.bterm, .slice A1 m1 c1]) w4 w4.heap.size ⟨_, rfl, O4.out.lies⟩ HN60.out HB1.out HB2.out (Nat.le_refl _)).mono ?_
  rintro e w5 ⟨rfl, hb5⟩
  have B5 : Hid (Below w.heap.size w w5) := B4.out.trans (hb5.mono B4.out.size)
  have KP5 : Hid (Blk w5 w.heap.size #[.int .i64 x.term, .int .i64 x.vote, .int .i64 x.base, .int .i64 x.bterm, .slice A1 m1 c1] 30) := KP4.out.on hb5 KP4.out.lt
  have KQ5 : Hid (Blk w5 (w.heap.size + 1) #[.int .i64 r.kind, .int .i64 r.term, .int .i64 r.index, .int .i64 r.vote, .string r.data] 102) := KQ4.out.on hb5 KQ4.out.lt
  have KR5 : Hid (Blk w5 (w.heap.size + 1 + 1) #[.int .i64 0, .int .i64 0, .int .i64 0, .int .i64 0, .slice none 0 0] 30) := KR4.out.on hb5 KR4.out.lt
  have O5 : Hid (Owns w5 (w.heap.size + 1 + 1 + 1) 59 2 (.slice A1 m1 c1) (entR x.ents)) := O4.out.on hb5
  clear e0 e1 e2 e3 e4 q0 q1 q2 q3 q4 hb5 B4 KP4 KQ4 KR4 O4
  rw [hfit]
  have e0 := KP5.out.cell 0 (.int .i64 x.term) rfl
  have f0 := KP5.out.free 0
  have e1 := KP5.out.cell 1 (.int .i64 x.vote) rfl
  have f1 := KP5.out.free 1
  have e2 := KP5.out.cell 2 (.int .i64 x.base) rfl
  have f2 := KP5.out.free 2
  have e3 := KP5.out.cell 3 (.int .i64 x.bterm) rfl
  have f3 := KP5.out.free 3
  have e4 := KP5.out.cell 4 (.slice A1 m1 c1) rfl
  have f4 := KP5.out.free 4
  have q0 := KQ5.out.cell 0 (.int .i64 r.kind) rfl
  have q1 := KQ5.out.cell 1 (.int .i64 r.term) rfl
  have q2 := KQ5.out.cell 2 (.int .i64 r.index) rfl
  have q3 := KQ5.out.cell 3 (.int .i64 r.vote) rfl
  have q4 := KQ5.out.cell 4 (.string r.data) rfl
  have r0 := KR5.out.cell 0 (.int .i64 0) rfl
  have g0 := KR5.out.free 0
  have r1 := KR5.out.cell 1 (.int .i64 0) rfl
  have g1 := KR5.out.free 1
  have r2 := KR5.out.cell 2 (.int .i64 0) rfl
  have g2 := KR5.out.free 2
  have r3 := KR5.out.cell 3 (.int .i64 0) rfl
  have g3 := KR5.out.free 3
  have r4 := KR5.out.cell 4 (.slice none 0 0) rfl
  have g4 := KR5.out.free 4
  go_wp2_with fail
  have hF := (((((KR5.out.set 0 (.int .i64 x.term)).set 1 (.int .i64 x.vote)).set 2 (.int .i64 x.base)).set 3 (.int .i64 x.bterm)).set 4 (.slice A1 m1 c1))
  have FB := (((((B5.out.setCell (show w.heap.size ≤ w.heap.size + 1 + 1 by omega) (.int .i64 x.term) (p := ⟨_, 0, none⟩)).setCell (show w.heap.size ≤ w.heap.size + 1 + 1 by omega) (.int .i64 x.vote) (p := ⟨_, 1, none⟩)).setCell (show w.heap.size ≤ w.heap.size + 1 + 1 by omega) (.int .i64 x.base) (p := ⟨_, 2, none⟩)).setCell (show w.heap.size ≤ w.heap.size + 1 + 1 by omega) (.int .i64 x.bterm) (p := ⟨_, 3, none⟩)).setCell (show w.heap.size ≤ w.heap.size + 1 + 1 by omega) (.slice A1 m1 c1) (p := ⟨_, 4, none⟩))
  have OF := (((((O5.out.other (O5.out.below (show w.heap.size + 1 + 1 < _ by omega)) 0 (.int .i64 x.term)).other (O5.out.below (show w.heap.size + 1 + 1 < _ by omega)) 1 (.int .i64 x.vote)).other (O5.out.below (show w.heap.size + 1 + 1 < _ by omega)) 2 (.int .i64 x.base)).other (O5.out.below (show w.heap.size + 1 + 1 < _ by omega)) 3 (.int .i64 x.bterm)).other (O5.out.below (show w.heap.size + 1 + 1 < _ by omega)) 4 (.slice A1 m1 c1))
  clear q0 q1 q2 q3 q4 e0 f0 e1 f1 e2 f2 e3 f3 e4 f4 r0 g0 r1 g1 r2 g2 r3 g3 r4 g4
  generalize (((((w5.setCell ⟨w.heap.size + 1 + 1, 0, none⟩ (.int .i64 x.term)).setCell ⟨w.heap.size + 1 + 1, 1, none⟩ (.int .i64 x.vote)).setCell ⟨w.heap.size + 1 + 1, 2, none⟩ (.int .i64 x.base)).setCell ⟨w.heap.size + 1 + 1, 3, none⟩ (.int .i64 x.bterm)).setCell ⟨w.heap.size + 1 + 1, 4, none⟩ (.slice A1 m1 c1)) = WF at *
  have hG : Blk WF (w.heap.size + 1 + 1) #[.int .i64 x.term, .int .i64 x.vote, .int .i64 x.base, .int .i64 x.bterm, .slice A1 m1 c1] 30 := hF
  have mm0 := hG.cell 0 (.int .i64 x.term) rfl
  have mm1 := hG.cell 1 (.int .i64 x.vote) rfl
  have mm2 := hG.cell 2 (.int .i64 x.base) rfl
  have mm3 := hG.cell 3 (.int .i64 x.bterm) rfl
  have mm4 := hG.cell 4 (.slice A1 m1 c1) rfl
  exact bodyPost_ret (v := .tuple #[.agg #[.int .i64 x.term, .int .i64 x.vote, .int .i64 x.base, .int .i64 x.bterm, .slice A1 m1 c1], .bool false]) (by simp [results, go_sem, mm0, mm1, mm2, mm3, mm4]) rfl ⟨_, _, rfl, ⟨⟨_, rfl, OF.mono (by omega)⟩, rfl⟩, FB⟩
 rw [step_yes x r ho (by rw [hr, hfit]; rfl)]
 have HO : Hid (walOk x = true) := ho
 rcases fits_kind x r hfit with hk | hk | hk
 ·have HST : Hid (stepTo x r = ⟨r.term, r.vote, x.base, x.bterm, x.ents⟩) := by unfold Hid stepTo; rw [if_pos hk]
  rw [HST.out]
  have HK : Hid (r.kind = _) := hk
  clear hk
  go_enter Tryz.func53, Tryz.ntmps53
  go_wp2_with fail
  have b0 : Below w.heap.size w (((w.alloc (.cells #[.int .i64 x.term, .int .i64 x.vote, .int .i64 x.base, .int .i64 x.bterm, u] 30)).alloc (.cells #[.int .i64 r.kind, .int .i64 r.term, .int .i64 r.index, .int .i64 r.vote, .string r.data] 102)).alloc (.cells #[.int .i64 0, .int .i64 0, .int .i64 0, .int .i64 0, .slice none 0 0] 30)) := below_alloc3 w _ _ _
  have kp := ((Blk.new w #[.int .i64 x.term, .int .i64 x.vote, .int .i64 x.base, .int .i64 x.bterm, u] 30).alloc (.cells #[.int .i64 r.kind, .int .i64 r.term, .int .i64 r.index, .int .i64 r.vote, .string r.data] 102)).alloc (.cells #[.int .i64 0, .int .i64 0, .int .i64 0, .int .i64 0, .slice none 0 0] 30)
  have kq := (Blk.new (w.alloc (.cells #[.int .i64 x.term, .int .i64 x.vote, .int .i64 x.base, .int .i64 x.bterm, u] 30)) #[.int .i64 r.kind, .int .i64 r.term, .int .i64 r.index, .int .i64 r.vote, .string r.data] 102).alloc (.cells #[.int .i64 0, .int .i64 0, .int .i64 0, .int .i64 0, .slice none 0 0] 30)
  have kr := Blk.new ((w.alloc (.cells #[.int .i64 x.term, .int .i64 x.vote, .int .i64 x.base, .int .i64 x.bterm, u] 30)).alloc (.cells #[.int .i64 r.kind, .int .i64 r.term, .int .i64 r.index, .int .i64 r.vote, .string r.data] 102)) #[.int .i64 0, .int .i64 0, .int .i64 0, .int .i64 0, .slice none 0 0] 30
  simp only [World.size_alloc] at kq kr
  generalize ((w.alloc (.cells #[.int .i64 x.term, .int .i64 x.vote, .int .i64 x.base, .int .i64 x.bterm, u] 30)).alloc (.cells #[.int .i64 r.kind, .int .i64 r.term, .int .i64 r.index, .int .i64 r.vote, .string r.data] 102)).alloc (.cells #[.int .i64 0, .int .i64 0, .int .i64 0, .int .i64 0, .slice none 0 0] 30) = W at *
  refine (specWalOk x (.agg #[.int .i64 x.term, .int .i64 x.vote, .int .i64 x.base, .int .i64 x.bterm, u]) W B (HV.out.on (b0.mono HB.out)) HF.out (Nat.le_trans HB.out b0.size)).mono ?_
  rintro e w1 ⟨rfl, hb1⟩
  have B1 : Hid (Below w.heap.size w w1) := b0.trans (hb1.mono b0.size)
  have KP1 : Hid (Blk w1 w.heap.size #[.int .i64 x.term, .int .i64 x.vote, .int .i64 x.base, .int .i64 x.bterm, u] 30) := kp.on hb1 kp.lt
  have KQ1 : Hid (Blk w1 (w.heap.size + 1) #[.int .i64 r.kind, .int .i64 r.term, .int .i64 r.index, .int .i64 r.vote, .string r.data] 102) := kq.on hb1 kq.lt
  have KR1 : Hid (Blk w1 (w.heap.size + 1 + 1) #[.int .i64 0, .int .i64 0, .int .i64 0, .int .i64 0, .slice none 0 0] 30) := kr.on hb1 kr.lt
  clear b0 kp kq kr hb1
  rw [ho]
  have e0 := KP1.out.cell 0 (.int .i64 x.term) rfl
  have e1 := KP1.out.cell 1 (.int .i64 x.vote) rfl
  have e2 := KP1.out.cell 2 (.int .i64 x.base) rfl
  have e3 := KP1.out.cell 3 (.int .i64 x.bterm) rfl
  have e4 := KP1.out.cell 4 (u) rfl
  go_wp2_with fail
  refine (copyS x (.agg #[.int .i64 x.term, .int .i64 x.vote, .int .i64 x.base, .int .i64 x.bterm, u]) w1 B (HV.out.on (B1.out.mono HB.out)) HN.out (Nat.le_trans HB.out B1.out.size)).mono ?_
  rintro e w2 ⟨u1, rfl, hO2, hb2⟩
  obtain ⟨s1, rfl, o2⟩ := hO2
  obtain ⟨A1, m1, c1, rfl⟩ := o2.shape
  have B2 : Hid (Below w.heap.size w w2) := B1.out.trans (hb2.mono B1.out.size)
  have KP2 : Hid (Blk w2 w.heap.size #[.int .i64 x.term, .int .i64 x.vote, .int .i64 x.base, .int .i64 x.bterm, u] 30) := KP1.out.on hb2 KP1.out.lt
  have KQ2 : Hid (Blk w2 (w.heap.size + 1) #[.int .i64 r.kind, .int .i64 r.term, .int .i64 r.index, .int .i64 r.vote, .string r.data] 102) := KQ1.out.on hb2 KQ1.out.lt
  have KR2 : Hid (Blk w2 (w.heap.size + 1 + 1) #[.int .i64 0, .int .i64 0, .int .i64 0, .int .i64 0, .slice none 0 0] 30) := KR1.out.on hb2 KR1.out.lt
  have O2 : Hid (Owns w2 (w.heap.size + 1 + 1 + 1) 59 2 (.slice A1 m1 c1) (entR x.ents)) := o2.mono KR1.out.lt
  clear e0 e1 e2 e3 e4 hb2 o2 B1 KP1 KQ1 KR1
  have e0 := KP2.out.cell 0 (.int .i64 x.term) rfl
  have f0 := KP2.out.free 0
  have e1 := KP2.out.cell 1 (.int .i64 x.vote) rfl
  have f1 := KP2.out.free 1
  have e2 := KP2.out.cell 2 (.int .i64 x.base) rfl
  have f2 := KP2.out.free 2
  have e3 := KP2.out.cell 3 (.int .i64 x.bterm) rfl
  have f3 := KP2.out.free 3
  have e4 := KP2.out.cell 4 (u) rfl
  have f4 := KP2.out.free 4
  have q0 := KQ2.out.cell 0 (.int .i64 r.kind) rfl
  have q1 := KQ2.out.cell 1 (.int .i64 r.term) rfl
  have q2 := KQ2.out.cell 2 (.int .i64 r.index) rfl
  have q3 := KQ2.out.cell 3 (.int .i64 r.vote) rfl
  have q4 := KQ2.out.cell 4 (.string r.data) rfl
  go_wp2_with fail
  have kp := (((((KP2.out.set 0 (.int .i64 x.term)).set 1 (.int .i64 x.vote)).set 2 (.int .i64 x.base)).set 3 (.int .i64 x.bterm)).set 4 (.slice A1 m1 c1))
  have kq := (((((KQ2.out.other (show w.heap.size + 1 ≠ w.heap.size by omega) 0 (.int .i64 x.term)).other (show w.heap.size + 1 ≠ w.heap.size by omega) 1 (.int .i64 x.vote)).other (show w.heap.size + 1 ≠ w.heap.size by omega) 2 (.int .i64 x.base)).other (show w.heap.size + 1 ≠ w.heap.size by omega) 3 (.int .i64 x.bterm)).other (show w.heap.size + 1 ≠ w.heap.size by omega) 4 (.slice A1 m1 c1))
  have kr := (((((KR2.out.other (show w.heap.size + 1 + 1 ≠ w.heap.size by omega) 0 (.int .i64 x.term)).other (show w.heap.size + 1 + 1 ≠ w.heap.size by omega) 1 (.int .i64 x.vote)).other (show w.heap.size + 1 + 1 ≠ w.heap.size by omega) 2 (.int .i64 x.base)).other (show w.heap.size + 1 + 1 ≠ w.heap.size by omega) 3 (.int .i64 x.bterm)).other (show w.heap.size + 1 + 1 ≠ w.heap.size by omega) 4 (.slice A1 m1 c1))
  have b3 := (((((B2.out.setCell (Nat.le_refl _) (.int .i64 x.term) (p := ⟨_, 0, none⟩)).setCell (Nat.le_refl _) (.int .i64 x.vote) (p := ⟨_, 1, none⟩)).setCell (Nat.le_refl _) (.int .i64 x.base) (p := ⟨_, 2, none⟩)).setCell (Nat.le_refl _) (.int .i64 x.bterm) (p := ⟨_, 3, none⟩)).setCell (Nat.le_refl _) (.slice A1 m1 c1) (p := ⟨_, 4, none⟩))
  have o3 := (((((O2.out.other (O2.out.below (show w.heap.size < _ by omega)) 0 (.int .i64 x.term)).other (O2.out.below (show w.heap.size < _ by omega)) 1 (.int .i64 x.vote)).other (O2.out.below (show w.heap.size < _ by omega)) 2 (.int .i64 x.base)).other (O2.out.below (show w.heap.size < _ by omega)) 3 (.int .i64 x.bterm)).other (O2.out.below (show w.heap.size < _ by omega)) 4 (.slice A1 m1 c1))
  clear e0 f0 e1 f1 e2 f2 e3 f3 e4 f4 q0 q1 q2 q3 q4
  generalize (((((w2.setCell ⟨w.heap.size, 0, none⟩ (.int .i64 x.term)).setCell ⟨w.heap.size, 1, none⟩ (.int .i64 x.vote)).setCell ⟨w.heap.size, 2, none⟩ (.int .i64 x.base)).setCell ⟨w.heap.size, 3, none⟩ (.int .i64 x.bterm)).setCell ⟨w.heap.size, 4, none⟩ (.slice A1 m1 c1)) = W3 at *
  refine (specRecOk r W3 HD.out).mono ?_
  rintro e w4 ⟨rfl, hb4⟩
  have B4 : Hid (Below w.heap.size w w4) := b3.trans (hb4.mono b3.size)
  have KP4 : Hid (Blk w4 w.heap.size #[.int .i64 x.term, .int .i64 x.vote, .int .i64 x.base, .int .i64 x.bterm, .slice A1 m1 c1] 30) := kp.on hb4 kp.lt
  have KQ4 : Hid (Blk w4 (w.heap.size + 1) #[.int .i64 r.kind, .int .i64 r.term, .int .i64 r.index, .int .i64 r.vote, .string r.data] 102) := kq.on hb4 kq.lt
  have KR4 : Hid (Blk w4 (w.heap.size + 1 + 1) #[.int .i64 0, .int .i64 0, .int .i64 0, .int .i64 0, .slice none 0 0] 30) := kr.on hb4 kr.lt
  have O4 : Hid (Owns w4 (w.heap.size + 1 + 1 + 1) 59 2 (.slice A1 m1 c1) (entR x.ents)) := o3.on hb4
  clear kp kq kr b3 o3 hb4 B2 KP2 KQ2 KR2 O2
  rw [hr]
  have e0 := KP4.out.cell 0 (.int .i64 x.term) rfl
  have e1 := KP4.out.cell 1 (.int .i64 x.vote) rfl
  have e2 := KP4.out.cell 2 (.int .i64 x.base) rfl
  have e3 := KP4.out.cell 3 (.int .i64 x.bterm) rfl
  have e4 := KP4.out.cell 4 (.slice A1 m1 c1) rfl
  have q0 := KQ4.out.cell 0 (.int .i64 r.kind) rfl
  have q1 := KQ4.out.cell 1 (.int .i64 r.term) rfl
  have q2 := KQ4.out.cell 2 (.int .i64 r.index) rfl
  have q3 := KQ4.out.cell 3 (.int .i64 r.vote) rfl
  have q4 := KQ4.out.cell 4 (.string r.data) rfl
  go_wp2_with fail
  refine (fitsS x r (.agg #[.int .i64 x.term, .int .i64 x.vote, .int .i64 x.base, .int .i64 x.bterm, .slice A1 m1 c1]) w4 w4.heap.size ⟨_, rfl, O4.out.lies⟩ HN60.out HB1.out HB2.out (Nat.le_refl _)).mono ?_
  rintro e w5 ⟨rfl, hb5⟩
  have B5 : Hid (Below w.heap.size w w5) := B4.out.trans (hb5.mono B4.out.size)
  have KP5 : Hid (Blk w5 w.heap.size #[.int .i64 x.term, .int .i64 x.vote, .int .i64 x.base, .int .i64 x.bterm, .slice A1 m1 c1] 30) := KP4.out.on hb5 KP4.out.lt
  have KQ5 : Hid (Blk w5 (w.heap.size + 1) #[.int .i64 r.kind, .int .i64 r.term, .int .i64 r.index, .int .i64 r.vote, .string r.data] 102) := KQ4.out.on hb5 KQ4.out.lt
  have KR5 : Hid (Blk w5 (w.heap.size + 1 + 1) #[.int .i64 0, .int .i64 0, .int .i64 0, .int .i64 0, .slice none 0 0] 30) := KR4.out.on hb5 KR4.out.lt
  have O5 : Hid (Owns w5 (w.heap.size + 1 + 1 + 1) 59 2 (.slice A1 m1 c1) (entR x.ents)) := O4.out.on hb5
  clear e0 e1 e2 e3 e4 q0 q1 q2 q3 q4 hb5 B4 KP4 KQ4 KR4 O4
  rw [hfit]
  have e0 := KP5.out.cell 0 (.int .i64 x.term) rfl
  have f0 := KP5.out.free 0
  have e1 := KP5.out.cell 1 (.int .i64 x.vote) rfl
  have f1 := KP5.out.free 1
  have e2 := KP5.out.cell 2 (.int .i64 x.base) rfl
  have f2 := KP5.out.free 2
  have e3 := KP5.out.cell 3 (.int .i64 x.bterm) rfl
  have f3 := KP5.out.free 3
  have e4 := KP5.out.cell 4 (.slice A1 m1 c1) rfl
  have f4 := KP5.out.free 4
  have q0 := KQ5.out.cell 0 (.int .i64 r.kind) rfl
  have q1 := KQ5.out.cell 1 (.int .i64 r.term) rfl
  have q2 := KQ5.out.cell 2 (.int .i64 r.index) rfl
  have q3 := KQ5.out.cell 3 (.int .i64 r.vote) rfl
  have q4 := KQ5.out.cell 4 (.string r.data) rfl
  have r0 := KR5.out.cell 0 (.int .i64 0) rfl
  have g0 := KR5.out.free 0
  have r1 := KR5.out.cell 1 (.int .i64 0) rfl
  have g1 := KR5.out.free 1
  have r2 := KR5.out.cell 2 (.int .i64 0) rfl
  have g2 := KR5.out.free 2
  have r3 := KR5.out.cell 3 (.int .i64 0) rfl
  have g3 := KR5.out.free 3
  have r4 := KR5.out.cell 4 (.slice none 0 0) rfl
  have g4 := KR5.out.free 4
  rw [HK.out] at q0
  go_wp2_with fail
  have hF := (((((((KR5.out.other (show w.heap.size + 1 + 1 ≠ w.heap.size by omega) 0 (.int .i64 r.term)).other (show w.heap.size + 1 + 1 ≠ w.heap.size by omega) 1 (.int .i64 r.vote)).set 0 (.int .i64 r.term)).set 1 (.int .i64 r.vote)).set 2 (.int .i64 x.base)).set 3 (.int .i64 x.bterm)).set 4 (.slice A1 m1 c1))
  have FB := (((((((B5.out.setCell (Nat.le_refl _) (.int .i64 r.term) (p := ⟨_, 0, none⟩)).setCell (Nat.le_refl _) (.int .i64 r.vote) (p := ⟨_, 1, none⟩)).setCell (show w.heap.size ≤ w.heap.size + 1 + 1 by omega) (.int .i64 r.term) (p := ⟨_, 0, none⟩)).setCell (show w.heap.size ≤ w.heap.size + 1 + 1 by omega) (.int .i64 r.vote) (p := ⟨_, 1, none⟩)).setCell (show w.heap.size ≤ w.heap.size + 1 + 1 by omega) (.int .i64 x.base) (p := ⟨_, 2, none⟩)).setCell (show w.heap.size ≤ w.heap.size + 1 + 1 by omega) (.int .i64 x.bterm) (p := ⟨_, 3, none⟩)).setCell (show w.heap.size ≤ w.heap.size + 1 + 1 by omega) (.slice A1 m1 c1) (p := ⟨_, 4, none⟩))
  have OF := (((((((O5.out.other (O5.out.below (show w.heap.size < _ by omega)) 0 (.int .i64 r.term)).other (O5.out.below (show w.heap.size < _ by omega)) 1 (.int .i64 r.vote)).other (O5.out.below (show w.heap.size + 1 + 1 < _ by omega)) 0 (.int .i64 r.term)).other (O5.out.below (show w.heap.size + 1 + 1 < _ by omega)) 1 (.int .i64 r.vote)).other (O5.out.below (show w.heap.size + 1 + 1 < _ by omega)) 2 (.int .i64 x.base)).other (O5.out.below (show w.heap.size + 1 + 1 < _ by omega)) 3 (.int .i64 x.bterm)).other (O5.out.below (show w.heap.size + 1 + 1 < _ by omega)) 4 (.slice A1 m1 c1))
  clear q0 q1 q2 q3 q4 e0 f0 e1 f1 e2 f2 e3 f3 e4 f4 r0 g0 r1 g1 r2 g2 r3 g3 r4 g4
  generalize (((((((w5.setCell ⟨w.heap.size, 0, none⟩ (.int .i64 r.term)).setCell ⟨w.heap.size, 1, none⟩ (.int .i64 r.vote)).setCell ⟨w.heap.size + 1 + 1, 0, none⟩ (.int .i64 r.term)).setCell ⟨w.heap.size + 1 + 1, 1, none⟩ (.int .i64 r.vote)).setCell ⟨w.heap.size + 1 + 1, 2, none⟩ (.int .i64 x.base)).setCell ⟨w.heap.size + 1 + 1, 3, none⟩ (.int .i64 x.bterm)).setCell ⟨w.heap.size + 1 + 1, 4, none⟩ (.slice A1 m1 c1)) = WF at *
  have hG : Blk WF (w.heap.size + 1 + 1) #[.int .i64 r.term, .int .i64 r.vote, .int .i64 x.base, .int .i64 x.bterm, .slice A1 m1 c1] 30 := hF
  have mm0 := hG.cell 0 (.int .i64 r.term) rfl
  have mm1 := hG.cell 1 (.int .i64 r.vote) rfl
  have mm2 := hG.cell 2 (.int .i64 x.base) rfl
  have mm3 := hG.cell 3 (.int .i64 x.bterm) rfl
  have mm4 := hG.cell 4 (.slice A1 m1 c1) rfl
  exact bodyPost_ret (v := .tuple #[.agg #[.int .i64 r.term, .int .i64 r.vote, .int .i64 x.base, .int .i64 x.bterm, .slice A1 m1 c1], .bool true]) (by simp [results, go_sem, mm0, mm1, mm2, mm3, mm4]) rfl ⟨_, _, rfl, ⟨⟨_, rfl, OF.mono (by omega)⟩, rfl⟩, FB⟩
 ·have HST : Hid (stepTo x r = ⟨x.term, x.vote, x.base, x.bterm, x.ents ++ [⟨r.term, r.data⟩]⟩) := by unfold Hid stepTo; rw [if_neg (by omega), if_pos hk]
  rw [HST.out]
  have HK : Hid (r.kind = _) := hk
  clear hk
  go_enter Tryz.func53, Tryz.ntmps53
  go_wp2_with fail
  have b0 : Below w.heap.size w (((w.alloc (.cells #[.int .i64 x.term, .int .i64 x.vote, .int .i64 x.base, .int .i64 x.bterm, u] 30)).alloc (.cells #[.int .i64 r.kind, .int .i64 r.term, .int .i64 r.index, .int .i64 r.vote, .string r.data] 102)).alloc (.cells #[.int .i64 0, .int .i64 0, .int .i64 0, .int .i64 0, .slice none 0 0] 30)) := below_alloc3 w _ _ _
  have kp := ((Blk.new w #[.int .i64 x.term, .int .i64 x.vote, .int .i64 x.base, .int .i64 x.bterm, u] 30).alloc (.cells #[.int .i64 r.kind, .int .i64 r.term, .int .i64 r.index, .int .i64 r.vote, .string r.data] 102)).alloc (.cells #[.int .i64 0, .int .i64 0, .int .i64 0, .int .i64 0, .slice none 0 0] 30)
  have kq := (Blk.new (w.alloc (.cells #[.int .i64 x.term, .int .i64 x.vote, .int .i64 x.base, .int .i64 x.bterm, u] 30)) #[.int .i64 r.kind, .int .i64 r.term, .int .i64 r.index, .int .i64 r.vote, .string r.data] 102).alloc (.cells #[.int .i64 0, .int .i64 0, .int .i64 0, .int .i64 0, .slice none 0 0] 30)
  have kr := Blk.new ((w.alloc (.cells #[.int .i64 x.term, .int .i64 x.vote, .int .i64 x.base, .int .i64 x.bterm, u] 30)).alloc (.cells #[.int .i64 r.kind, .int .i64 r.term, .int .i64 r.index, .int .i64 r.vote, .string r.data] 102)) #[.int .i64 0, .int .i64 0, .int .i64 0, .int .i64 0, .slice none 0 0] 30
  simp only [World.size_alloc] at kq kr
  generalize ((w.alloc (.cells #[.int .i64 x.term, .int .i64 x.vote, .int .i64 x.base, .int .i64 x.bterm, u] 30)).alloc (.cells #[.int .i64 r.kind, .int .i64 r.term, .int .i64 r.index, .int .i64 r.vote, .string r.data] 102)).alloc (.cells #[.int .i64 0, .int .i64 0, .int .i64 0, .int .i64 0, .slice none 0 0] 30) = W at *
  refine (specWalOk x (.agg #[.int .i64 x.term, .int .i64 x.vote, .int .i64 x.base, .int .i64 x.bterm, u]) W B (HV.out.on (b0.mono HB.out)) HF.out (Nat.le_trans HB.out b0.size)).mono ?_
  rintro e w1 ⟨rfl, hb1⟩
  have B1 : Hid (Below w.heap.size w w1) := b0.trans (hb1.mono b0.size)
  have KP1 : Hid (Blk w1 w.heap.size #[.int .i64 x.term, .int .i64 x.vote, .int .i64 x.base, .int .i64 x.bterm, u] 30) := kp.on hb1 kp.lt
  have KQ1 : Hid (Blk w1 (w.heap.size + 1) #[.int .i64 r.kind, .int .i64 r.term, .int .i64 r.index, .int .i64 r.vote, .string r.data] 102) := kq.on hb1 kq.lt
  have KR1 : Hid (Blk w1 (w.heap.size + 1 + 1) #[.int .i64 0, .int .i64 0, .int .i64 0, .int .i64 0, .slice none 0 0] 30) := kr.on hb1 kr.lt
  clear b0 kp kq kr hb1
  rw [ho]
  have e0 := KP1.out.cell 0 (.int .i64 x.term) rfl
  have e1 := KP1.out.cell 1 (.int .i64 x.vote) rfl
  have e2 := KP1.out.cell 2 (.int .i64 x.base) rfl
  have e3 := KP1.out.cell 3 (.int .i64 x.bterm) rfl
  have e4 := KP1.out.cell 4 (u) rfl
  go_wp2_with fail
  refine (copyS x (.agg #[.int .i64 x.term, .int .i64 x.vote, .int .i64 x.base, .int .i64 x.bterm, u]) w1 B (HV.out.on (B1.out.mono HB.out)) HN.out (Nat.le_trans HB.out B1.out.size)).mono ?_
  rintro e w2 ⟨u1, rfl, hO2, hb2⟩
  obtain ⟨s1, rfl, o2⟩ := hO2
  obtain ⟨A1, m1, c1, rfl⟩ := o2.shape
  have B2 : Hid (Below w.heap.size w w2) := B1.out.trans (hb2.mono B1.out.size)
  have KP2 : Hid (Blk w2 w.heap.size #[.int .i64 x.term, .int .i64 x.vote, .int .i64 x.base, .int .i64 x.bterm, u] 30) := KP1.out.on hb2 KP1.out.lt
  have KQ2 : Hid (Blk w2 (w.heap.size + 1) #[.int .i64 r.kind, .int .i64 r.term, .int .i64 r.index, .int .i64 r.vote, .string r.data] 102) := KQ1.out.on hb2 KQ1.out.lt
  have KR2 : Hid (Blk w2 (w.heap.size + 1 + 1) #[.int .i64 0, .int .i64 0, .int .i64 0, .int .i64 0, .slice none 0 0] 30) := KR1.out.on hb2 KR1.out.lt
  have O2 : Hid (Owns w2 (w.heap.size + 1 + 1 + 1) 59 2 (.slice A1 m1 c1) (entR x.ents)) := o2.mono KR1.out.lt
  clear e0 e1 e2 e3 e4 hb2 o2 B1 KP1 KQ1 KR1
  have e0 := KP2.out.cell 0 (.int .i64 x.term) rfl
  have f0 := KP2.out.free 0
  have e1 := KP2.out.cell 1 (.int .i64 x.vote) rfl
  have f1 := KP2.out.free 1
  have e2 := KP2.out.cell 2 (.int .i64 x.base) rfl
  have f2 := KP2.out.free 2
  have e3 := KP2.out.cell 3 (.int .i64 x.bterm) rfl
  have f3 := KP2.out.free 3
  have e4 := KP2.out.cell 4 (u) rfl
  have f4 := KP2.out.free 4
  have q0 := KQ2.out.cell 0 (.int .i64 r.kind) rfl
  have q1 := KQ2.out.cell 1 (.int .i64 r.term) rfl
  have q2 := KQ2.out.cell 2 (.int .i64 r.index) rfl
  have q3 := KQ2.out.cell 3 (.int .i64 r.vote) rfl
  have q4 := KQ2.out.cell 4 (.string r.data) rfl
  go_wp2_with fail
  have kp := (((((KP2.out.set 0 (.int .i64 x.term)).set 1 (.int .i64 x.vote)).set 2 (.int .i64 x.base)).set 3 (.int .i64 x.bterm)).set 4 (.slice A1 m1 c1))
  have kq := (((((KQ2.out.other (show w.heap.size + 1 ≠ w.heap.size by omega) 0 (.int .i64 x.term)).other (show w.heap.size + 1 ≠ w.heap.size by omega) 1 (.int .i64 x.vote)).other (show w.heap.size + 1 ≠ w.heap.size by omega) 2 (.int .i64 x.base)).other (show w.heap.size + 1 ≠ w.heap.size by omega) 3 (.int .i64 x.bterm)).other (show w.heap.size + 1 ≠ w.heap.size by omega) 4 (.slice A1 m1 c1))
  have kr := (((((KR2.out.other (show w.heap.size + 1 + 1 ≠ w.heap.size by omega) 0 (.int .i64 x.term)).other (show w.heap.size + 1 + 1 ≠ w.heap.size by omega) 1 (.int .i64 x.vote)).other (show w.heap.size + 1 + 1 ≠ w.heap.size by omega) 2 (.int .i64 x.base)).other (show w.heap.size + 1 + 1 ≠ w.heap.size by omega) 3 (.int .i64 x.bterm)).other (show w.heap.size + 1 + 1 ≠ w.heap.size by omega) 4 (.slice A1 m1 c1))
  have b3 := (((((B2.out.setCell (Nat.le_refl _) (.int .i64 x.term) (p := ⟨_, 0, none⟩)).setCell (Nat.le_refl _) (.int .i64 x.vote) (p := ⟨_, 1, none⟩)).setCell (Nat.le_refl _) (.int .i64 x.base) (p := ⟨_, 2, none⟩)).setCell (Nat.le_refl _) (.int .i64 x.bterm) (p := ⟨_, 3, none⟩)).setCell (Nat.le_refl _) (.slice A1 m1 c1) (p := ⟨_, 4, none⟩))
  have o3 := (((((O2.out.other (O2.out.below (show w.heap.size < _ by omega)) 0 (.int .i64 x.term)).other (O2.out.below (show w.heap.size < _ by omega)) 1 (.int .i64 x.vote)).other (O2.out.below (show w.heap.size < _ by omega)) 2 (.int .i64 x.base)).other (O2.out.below (show w.heap.size < _ by omega)) 3 (.int .i64 x.bterm)).other (O2.out.below (show w.heap.size < _ by omega)) 4 (.slice A1 m1 c1))
  clear e0 f0 e1 f1 e2 f2 e3 f3 e4 f4 q0 q1 q2 q3 q4
  generalize (((((w2.setCell ⟨w.heap.size, 0, none⟩ (.int .i64 x.term)).setCell ⟨w.heap.size, 1, none⟩ (.int .i64 x.vote)).setCell ⟨w.heap.size, 2, none⟩ (.int .i64 x.base)).setCell ⟨w.heap.size, 3, none⟩ (.int .i64 x.bterm)).setCell ⟨w.heap.size, 4, none⟩ (.slice A1 m1 c1)) = W3 at *
  refine (specRecOk r W3 HD.out).mono ?_
  rintro e w4 ⟨rfl, hb4⟩
  have B4 : Hid (Below w.heap.size w w4) := b3.trans (hb4.mono b3.size)
  have KP4 : Hid (Blk w4 w.heap.size #[.int .i64 x.term, .int .i64 x.vote, .int .i64 x.base, .int .i64 x.bterm, .slice A1 m1 c1] 30) := kp.on hb4 kp.lt
  have KQ4 : Hid (Blk w4 (w.heap.size + 1) #[.int .i64 r.kind, .int .i64 r.term, .int .i64 r.index, .int .i64 r.vote, .string r.data] 102) := kq.on hb4 kq.lt
  have KR4 : Hid (Blk w4 (w.heap.size + 1 + 1) #[.int .i64 0, .int .i64 0, .int .i64 0, .int .i64 0, .slice none 0 0] 30) := kr.on hb4 kr.lt
  have O4 : Hid (Owns w4 (w.heap.size + 1 + 1 + 1) 59 2 (.slice A1 m1 c1) (entR x.ents)) := o3.on hb4
  clear kp kq kr b3 o3 hb4 B2 KP2 KQ2 KR2 O2
  rw [hr]
  have e0 := KP4.out.cell 0 (.int .i64 x.term) rfl
  have e1 := KP4.out.cell 1 (.int .i64 x.vote) rfl
  have e2 := KP4.out.cell 2 (.int .i64 x.base) rfl
  have e3 := KP4.out.cell 3 (.int .i64 x.bterm) rfl
  have e4 := KP4.out.cell 4 (.slice A1 m1 c1) rfl
  have q0 := KQ4.out.cell 0 (.int .i64 r.kind) rfl
  have q1 := KQ4.out.cell 1 (.int .i64 r.term) rfl
  have q2 := KQ4.out.cell 2 (.int .i64 r.index) rfl
  have q3 := KQ4.out.cell 3 (.int .i64 r.vote) rfl
  have q4 := KQ4.out.cell 4 (.string r.data) rfl
  go_wp2_with fail
  refine (fitsS x r (.agg #[.int .i64 x.term, .int .i64 x.vote, .int .i64 x.base, .int .i64 x.bterm, .slice A1 m1 c1]) w4 w4.heap.size ⟨_, rfl, O4.out.lies⟩ HN60.out HB1.out HB2.out (Nat.le_refl _)).mono ?_
  rintro e w5 ⟨rfl, hb5⟩
  have B5 : Hid (Below w.heap.size w w5) := B4.out.trans (hb5.mono B4.out.size)
  have KP5 : Hid (Blk w5 w.heap.size #[.int .i64 x.term, .int .i64 x.vote, .int .i64 x.base, .int .i64 x.bterm, .slice A1 m1 c1] 30) := KP4.out.on hb5 KP4.out.lt
  have KQ5 : Hid (Blk w5 (w.heap.size + 1) #[.int .i64 r.kind, .int .i64 r.term, .int .i64 r.index, .int .i64 r.vote, .string r.data] 102) := KQ4.out.on hb5 KQ4.out.lt
  have KR5 : Hid (Blk w5 (w.heap.size + 1 + 1) #[.int .i64 0, .int .i64 0, .int .i64 0, .int .i64 0, .slice none 0 0] 30) := KR4.out.on hb5 KR4.out.lt
  have O5 : Hid (Owns w5 (w.heap.size + 1 + 1 + 1) 59 2 (.slice A1 m1 c1) (entR x.ents)) := O4.out.on hb5
  clear e0 e1 e2 e3 e4 q0 q1 q2 q3 q4 hb5 B4 KP4 KQ4 KR4 O4
  rw [hfit]
  have e0 := KP5.out.cell 0 (.int .i64 x.term) rfl
  have f0 := KP5.out.free 0
  have e1 := KP5.out.cell 1 (.int .i64 x.vote) rfl
  have f1 := KP5.out.free 1
  have e2 := KP5.out.cell 2 (.int .i64 x.base) rfl
  have f2 := KP5.out.free 2
  have e3 := KP5.out.cell 3 (.int .i64 x.bterm) rfl
  have f3 := KP5.out.free 3
  have e4 := KP5.out.cell 4 (.slice A1 m1 c1) rfl
  have f4 := KP5.out.free 4
  have q0 := KQ5.out.cell 0 (.int .i64 r.kind) rfl
  have q1 := KQ5.out.cell 1 (.int .i64 r.term) rfl
  have q2 := KQ5.out.cell 2 (.int .i64 r.index) rfl
  have q3 := KQ5.out.cell 3 (.int .i64 r.vote) rfl
  have q4 := KQ5.out.cell 4 (.string r.data) rfl
  have r0 := KR5.out.cell 0 (.int .i64 0) rfl
  have g0 := KR5.out.free 0
  have r1 := KR5.out.cell 1 (.int .i64 0) rfl
  have g1 := KR5.out.free 1
  have r2 := KR5.out.cell 2 (.int .i64 0) rfl
  have g2 := KR5.out.free 2
  have r3 := KR5.out.cell 3 (.int .i64 0) rfl
  have g3 := KR5.out.free 3
  have r4 := KR5.out.cell 4 (.slice none 0 0) rfl
  have g4 := KR5.out.free 4
  rw [HK.out] at q0
  have hkp := KP5.out.lt
  have hkq := KQ5.out.lt
  have hkr := KR5.out.lt
  go_wp2_with (at_builtin; refine Shut.out ?_)
  unfold Shut
  refine wpList_append_row (w := w5) rfl (.tmp 45) (.tmp 51) 28 59 (.agg #[.int .i64 0, .string ⟨#[]⟩]) 2 24 rfl Tryz.underlying28 Tryz.infoEnt rfl (by omega) (w.heap.size + 1 + 1 + 1) (.slice A1 m1 c1) (entR x.ents) rfl O5.out [.int .i64 r.term, .string r.data] rfl (by intro y hy; simp at hy; rcases hy with rfl | rfl <;> rfl) rfl (by rw [entR_length]; have := HN60.out; omega) (by omega) hkr ?_
  intro u6 w6 hO6 hb6 _ _
  obtain ⟨A2, m2, c2, rfl⟩ := hO6.shape
  have B6 : Hid (Below w.heap.size w w6) := B5.out.trans (hb6.mono (by omega))
  have KP6 : Hid (Blk w6 w.heap.size #[.int .i64 x.term, .int .i64 x.vote, .int .i64 x.base, .int .i64 x.bterm, .slice A1 m1 c1] 30) := KP5.out.on hb6 (by omega)
  have KR6 : Hid (Blk w6 (w.heap.size + 1 + 1) #[.int .i64 0, .int .i64 0, .int .i64 0, .int .i64 0, .slice none 0 0] 30) := KR5.out.on hb6 (by omega)
  have hrow : entR x.ents ++ [[.int .i64 r.term, .string r.data]] = entR (x.ents ++ [⟨r.term, r.data⟩]) := by rw [entR_append]; rfl
  rw [hrow] at hO6
  have O6 : Hid (Owns w6 (w.heap.size + 1 + 1 + 1) 59 2 (.slice A2 m2 c2) (entR (x.ents ++ [⟨r.term, r.data⟩]))) := hO6
  clear q0 q1 q2 q3 q4 e0 f0 e1 f1 e2 f2 e3 f3 e4 f4 r0 g0 r1 g1 r2 g2 r3 g3 r4 g4 hb6 hO6 hrow KQ5 KP5 KR5 O5 B5 hkp hkq hkr
  have e0 := KP6.out.cell 0 (.int .i64 x.term) rfl
  have f0 := KP6.out.free 0
  have e1 := KP6.out.cell 1 (.int .i64 x.vote) rfl
  have f1 := KP6.out.free 1
  have e2 := KP6.out.cell 2 (.int .i64 x.base) rfl
  have f2 := KP6.out.free 2
  have e3 := KP6.out.cell 3 (.int .i64 x.bterm) rfl
  have f3 := KP6.out.free 3
  have e4 := KP6.out.cell 4 (.slice A1 m1 c1) rfl
  have f4 := KP6.out.free 4
  have r0 := KR6.out.cell 0 (.int .i64 0) rfl
  have g0 := KR6.out.free 0
  have r1 := KR6.out.cell 1 (.int .i64 0) rfl
  have g1 := KR6.out.free 1
  have r2 := KR6.out.cell 2 (.int .i64 0) rfl
  have g2 := KR6.out.free 2
  have r3 := KR6.out.cell 3 (.int .i64 0) rfl
  have g3 := KR6.out.free 3
  have r4 := KR6.out.cell 4 (.slice none 0 0) rfl
  have g4 := KR6.out.free 4
  go_wp2_with fail
  have hF := ((((((KR6.out.other (show w.heap.size + 1 + 1 ≠ w.heap.size by omega) 4 (.slice A2 m2 c2)).set 0 (.int .i64 x.term)).set 1 (.int .i64 x.vote)).set 2 (.int .i64 x.base)).set 3 (.int .i64 x.bterm)).set 4 (.slice A2 m2 c2))
  have FB := ((((((B6.out.setCell (Nat.le_refl _) (.slice A2 m2 c2) (p := ⟨_, 4, none⟩)).setCell (show w.heap.size ≤ w.heap.size + 1 + 1 by omega) (.int .i64 x.term) (p := ⟨_, 0, none⟩)).setCell (show w.heap.size ≤ w.heap.size + 1 + 1 by omega) (.int .i64 x.vote) (p := ⟨_, 1, none⟩)).setCell (show w.heap.size ≤ w.heap.size + 1 + 1 by omega) (.int .i64 x.base) (p := ⟨_, 2, none⟩)).setCell (show w.heap.size ≤ w.heap.size + 1 + 1 by omega) (.int .i64 x.bterm) (p := ⟨_, 3, none⟩)).setCell (show w.heap.size ≤ w.heap.size + 1 + 1 by omega) (.slice A2 m2 c2) (p := ⟨_, 4, none⟩))
  have OF := ((((((O6.out.other (O6.out.below (show w.heap.size < _ by omega)) 4 (.slice A2 m2 c2)).other (O6.out.below (show w.heap.size + 1 + 1 < _ by omega)) 0 (.int .i64 x.term)).other (O6.out.below (show w.heap.size + 1 + 1 < _ by omega)) 1 (.int .i64 x.vote)).other (O6.out.below (show w.heap.size + 1 + 1 < _ by omega)) 2 (.int .i64 x.base)).other (O6.out.below (show w.heap.size + 1 + 1 < _ by omega)) 3 (.int .i64 x.bterm)).other (O6.out.below (show w.heap.size + 1 + 1 < _ by omega)) 4 (.slice A2 m2 c2))
  clear e0 f0 e1 f1 e2 f2 e3 f3 e4 f4 r0 g0 r1 g1 r2 g2 r3 g3 r4 g4
  generalize ((((((w6.setCell ⟨w.heap.size, 4, none⟩ (.slice A2 m2 c2)).setCell ⟨w.heap.size + 1 + 1, 0, none⟩ (.int .i64 x.term)).setCell ⟨w.heap.size + 1 + 1, 1, none⟩ (.int .i64 x.vote)).setCell ⟨w.heap.size + 1 + 1, 2, none⟩ (.int .i64 x.base)).setCell ⟨w.heap.size + 1 + 1, 3, none⟩ (.int .i64 x.bterm)).setCell ⟨w.heap.size + 1 + 1, 4, none⟩ (.slice A2 m2 c2)) = WF at *
  have hG : Blk WF (w.heap.size + 1 + 1) #[.int .i64 x.term, .int .i64 x.vote, .int .i64 x.base, .int .i64 x.bterm, .slice A2 m2 c2] 30 := hF
  have mm0 := hG.cell 0 (.int .i64 x.term) rfl
  have mm1 := hG.cell 1 (.int .i64 x.vote) rfl
  have mm2 := hG.cell 2 (.int .i64 x.base) rfl
  have mm3 := hG.cell 3 (.int .i64 x.bterm) rfl
  have mm4 := hG.cell 4 (.slice A2 m2 c2) rfl
  exact bodyPost_ret (v := .tuple #[.agg #[.int .i64 x.term, .int .i64 x.vote, .int .i64 x.base, .int .i64 x.bterm, .slice A2 m2 c2], .bool true]) (by simp [results, go_sem, mm0, mm1, mm2, mm3, mm4]) rfl ⟨_, _, rfl, ⟨⟨_, rfl, OF.mono (by omega)⟩, rfl⟩, FB⟩
 ·obtain ⟨f1, f2⟩ := fits_cut x r hk hfit
  obtain ⟨j, hj⟩ : ∃ j : Nat, r.index - x.base - 1 = (j : Int) := ⟨(r.index - x.base - 1).toNat, by omega⟩
  have hjn : j < x.ents.length := by omega
  have HST : Hid (stepTo x r = ⟨x.term, x.vote, x.base, x.bterm, x.ents.take j⟩) := by unfold Hid stepTo; rw [if_neg (by omega), if_neg (by omega), hj, Int.toNat_natCast]
  rw [HST.out]
  have hw1 : IntKind.i64.wrap (r.index - x.base) = r.index - x.base := by rw [IntKind.wrap_i64]; have := HN60.out; omega
  have hw2 : IntKind.i64.wrap (r.index - x.base - 1) = (j : Int) := by rw [IntKind.wrap_i64, hj]; have := HN60.out; omega
  clear f1 f2
  have HJ : Hid (r.index - x.base - 1 = (j : Int)) := hj
  clear hj
  have HK : Hid (r.kind = _) := hk
  clear hk
  go_enter Tryz.func53, Tryz.ntmps53
  go_wp2_with fail
  have b0 : Below w.heap.size w (((w.alloc (.cells #[.int .i64 x.term, .int .i64 x.vote, .int .i64 x.base, .int .i64 x.bterm, u] 30)).alloc (.cells #[.int .i64 r.kind, .int .i64 r.term, .int .i64 r.index, .int .i64 r.vote, .string r.data] 102)).alloc (.cells #[.int .i64 0, .int .i64 0, .int .i64 0, .int .i64 0, .slice none 0 0] 30)) := below_alloc3 w _ _ _
  have kp := ((Blk.new w #[.int .i64 x.term, .int .i64 x.vote, .int .i64 x.base, .int .i64 x.bterm, u] 30).alloc (.cells #[.int .i64 r.kind, .int .i64 r.term, .int .i64 r.index, .int .i64 r.vote, .string r.data] 102)).alloc (.cells #[.int .i64 0, .int .i64 0, .int .i64 0, .int .i64 0, .slice none 0 0] 30)
  have kq := (Blk.new (w.alloc (.cells #[.int .i64 x.term, .int .i64 x.vote, .int .i64 x.base, .int .i64 x.bterm, u] 30)) #[.int .i64 r.kind, .int .i64 r.term, .int .i64 r.index, .int .i64 r.vote, .string r.data] 102).alloc (.cells #[.int .i64 0, .int .i64 0, .int .i64 0, .int .i64 0, .slice none 0 0] 30)
  have kr := Blk.new ((w.alloc (.cells #[.int .i64 x.term, .int .i64 x.vote, .int .i64 x.base, .int .i64 x.bterm, u] 30)).alloc (.cells #[.int .i64 r.kind, .int .i64 r.term, .int .i64 r.index, .int .i64 r.vote, .string r.data] 102)) #[.int .i64 0, .int .i64 0, .int .i64 0, .int .i64 0, .slice none 0 0] 30
  simp only [World.size_alloc] at kq kr
  generalize ((w.alloc (.cells #[.int .i64 x.term, .int .i64 x.vote, .int .i64 x.base, .int .i64 x.bterm, u] 30)).alloc (.cells #[.int .i64 r.kind, .int .i64 r.term, .int .i64 r.index, .int .i64 r.vote, .string r.data] 102)).alloc (.cells #[.int .i64 0, .int .i64 0, .int .i64 0, .int .i64 0, .slice none 0 0] 30) = W at *
  refine (specWalOk x (.agg #[.int .i64 x.term, .int .i64 x.vote, .int .i64 x.base, .int .i64 x.bterm, u]) W B (HV.out.on (b0.mono HB.out)) HF.out (Nat.le_trans HB.out b0.size)).mono ?_
  rintro e w1 ⟨rfl, hb1⟩
  have B1 : Hid (Below w.heap.size w w1) := b0.trans (hb1.mono b0.size)
  have KP1 : Hid (Blk w1 w.heap.size #[.int .i64 x.term, .int .i64 x.vote, .int .i64 x.base, .int .i64 x.bterm, u] 30) := kp.on hb1 kp.lt
  have KQ1 : Hid (Blk w1 (w.heap.size + 1) #[.int .i64 r.kind, .int .i64 r.term, .int .i64 r.index, .int .i64 r.vote, .string r.data] 102) := kq.on hb1 kq.lt
  have KR1 : Hid (Blk w1 (w.heap.size + 1 + 1) #[.int .i64 0, .int .i64 0, .int .i64 0, .int .i64 0, .slice none 0 0] 30) := kr.on hb1 kr.lt
  clear b0 kp kq kr hb1
  rw [ho]
  have e0 := KP1.out.cell 0 (.int .i64 x.term) rfl
  have e1 := KP1.out.cell 1 (.int .i64 x.vote) rfl
  have e2 := KP1.out.cell 2 (.int .i64 x.base) rfl
  have e3 := KP1.out.cell 3 (.int .i64 x.bterm) rfl
  have e4 := KP1.out.cell 4 (u) rfl
  go_wp2_with fail
  refine (copyS x (.agg #[.int .i64 x.term, .int .i64 x.vote, .int .i64 x.base, .int .i64 x.bterm, u]) w1 B (HV.out.on (B1.out.mono HB.out)) HN.out (Nat.le_trans HB.out B1.out.size)).mono ?_
  rintro e w2 ⟨u1, rfl, hO2, hb2⟩
  obtain ⟨s1, rfl, o2⟩ := hO2
  obtain ⟨A1, m1, c1, rfl⟩ := o2.shape
  have B2 : Hid (Below w.heap.size w w2) := B1.out.trans (hb2.mono B1.out.size)
  have KP2 : Hid (Blk w2 w.heap.size #[.int .i64 x.term, .int .i64 x.vote, .int .i64 x.base, .int .i64 x.bterm, u] 30) := KP1.out.on hb2 KP1.out.lt
  have KQ2 : Hid (Blk w2 (w.heap.size + 1) #[.int .i64 r.kind, .int .i64 r.term, .int .i64 r.index, .int .i64 r.vote, .string r.data] 102) := KQ1.out.on hb2 KQ1.out.lt
  have KR2 : Hid (Blk w2 (w.heap.size + 1 + 1) #[.int .i64 0, .int .i64 0, .int .i64 0, .int .i64 0, .slice none 0 0] 30) := KR1.out.on hb2 KR1.out.lt
  have O2 : Hid (Owns w2 (w.heap.size + 1 + 1 + 1) 59 2 (.slice A1 m1 c1) (entR x.ents)) := o2.mono KR1.out.lt
  clear e0 e1 e2 e3 e4 hb2 o2 B1 KP1 KQ1 KR1
  have e0 := KP2.out.cell 0 (.int .i64 x.term) rfl
  have f0 := KP2.out.free 0
  have e1 := KP2.out.cell 1 (.int .i64 x.vote) rfl
  have f1 := KP2.out.free 1
  have e2 := KP2.out.cell 2 (.int .i64 x.base) rfl
  have f2 := KP2.out.free 2
  have e3 := KP2.out.cell 3 (.int .i64 x.bterm) rfl
  have f3 := KP2.out.free 3
  have e4 := KP2.out.cell 4 (u) rfl
  have f4 := KP2.out.free 4
  have q0 := KQ2.out.cell 0 (.int .i64 r.kind) rfl
  have q1 := KQ2.out.cell 1 (.int .i64 r.term) rfl
  have q2 := KQ2.out.cell 2 (.int .i64 r.index) rfl
  have q3 := KQ2.out.cell 3 (.int .i64 r.vote) rfl
  have q4 := KQ2.out.cell 4 (.string r.data) rfl
  go_wp2_with fail
  have kp := (((((KP2.out.set 0 (.int .i64 x.term)).set 1 (.int .i64 x.vote)).set 2 (.int .i64 x.base)).set 3 (.int .i64 x.bterm)).set 4 (.slice A1 m1 c1))
  have kq := (((((KQ2.out.other (show w.heap.size + 1 ≠ w.heap.size by omega) 0 (.int .i64 x.term)).other (show w.heap.size + 1 ≠ w.heap.size by omega) 1 (.int .i64 x.vote)).other (show w.heap.size + 1 ≠ w.heap.size by omega) 2 (.int .i64 x.base)).other (show w.heap.size + 1 ≠ w.heap.size by omega) 3 (.int .i64 x.bterm)).other (show w.heap.size + 1 ≠ w.heap.size by omega) 4 (.slice A1 m1 c1))
  have kr := (((((KR2.out.other (show w.heap.size + 1 + 1 ≠ w.heap.size by omega) 0 (.int .i64 x.term)).other (show w.heap.size + 1 + 1 ≠ w.heap.size by omega) 1 (.int .i64 x.vote)).other (show w.heap.size + 1 + 1 ≠ w.heap.size by omega) 2 (.int .i64 x.base)).other (show w.heap.size + 1 + 1 ≠ w.heap.size by omega) 3 (.int .i64 x.bterm)).other (show w.heap.size + 1 + 1 ≠ w.heap.size by omega) 4 (.slice A1 m1 c1))
  have b3 := (((((B2.out.setCell (Nat.le_refl _) (.int .i64 x.term) (p := ⟨_, 0, none⟩)).setCell (Nat.le_refl _) (.int .i64 x.vote) (p := ⟨_, 1, none⟩)).setCell (Nat.le_refl _) (.int .i64 x.base) (p := ⟨_, 2, none⟩)).setCell (Nat.le_refl _) (.int .i64 x.bterm) (p := ⟨_, 3, none⟩)).setCell (Nat.le_refl _) (.slice A1 m1 c1) (p := ⟨_, 4, none⟩))
  have o3 := (((((O2.out.other (O2.out.below (show w.heap.size < _ by omega)) 0 (.int .i64 x.term)).other (O2.out.below (show w.heap.size < _ by omega)) 1 (.int .i64 x.vote)).other (O2.out.below (show w.heap.size < _ by omega)) 2 (.int .i64 x.base)).other (O2.out.below (show w.heap.size < _ by omega)) 3 (.int .i64 x.bterm)).other (O2.out.below (show w.heap.size < _ by omega)) 4 (.slice A1 m1 c1))
  clear e0 f0 e1 f1 e2 f2 e3 f3 e4 f4 q0 q1 q2 q3 q4
  generalize (((((w2.setCell ⟨w.heap.size, 0, none⟩ (.int .i64 x.term)).setCell ⟨w.heap.size, 1, none⟩ (.int .i64 x.vote)).setCell ⟨w.heap.size, 2, none⟩ (.int .i64 x.base)).setCell ⟨w.heap.size, 3, none⟩ (.int .i64 x.bterm)).setCell ⟨w.heap.size, 4, none⟩ (.slice A1 m1 c1)) = W3 at *
  refine (specRecOk r W3 HD.out).mono ?_
  rintro e w4 ⟨rfl, hb4⟩
  have B4 : Hid (Below w.heap.size w w4) := b3.trans (hb4.mono b3.size)
  have KP4 : Hid (Blk w4 w.heap.size #[.int .i64 x.term, .int .i64 x.vote, .int .i64 x.base, .int .i64 x.bterm, .slice A1 m1 c1] 30) := kp.on hb4 kp.lt
  have KQ4 : Hid (Blk w4 (w.heap.size + 1) #[.int .i64 r.kind, .int .i64 r.term, .int .i64 r.index, .int .i64 r.vote, .string r.data] 102) := kq.on hb4 kq.lt
  have KR4 : Hid (Blk w4 (w.heap.size + 1 + 1) #[.int .i64 0, .int .i64 0, .int .i64 0, .int .i64 0, .slice none 0 0] 30) := kr.on hb4 kr.lt
  have O4 : Hid (Owns w4 (w.heap.size + 1 + 1 + 1) 59 2 (.slice A1 m1 c1) (entR x.ents)) := o3.on hb4
  clear kp kq kr b3 o3 hb4 B2 KP2 KQ2 KR2 O2
  rw [hr]
  have e0 := KP4.out.cell 0 (.int .i64 x.term) rfl
  have e1 := KP4.out.cell 1 (.int .i64 x.vote) rfl
  have e2 := KP4.out.cell 2 (.int .i64 x.base) rfl
  have e3 := KP4.out.cell 3 (.int .i64 x.bterm) rfl
  have e4 := KP4.out.cell 4 (.slice A1 m1 c1) rfl
  have q0 := KQ4.out.cell 0 (.int .i64 r.kind) rfl
  have q1 := KQ4.out.cell 1 (.int .i64 r.term) rfl
  have q2 := KQ4.out.cell 2 (.int .i64 r.index) rfl
  have q3 := KQ4.out.cell 3 (.int .i64 r.vote) rfl
  have q4 := KQ4.out.cell 4 (.string r.data) rfl
  go_wp2_with fail
  refine (fitsS x r (.agg #[.int .i64 x.term, .int .i64 x.vote, .int .i64 x.base, .int .i64 x.bterm, .slice A1 m1 c1]) w4 w4.heap.size ⟨_, rfl, O4.out.lies⟩ HN60.out HB1.out HB2.out (Nat.le_refl _)).mono ?_
  rintro e w5 ⟨rfl, hb5⟩
  have B5 : Hid (Below w.heap.size w w5) := B4.out.trans (hb5.mono B4.out.size)
  have KP5 : Hid (Blk w5 w.heap.size #[.int .i64 x.term, .int .i64 x.vote, .int .i64 x.base, .int .i64 x.bterm, .slice A1 m1 c1] 30) := KP4.out.on hb5 KP4.out.lt
  have KQ5 : Hid (Blk w5 (w.heap.size + 1) #[.int .i64 r.kind, .int .i64 r.term, .int .i64 r.index, .int .i64 r.vote, .string r.data] 102) := KQ4.out.on hb5 KQ4.out.lt
  have KR5 : Hid (Blk w5 (w.heap.size + 1 + 1) #[.int .i64 0, .int .i64 0, .int .i64 0, .int .i64 0, .slice none 0 0] 30) := KR4.out.on hb5 KR4.out.lt
  have O5 : Hid (Owns w5 (w.heap.size + 1 + 1 + 1) 59 2 (.slice A1 m1 c1) (entR x.ents)) := O4.out.on hb5
  clear e0 e1 e2 e3 e4 q0 q1 q2 q3 q4 hb5 B4 KP4 KQ4 KR4 O4
  rw [hfit]
  have e0 := KP5.out.cell 0 (.int .i64 x.term) rfl
  have f0 := KP5.out.free 0
  have e1 := KP5.out.cell 1 (.int .i64 x.vote) rfl
  have f1 := KP5.out.free 1
  have e2 := KP5.out.cell 2 (.int .i64 x.base) rfl
  have f2 := KP5.out.free 2
  have e3 := KP5.out.cell 3 (.int .i64 x.bterm) rfl
  have f3 := KP5.out.free 3
  have e4 := KP5.out.cell 4 (.slice A1 m1 c1) rfl
  have f4 := KP5.out.free 4
  have q0 := KQ5.out.cell 0 (.int .i64 r.kind) rfl
  have q1 := KQ5.out.cell 1 (.int .i64 r.term) rfl
  have q2 := KQ5.out.cell 2 (.int .i64 r.index) rfl
  have q3 := KQ5.out.cell 3 (.int .i64 r.vote) rfl
  have q4 := KQ5.out.cell 4 (.string r.data) rfl
  have r0 := KR5.out.cell 0 (.int .i64 0) rfl
  have g0 := KR5.out.free 0
  have r1 := KR5.out.cell 1 (.int .i64 0) rfl
  have g1 := KR5.out.free 1
  have r2 := KR5.out.cell 2 (.int .i64 0) rfl
  have g2 := KR5.out.free 2
  have r3 := KR5.out.cell 3 (.int .i64 0) rfl
  have g3 := KR5.out.free 3
  have r4 := KR5.out.cell 4 (.slice none 0 0) rfl
  have g4 := KR5.out.free 4
  rw [HK.out] at q0
  have hroom : m1 = (entR x.ents).length ∧ m1 ≤ c1 := Lies.room (O5.out.lies)
  have i1 : (j : Int) ≤ (c1 : Int) := by have := entR_length x.ents; omega
  have i2 : (j : Int) ≤ (m1 : Int) := by have := entR_length x.ents; omega
  have i0 : (0 : Int) ≤ (j : Int) := by omega
  have OJ : Hid (Owns w5 (w.heap.size + 1 + 1 + 1) 59 2 (.slice A1 j c1) (entR (x.ents.take j))) := by
   have := O5.out.first j (by rw [entR_length]; omega)
   unfold entR at this ⊢
   rw [← List.map_take] at this
   exact this
  clear hroom
  go_wp2_with fail
  have hF := ((((((KR5.out.other (show w.heap.size + 1 + 1 ≠ w.heap.size by omega) 4 (.slice A1 j c1)).set 0 (.int .i64 x.term)).set 1 (.int .i64 x.vote)).set 2 (.int .i64 x.base)).set 3 (.int .i64 x.bterm)).set 4 (.slice A1 j c1))
  have FB := ((((((B5.out.setCell (Nat.le_refl _) (.slice A1 j c1) (p := ⟨_, 4, none⟩)).setCell (show w.heap.size ≤ w.heap.size + 1 + 1 by omega) (.int .i64 x.term) (p := ⟨_, 0, none⟩)).setCell (show w.heap.size ≤ w.heap.size + 1 + 1 by omega) (.int .i64 x.vote) (p := ⟨_, 1, none⟩)).setCell (show w.heap.size ≤ w.heap.size + 1 + 1 by omega) (.int .i64 x.base) (p := ⟨_, 2, none⟩)).setCell (show w.heap.size ≤ w.heap.size + 1 + 1 by omega) (.int .i64 x.bterm) (p := ⟨_, 3, none⟩)).setCell (show w.heap.size ≤ w.heap.size + 1 + 1 by omega) (.slice A1 j c1) (p := ⟨_, 4, none⟩))
  have OF := ((((((OJ.out.other (OJ.out.below (show w.heap.size < _ by omega)) 4 (.slice A1 j c1)).other (OJ.out.below (show w.heap.size + 1 + 1 < _ by omega)) 0 (.int .i64 x.term)).other (OJ.out.below (show w.heap.size + 1 + 1 < _ by omega)) 1 (.int .i64 x.vote)).other (OJ.out.below (show w.heap.size + 1 + 1 < _ by omega)) 2 (.int .i64 x.base)).other (OJ.out.below (show w.heap.size + 1 + 1 < _ by omega)) 3 (.int .i64 x.bterm)).other (OJ.out.below (show w.heap.size + 1 + 1 < _ by omega)) 4 (.slice A1 j c1))
  clear q0 q1 q2 q3 q4 e0 f0 e1 f1 e2 f2 e3 f3 e4 f4 r0 g0 r1 g1 r2 g2 r3 g3 r4 g4
  generalize ((((((w5.setCell ⟨w.heap.size, 4, none⟩ (.slice A1 j c1)).setCell ⟨w.heap.size + 1 + 1, 0, none⟩ (.int .i64 x.term)).setCell ⟨w.heap.size + 1 + 1, 1, none⟩ (.int .i64 x.vote)).setCell ⟨w.heap.size + 1 + 1, 2, none⟩ (.int .i64 x.base)).setCell ⟨w.heap.size + 1 + 1, 3, none⟩ (.int .i64 x.bterm)).setCell ⟨w.heap.size + 1 + 1, 4, none⟩ (.slice A1 j c1)) = WF at *
  have hG : Blk WF (w.heap.size + 1 + 1) #[.int .i64 x.term, .int .i64 x.vote, .int .i64 x.base, .int .i64 x.bterm, .slice A1 j c1] 30 := hF
  have mm0 := hG.cell 0 (.int .i64 x.term) rfl
  have mm1 := hG.cell 1 (.int .i64 x.vote) rfl
  have mm2 := hG.cell 2 (.int .i64 x.base) rfl
  have mm3 := hG.cell 3 (.int .i64 x.bterm) rfl
  have mm4 := hG.cell 4 (.slice A1 j c1) rfl
  exact bodyPost_ret (v := .tuple #[.agg #[.int .i64 x.term, .int .i64 x.vote, .int .i64 x.base, .int .i64 x.bterm, .slice A1 j c1], .bool true]) (by simp [results, go_sem, mm0, mm1, mm2, mm3, mm4]) rfl ⟨_, _, rfl, ⟨⟨_, rfl, OF.mono (by omega)⟩, rfl⟩, FB⟩
end Go.Proofs.YtdimaoloapbeoaaGreatDoor
