/-
  Contracts of the laws' own functions on cores: szCore, toCore, eqCore, markCore, heldCore.
-/
import Derived.Test.YtjejcpieajeflaaRows
import Derived.Test.YtjejcpieajeflaaCoRes
import Derived.Test.YtjejcpieajeflaaCoMk
import Derived.Test.YtjejcpieajeflaaWkTo
import Derived.Test.YtjejcpieajeflaaWkEq
import Derived.Test.YtjejcpieajeflaaWkHd
import Derived.Test.YtjejcpieajeflaaNmLaw
import Derived.Deep.Cut
import Derived.Handy
namespace Go.Proofs.Ytjejcpieajeflaa
open Go.ChangeShapes Go.WideShapes Go.ChangeAt Go.RowKit Go.PlainAid
set_option linter.unusedVariables false

theorem belowA2 (w : World) (a b : Obj) : Below w.heap.size w ((w.alloc a).alloc b) := ((Below.refl _ w).alloc (Nat.le_refl _) a).alloc (by simp) b
theorem belowA3 (w : World) (a b c : Obj) : Below w.heap.size w (((w.alloc a).alloc b).alloc c) := (((Below.refl _ w).alloc (Nat.le_refl _) a).alloc (by simp) b).alloc (by simp; omega) c
set_option maxHeartbeats 1000000 in
theorem szIntS (l : List Int) (A : Option Addr) (c : Nat) (left : Int) (w : World) (hn : l.length ≤ maxLen) (h0 : 0 ≤ left) (h1 : left ≤ 1048576) :
    Calls Try.prog 38 #[.slice A l.length c, .int .i64 left] w fun e w' => (∃ r, e = .returned (.int .i64 r) ∧ Hid (r = -1 ∨ 0 ≤ r ∧ r + (l.length : Int) = left)) ∧ w = w' := by
  unfold maxLen at hn
  generalize l.length = n at *
  have q1 : (n : Int) ≤ 9223372036854775807 := by omega
  have w2 : IntKind.i64.wrap (left - (n : Int)) = left - (n : Int) := by rw [IntKind.wrap_i64]; omega
  by_cases hl : left < (n : Int)
  · have HL : Hid (left < (n : Int)) := hl
    have q2 : left - (n : Int) < 0 := by omega
    clear hl
    go_enter Try.func38, Try.ntmps38
    go_wp2
    go_ret
    exact ⟨⟨_, rfl, .inl rfl⟩, rfl⟩
  · have HL : Hid ((n : Int) ≤ left) := by unfold Hid; omega
    have q3 : decide (left - (n : Int) < 0) = false := decide_eq_false (by omega)
    have q4 : ¬ left - (n : Int) < 0 := by omega
    clear hl
    go_enter Try.func38, Try.ntmps38
    go_wp2
    go_ret
    exact ⟨⟨_, rfl, .inr ⟨by have := HL.out; omega, by omega⟩⟩, rfl⟩
set_option maxHeartbeats 4000000 in
theorem szCore (x : Cor) (v : Value) (w : World) (B : Nat) (left : Int) (h0 : 0 ≤ left) (h1 : left ≤ 1048576) (hv : CorV w B v x) (hf : FitsC x) (hB : B ≤ w.heap.size) :
    Calls Try.prog 10 #[v, .int .i64 left] w fun e w' => ∃ r : Int, e = .returned (.int .i64 r) ∧ Hid (r = -1 ∨ 0 ≤ r ∧ r + (wtC x : Int) = left) ∧ Below w.heap.size w w' := by
  obtain ⟨ul, uy, un, um, rfl, hl, hy, hn, hm⟩ := hv
  unfold vCo
  obtain ⟨A0, c0, rfl, _⟩ := ent_look hl
  obtain ⟨A1, c1, rfl, _⟩ := hy
  obtain ⟨A2, c2, rfl, _⟩ := hn
  obtain ⟨A3, c3, rfl, _⟩ := hm
  have HF : Hid (FitsC x) := hf
  have HB : Hid (B ≤ w.heap.size) := hB
  have HL : Hid (Lies w B 2 (.slice A0 x.log.length c0) (entR x.log)) := hl
  have HW : Hid (wtC x = x.log.length + wtE x.log + x.yes.length + x.nxt.length + x.mat.length) := rfl
  have K0 := Hid.mk (Blk.new w #[.int .i64 x.id, .int .i64 x.peers, .int .i64 x.term, .int .i64 x.vote, .int .i64 x.role, .int .i64 x.lead, .int .i64 x.base, .int .i64 x.bterm, .slice A0 x.log.length c0, .int .i64 x.commit, .slice A1 x.yes.length c1, .slice A2 x.nxt.length c2, .slice A3 x.mat.length c3] 25)
  have B1 : Hid (Below w.heap.size w (w.alloc (.cells #[.int .i64 x.id, .int .i64 x.peers, .int .i64 x.term, .int .i64 x.vote, .int .i64 x.role, .int .i64 x.lead, .int .i64 x.base, .int .i64 x.bterm, .slice A0 x.log.length c0, .int .i64 x.commit, .slice A1 x.yes.length c1, .slice A2 x.nxt.length c2, .slice A3 x.mat.length c3] 25))) := (Below.refl _ _).alloc (Nat.le_refl _) _
  clear hl hf hB
  go_enter Try.func10, Try.ntmps10
  go_wp2_with fail
  generalize hw1 : w.alloc (.cells #[.int .i64 x.id, .int .i64 x.peers, .int .i64 x.term, .int .i64 x.vote, .int .i64 x.role, .int .i64 x.lead, .int .i64 x.base, .int .i64 x.bterm, .slice A0 x.log.length c0, .int .i64 x.commit, .slice A1 x.yes.length c1, .slice A2 x.nxt.length c2, .slice A3 x.mat.length c3] 25) = w1 at *
  have d1 := szEntryS x.log (.slice A0 x.log.length c0) left w1 B (HL.out.on (B1.out.mono HB.out)) HF.out.d HF.out.n h0 h1 (Nat.le_trans HB.out B1.out.size)
  refine d1.mono ?_
  rintro e w2 ⟨r1, rfl, hr1, hb2⟩
  have R1 : Hid (r1 = -1 ∨ 0 ≤ r1 ∧ r1 + ((x.log.length + wtE x.log : Nat) : Int) = left) := hr1
  have B2 : Hid (Below w.heap.size w w2) := B1.out.trans (hb2.mono B1.out.size)
  have K2 := Hid.mk (K0.out.on hb2 K0.out.lt)
  clear hr1 hb2 hw1 K0 d1
  rcases R1.out with rfl | ⟨hp1, hq1⟩
  · go_wp2_with fail
    go_ret
    exact ⟨-1, rfl, .inl rfl, B2.out⟩
  have q1 : decide (r1 < 0) = false := decide_eq_false (by omega)
  have HQ1 : Hid (r1 + ((x.log.length + wtE x.log : Nat) : Int) = left) := hq1
  have g10 := K2.out.cell 10 _ rfl
  have g11 := K2.out.cell 11 _ rfl
  have g12 := K2.out.cell 12 _ rfl
  have qr : r1 ≤ 1048576 := by omega
  clear hq1
  go_wp2_with fail
  refine (szIntS x.yes A1 c1 r1 w2 HF.out.y hp1 qr).mono ?_
  rintro e w' ⟨⟨r2, rfl, HR2⟩, rfl⟩
  rcases HR2.out with rfl | ⟨hp2, hq2⟩
  · go_wp2_with fail
    go_ret
    exact ⟨-1, rfl, .inl rfl, B2.out⟩
  have q2 : decide (r2 < 0) = false := decide_eq_false (by omega)
  have HQ2 : Hid (r2 + (x.yes.length : Int) = r1) := hq2
  have qr2 : r2 ≤ 1048576 := by omega
  clear hq2 HR2
  go_wp2_with fail
  refine (szIntS x.nxt A2 c2 r2 w2 HF.out.q hp2 qr2).mono ?_
  rintro e w' ⟨⟨r3, rfl, HR3⟩, rfl⟩
  rcases HR3.out with rfl | ⟨hp3, hq3⟩
  · go_wp2_with fail
    go_ret
    exact ⟨-1, rfl, .inl rfl, B2.out⟩
  have q3 : decide (r3 < 0) = false := decide_eq_false (by omega)
  have HQ3 : Hid (r3 + (x.nxt.length : Int) = r2) := hq3
  have qr3 : r3 ≤ 1048576 := by omega
  clear hq3 HR3
  go_wp2_with fail
  refine (szIntS x.mat A3 c3 r3 w2 HF.out.m hp3 qr3).mono ?_
  rintro e w' ⟨⟨r4, rfl, HR4⟩, rfl⟩
  rcases HR4.out with rfl | ⟨hp4, hq4⟩
  · go_wp2_with fail
    go_ret
    exact ⟨-1, rfl, .inl rfl, B2.out⟩
  have q4 : decide (r4 < 0) = false := decide_eq_false (by omega)
  have HQ4 : Hid (r4 + (x.mat.length : Int) = r3) := hq4
  clear hq4 HR4
  go_wp2_with fail
  go_ret
  refine ⟨r4, rfl, .inr ⟨hp4, ?_⟩, B2.out⟩
  have := HQ1.out
  have := HQ2.out
  have := HQ3.out
  have := HQ4.out
  rw [HW.out]
  omega
set_option maxHeartbeats 16000000 in
theorem toCore (x : Cor) (v : Value) (w : World) (B : Nat) (hv : CorV w B v x) (hw : wtC x ≤ 1048576) (hB : B ≤ w.heap.size) :
    Calls Try.prog 12 #[v] w fun e w' => ∃ u, e = .returned u ∧ CorO w' w.heap.size u x ∧ Below w.heap.size w w' := by
  obtain ⟨ul, uy, un, um, rfl, hl, hy, hn, hm⟩ := hv
  unfold wtC at hw
  unfold vCo
  have HB : Hid (B ≤ w.heap.size) := hB
  have HL : Hid (Lies w B 2 ul (entR x.log)) := hl
  have HY : Hid (NumsV w B uy x.yes) := hy
  have HN : Hid (NumsV w B un x.nxt) := hn
  have HM : Hid (NumsV w B um x.mat) := hm
  have L0 : Hid (x.log.length ≤ 1048576) := by unfold Hid; omega
  have L1 : Hid (x.yes.length ≤ 1048576) := by unfold Hid; omega
  have L2 : Hid (x.nxt.length ≤ 1048576) := by unfold Hid; omega
  have L3 : Hid (x.mat.length ≤ 1048576) := by unfold Hid; omega
  clear hl hy hn hm hw hB
  go_enter Try.func12, Try.ntmps12
  go_wp2_with fail
  have hb0 := belowA3 w (.cells #[.int .i64 x.id, .int .i64 x.peers, .int .i64 x.term, .int .i64 x.vote, .int .i64 x.role, .int .i64 x.lead, .int .i64 x.base, .int .i64 x.bterm, ul, .int .i64 x.commit, uy, un, um] 25) (.cells #[.int .i64 0, .int .i64 0, .int .i64 0, .int .i64 0, .int .i64 0, .int .i64 0, .int .i64 0, .int .i64 0, .slice none 0 0, .int .i64 0, .slice none 0 0, .slice none 0 0, .slice none 0 0] 30) (.cells #[.int .i64 x.id, .int .i64 x.peers, .int .i64 x.term, .int .i64 x.vote, .int .i64 x.role, .int .i64 x.lead, .int .i64 x.base, .int .i64 x.bterm, .slice none 0 0, .int .i64 0, .slice none 0 0, .slice none 0 0, .slice none 0 0] 30)
  have bI := ((Blk.new w #[.int .i64 x.id, .int .i64 x.peers, .int .i64 x.term, .int .i64 x.vote, .int .i64 x.role, .int .i64 x.lead, .int .i64 x.base, .int .i64 x.bterm, ul, .int .i64 x.commit, uy, un, um] 25).alloc (.cells #[.int .i64 0, .int .i64 0, .int .i64 0, .int .i64 0, .int .i64 0, .int .i64 0, .int .i64 0, .int .i64 0, .slice none 0 0, .int .i64 0, .slice none 0 0, .slice none 0 0, .slice none 0 0] 30)).alloc (.cells #[.int .i64 x.id, .int .i64 x.peers, .int .i64 x.term, .int .i64 x.vote, .int .i64 x.role, .int .i64 x.lead, .int .i64 x.base, .int .i64 x.bterm, .slice none 0 0, .int .i64 0, .slice none 0 0, .slice none 0 0, .slice none 0 0] 30)
  have bR := (Blk.new (w.alloc (.cells #[.int .i64 x.id, .int .i64 x.peers, .int .i64 x.term, .int .i64 x.vote, .int .i64 x.role, .int .i64 x.lead, .int .i64 x.base, .int .i64 x.bterm, ul, .int .i64 x.commit, uy, un, um] 25)) #[.int .i64 0, .int .i64 0, .int .i64 0, .int .i64 0, .int .i64 0, .int .i64 0, .int .i64 0, .int .i64 0, .slice none 0 0, .int .i64 0, .slice none 0 0, .slice none 0 0, .slice none 0 0] 30).alloc (.cells #[.int .i64 x.id, .int .i64 x.peers, .int .i64 x.term, .int .i64 x.vote, .int .i64 x.role, .int .i64 x.lead, .int .i64 x.base, .int .i64 x.bterm, .slice none 0 0, .int .i64 0, .slice none 0 0, .slice none 0 0, .slice none 0 0] 30)
  have bO := Blk.new ((w.alloc (.cells #[.int .i64 x.id, .int .i64 x.peers, .int .i64 x.term, .int .i64 x.vote, .int .i64 x.role, .int .i64 x.lead, .int .i64 x.base, .int .i64 x.bterm, ul, .int .i64 x.commit, uy, un, um] 25)).alloc (.cells #[.int .i64 0, .int .i64 0, .int .i64 0, .int .i64 0, .int .i64 0, .int .i64 0, .int .i64 0, .int .i64 0, .slice none 0 0, .int .i64 0, .slice none 0 0, .slice none 0 0, .slice none 0 0] 30)) #[.int .i64 x.id, .int .i64 x.peers, .int .i64 x.term, .int .i64 x.vote, .int .i64 x.role, .int .i64 x.lead, .int .i64 x.base, .int .i64 x.bterm, .slice none 0 0, .int .i64 0, .slice none 0 0, .slice none 0 0, .slice none 0 0] 30
  simp only [World.size_alloc] at bI bR bO
  generalize ((w.alloc (.cells #[.int .i64 x.id, .int .i64 x.peers, .int .i64 x.term, .int .i64 x.vote, .int .i64 x.role, .int .i64 x.lead, .int .i64 x.base, .int .i64 x.bterm, ul, .int .i64 x.commit, uy, un, um] 25)).alloc (.cells #[.int .i64 0, .int .i64 0, .int .i64 0, .int .i64 0, .int .i64 0, .int .i64 0, .int .i64 0, .int .i64 0, .slice none 0 0, .int .i64 0, .slice none 0 0, .slice none 0 0, .slice none 0 0] 30)).alloc (.cells #[.int .i64 x.id, .int .i64 x.peers, .int .i64 x.term, .int .i64 x.vote, .int .i64 x.role, .int .i64 x.lead, .int .i64 x.base, .int .i64 x.bterm, .slice none 0 0, .int .i64 0, .slice none 0 0, .slice none 0 0, .slice none 0 0] 30) = W at *
  have B0 : Hid (Below w.heap.size w W) := hb0
  have KI : Hid (Blk W w.heap.size #[.int .i64 x.id, .int .i64 x.peers, .int .i64 x.term, .int .i64 x.vote, .int .i64 x.role, .int .i64 x.lead, .int .i64 x.base, .int .i64 x.bterm, ul, .int .i64 x.commit, uy, un, um] 25) := bI
  have KR : Hid (Blk W (w.heap.size + 1) #[.int .i64 0, .int .i64 0, .int .i64 0, .int .i64 0, .int .i64 0, .int .i64 0, .int .i64 0, .int .i64 0, .slice none 0 0, .int .i64 0, .slice none 0 0, .slice none 0 0, .slice none 0 0] 30) := bR
  have KO : Hid (Blk W (w.heap.size + 1 + 1) #[.int .i64 x.id, .int .i64 x.peers, .int .i64 x.term, .int .i64 x.vote, .int .i64 x.role, .int .i64 x.lead, .int .i64 x.base, .int .i64 x.bterm, .slice none 0 0, .int .i64 0, .slice none 0 0, .slice none 0 0, .slice none 0 0] 30) := bO
  have hlt := bO.lt
  have HLT : Hid (w.heap.size + 1 + 1 < W.heap.size) := hlt
  clear hb0 bI bR bO hlt
  refine (toEntryS x.log ul W B (HL.out.on (B0.out.mono HB.out)) L0.out (Nat.le_trans HB.out B0.out.size)).mono ?_
  rintro e W1 ⟨u0, rfl, hO, hb⟩
  obtain ⟨A0, m0, k0, rfl⟩ := hO.shape
  have B1 : Hid (Below w.heap.size w W1) := B0.out.trans (hb.mono B0.out.size)
  have KI1 : Hid (Blk W1 w.heap.size #[.int .i64 x.id, .int .i64 x.peers, .int .i64 x.term, .int .i64 x.vote, .int .i64 x.role, .int .i64 x.lead, .int .i64 x.base, .int .i64 x.bterm, ul, .int .i64 x.commit, uy, un, um] 25) := KI.out.on hb KI.out.lt
  have KR1 : Hid (Blk W1 (w.heap.size + 1) #[.int .i64 0, .int .i64 0, .int .i64 0, .int .i64 0, .int .i64 0, .int .i64 0, .int .i64 0, .int .i64 0, .slice none 0 0, .int .i64 0, .slice none 0 0, .slice none 0 0, .slice none 0 0] 30) := KR.out.on hb KR.out.lt
  have KO1 : Hid (Blk W1 (w.heap.size + 1 + 1) #[.int .i64 x.id, .int .i64 x.peers, .int .i64 x.term, .int .i64 x.vote, .int .i64 x.role, .int .i64 x.lead, .int .i64 x.base, .int .i64 x.bterm, .slice none 0 0, .int .i64 0, .slice none 0 0, .slice none 0 0, .slice none 0 0] 30) := KO.out.on hb KO.out.lt
  have P1 : Hid (OwnF W1 (w.heap.size + 1 + 1 + 1) (.slice A0 m0 k0) (entR x.log)) := (hO.mono (show w.heap.size + 1 + 1 + 1 ≤ _ from HLT.out)).toF
  clear hO hb KI KR KO
  have i9 := KI1.out.cell 9 _ rfl
  have i10 := KI1.out.cell 10 _ rfl
  have c8 := KO1.out.cell 8 _ rfl
  have f8 := KO1.out.free 8
  have c9 := (KO1.out.set 8 (.slice A0 m0 k0)).cell 9 _ rfl
  have f9 := (KO1.out.set 8 (.slice A0 m0 k0)).free 9
  obtain ⟨Y1, hY1⟩ : ∃ Y1, Y1 = ((W1.setCell ⟨w.heap.size + 1 + 1, 8, none⟩ (.slice A0 m0 k0)).setCell ⟨w.heap.size + 1 + 1, 9, none⟩ (.int .i64 x.commit)) := ⟨_, rfl⟩
  have KO1' : Hid (Blk Y1 (w.heap.size + 1 + 1) #[.int .i64 x.id, .int .i64 x.peers, .int .i64 x.term, .int .i64 x.vote, .int .i64 x.role, .int .i64 x.lead, .int .i64 x.base, .int .i64 x.bterm, .slice A0 m0 k0, .int .i64 x.commit, .slice none 0 0, .slice none 0 0, .slice none 0 0] 30) := by unfold Hid; rw [hY1]; exact ((KO1.out.set 8 (.slice A0 m0 k0)).set 9 (.int .i64 x.commit))
  have KI1' : Hid (Blk Y1 w.heap.size #[.int .i64 x.id, .int .i64 x.peers, .int .i64 x.term, .int .i64 x.vote, .int .i64 x.role, .int .i64 x.lead, .int .i64 x.base, .int .i64 x.bterm, ul, .int .i64 x.commit, uy, un, um] 25) := by unfold Hid; rw [hY1]; exact ((KI1.out.other (show w.heap.size ≠ w.heap.size + 1 + 1 by omega) 8 (.slice A0 m0 k0)).other (show w.heap.size ≠ w.heap.size + 1 + 1 by omega) 9 (.int .i64 x.commit))
  have KR1' : Hid (Blk Y1 (w.heap.size + 1) #[.int .i64 0, .int .i64 0, .int .i64 0, .int .i64 0, .int .i64 0, .int .i64 0, .int .i64 0, .int .i64 0, .slice none 0 0, .int .i64 0, .slice none 0 0, .slice none 0 0, .slice none 0 0] 30) := by unfold Hid; rw [hY1]; exact ((KR1.out.other (show w.heap.size + 1 ≠ w.heap.size + 1 + 1 by omega) 8 (.slice A0 m0 k0)).other (show w.heap.size + 1 ≠ w.heap.size + 1 + 1 by omega) 9 (.int .i64 x.commit))
  have B1' : Hid (Below w.heap.size w Y1) := by unfold Hid; rw [hY1]; exact ((B1.out.setCell (show w.heap.size ≤ w.heap.size + 1 + 1 by omega) (.slice A0 m0 k0) (p := ⟨_, 8, none⟩)).setCell (show w.heap.size ≤ w.heap.size + 1 + 1 by omega) (.int .i64 x.commit) (p := ⟨_, 9, none⟩))
  have P1' : Hid (OwnF Y1 (w.heap.size + 1 + 1 + 1) (.slice A0 m0 k0) (entR x.log)) := by unfold Hid; rw [hY1]; exact ((P1.out.low (show w.heap.size + 1 + 1 < w.heap.size + 1 + 1 + 1 by omega)).low (show w.heap.size + 1 + 1 < w.heap.size + 1 + 1 + 1 by omega))
  clear KO1 KI1 KR1 B1 P1
  go_wp2_with fail
  rw [← hY1]
  clear hY1 c8 f8 c9 f9 i9 i10
  have HZ1 : Hid (w.heap.size + 1 + 1 + 1 ≤ Y1.heap.size) := KO1'.out.lt
  refine (toIntS x.yes uy Y1 B (HY.out.on (B1'.out.mono HB.out)) L1.out (Nat.le_trans HB.out B1'.out.size)).mono ?_
  rintro e W2 ⟨u1, rfl, hO, hb⟩
  obtain ⟨A1, k1, hu, -⟩ := hO.shape
  generalize x.yes.length = m1 at hu
  subst hu
  have B2 : Hid (Below w.heap.size w W2) := B1'.out.trans (hb.mono B1'.out.size)
  have KI2 : Hid (Blk W2 w.heap.size #[.int .i64 x.id, .int .i64 x.peers, .int .i64 x.term, .int .i64 x.vote, .int .i64 x.role, .int .i64 x.lead, .int .i64 x.base, .int .i64 x.bterm, ul, .int .i64 x.commit, uy, un, um] 25) := KI1'.out.on hb KI1'.out.lt
  have KR2 : Hid (Blk W2 (w.heap.size + 1) #[.int .i64 0, .int .i64 0, .int .i64 0, .int .i64 0, .int .i64 0, .int .i64 0, .int .i64 0, .int .i64 0, .slice none 0 0, .int .i64 0, .slice none 0 0, .slice none 0 0, .slice none 0 0] 30) := KR1'.out.on hb KR1'.out.lt
  have KO2 : Hid (Blk W2 (w.heap.size + 1 + 1) #[.int .i64 x.id, .int .i64 x.peers, .int .i64 x.term, .int .i64 x.vote, .int .i64 x.role, .int .i64 x.lead, .int .i64 x.base, .int .i64 x.bterm, .slice A0 m0 k0, .int .i64 x.commit, .slice none 0 0, .slice none 0 0, .slice none 0 0] 30) := KO1'.out.on hb KO1'.out.lt
  have P1 : Hid (OwnF W2 (w.heap.size + 1 + 1 + 1) (.slice A0 m0 k0) (entR x.log)) := P1'.out.on hb
  have P2 : Hid (Nums W2 (w.heap.size + 1 + 1 + 1) (.slice A1 m1 k1) x.yes) := hO.mono (show w.heap.size + 1 + 1 + 1 ≤ _ from HZ1.out)
  clear hO hb KI1' KR1' KO1' P1' B1' HZ1
  have i11 := KI2.out.cell 11 _ rfl
  have c10 := KO2.out.cell 10 _ rfl
  have f10 := KO2.out.free 10
  obtain ⟨Y2, hY2⟩ : ∃ Y2, Y2 = (W2.setCell ⟨w.heap.size + 1 + 1, 10, none⟩ (.slice A1 m1 k1)) := ⟨_, rfl⟩
  have KO2' : Hid (Blk Y2 (w.heap.size + 1 + 1) #[.int .i64 x.id, .int .i64 x.peers, .int .i64 x.term, .int .i64 x.vote, .int .i64 x.role, .int .i64 x.lead, .int .i64 x.base, .int .i64 x.bterm, .slice A0 m0 k0, .int .i64 x.commit, .slice A1 m1 k1, .slice none 0 0, .slice none 0 0] 30) := by unfold Hid; rw [hY2]; exact (KO2.out.set 10 (.slice A1 m1 k1))
  have KI2' : Hid (Blk Y2 w.heap.size #[.int .i64 x.id, .int .i64 x.peers, .int .i64 x.term, .int .i64 x.vote, .int .i64 x.role, .int .i64 x.lead, .int .i64 x.base, .int .i64 x.bterm, ul, .int .i64 x.commit, uy, un, um] 25) := by unfold Hid; rw [hY2]; exact (KI2.out.other (show w.heap.size ≠ w.heap.size + 1 + 1 by omega) 10 (.slice A1 m1 k1))
  have KR2' : Hid (Blk Y2 (w.heap.size + 1) #[.int .i64 0, .int .i64 0, .int .i64 0, .int .i64 0, .int .i64 0, .int .i64 0, .int .i64 0, .int .i64 0, .slice none 0 0, .int .i64 0, .slice none 0 0, .slice none 0 0, .slice none 0 0] 30) := by unfold Hid; rw [hY2]; exact (KR2.out.other (show w.heap.size + 1 ≠ w.heap.size + 1 + 1 by omega) 10 (.slice A1 m1 k1))
  have B2' : Hid (Below w.heap.size w Y2) := by unfold Hid; rw [hY2]; exact (B2.out.setCell (show w.heap.size ≤ w.heap.size + 1 + 1 by omega) (.slice A1 m1 k1) (p := ⟨_, 10, none⟩))
  have P1' : Hid (OwnF Y2 (w.heap.size + 1 + 1 + 1) (.slice A0 m0 k0) (entR x.log)) := by unfold Hid; rw [hY2]; exact (P1.out.low (show w.heap.size + 1 + 1 < w.heap.size + 1 + 1 + 1 by omega))
  have P2' : Hid (Nums Y2 (w.heap.size + 1 + 1 + 1) (.slice A1 m1 k1) x.yes) := by unfold Hid; rw [hY2]; exact (P2.out.low (show w.heap.size + 1 + 1 < w.heap.size + 1 + 1 + 1 by omega))
  clear KO2 KI2 KR2 B2 P1 P2
  go_wp2_with fail
  rw [← hY2]
  clear hY2 c10 f10 i11
  have HZ2 : Hid (w.heap.size + 1 + 1 + 1 ≤ Y2.heap.size) := KO2'.out.lt
  refine (toIntS x.nxt un Y2 B (HN.out.on (B2'.out.mono HB.out)) L2.out (Nat.le_trans HB.out B2'.out.size)).mono ?_
  rintro e W3 ⟨u2, rfl, hO, hb⟩
  obtain ⟨A2, k2, hu, -⟩ := hO.shape
  generalize x.nxt.length = m2 at hu
  subst hu
  have B3 : Hid (Below w.heap.size w W3) := B2'.out.trans (hb.mono B2'.out.size)
  have KI3 : Hid (Blk W3 w.heap.size #[.int .i64 x.id, .int .i64 x.peers, .int .i64 x.term, .int .i64 x.vote, .int .i64 x.role, .int .i64 x.lead, .int .i64 x.base, .int .i64 x.bterm, ul, .int .i64 x.commit, uy, un, um] 25) := KI2'.out.on hb KI2'.out.lt
  have KR3 : Hid (Blk W3 (w.heap.size + 1) #[.int .i64 0, .int .i64 0, .int .i64 0, .int .i64 0, .int .i64 0, .int .i64 0, .int .i64 0, .int .i64 0, .slice none 0 0, .int .i64 0, .slice none 0 0, .slice none 0 0, .slice none 0 0] 30) := KR2'.out.on hb KR2'.out.lt
  have KO3 : Hid (Blk W3 (w.heap.size + 1 + 1) #[.int .i64 x.id, .int .i64 x.peers, .int .i64 x.term, .int .i64 x.vote, .int .i64 x.role, .int .i64 x.lead, .int .i64 x.base, .int .i64 x.bterm, .slice A0 m0 k0, .int .i64 x.commit, .slice A1 m1 k1, .slice none 0 0, .slice none 0 0] 30) := KO2'.out.on hb KO2'.out.lt
  have P1 : Hid (OwnF W3 (w.heap.size + 1 + 1 + 1) (.slice A0 m0 k0) (entR x.log)) := P1'.out.on hb
  have P2 : Hid (Nums W3 (w.heap.size + 1 + 1 + 1) (.slice A1 m1 k1) x.yes) := P2'.out.on hb
  have P3 : Hid (Nums W3 (w.heap.size + 1 + 1 + 1) (.slice A2 m2 k2) x.nxt) := hO.mono (show w.heap.size + 1 + 1 + 1 ≤ _ from HZ2.out)
  have AP12 : Hid (Apart (.slice A1 m1 k1) (.slice A2 m2 k2)) := P2'.out.apart hO (Nat.le_refl _)
  clear hO hb KI2' KR2' KO2' P1' P2' B2' HZ2
  have i12 := KI3.out.cell 12 _ rfl
  have c11 := KO3.out.cell 11 _ rfl
  have f11 := KO3.out.free 11
  obtain ⟨Y3, hY3⟩ : ∃ Y3, Y3 = (W3.setCell ⟨w.heap.size + 1 + 1, 11, none⟩ (.slice A2 m2 k2)) := ⟨_, rfl⟩
  have KO3' : Hid (Blk Y3 (w.heap.size + 1 + 1) #[.int .i64 x.id, .int .i64 x.peers, .int .i64 x.term, .int .i64 x.vote, .int .i64 x.role, .int .i64 x.lead, .int .i64 x.base, .int .i64 x.bterm, .slice A0 m0 k0, .int .i64 x.commit, .slice A1 m1 k1, .slice A2 m2 k2, .slice none 0 0] 30) := by unfold Hid; rw [hY3]; exact (KO3.out.set 11 (.slice A2 m2 k2))
  have KI3' : Hid (Blk Y3 w.heap.size #[.int .i64 x.id, .int .i64 x.peers, .int .i64 x.term, .int .i64 x.vote, .int .i64 x.role, .int .i64 x.lead, .int .i64 x.base, .int .i64 x.bterm, ul, .int .i64 x.commit, uy, un, um] 25) := by unfold Hid; rw [hY3]; exact (KI3.out.other (show w.heap.size ≠ w.heap.size + 1 + 1 by omega) 11 (.slice A2 m2 k2))
  have KR3' : Hid (Blk Y3 (w.heap.size + 1) #[.int .i64 0, .int .i64 0, .int .i64 0, .int .i64 0, .int .i64 0, .int .i64 0, .int .i64 0, .int .i64 0, .slice none 0 0, .int .i64 0, .slice none 0 0, .slice none 0 0, .slice none 0 0] 30) := by unfold Hid; rw [hY3]; exact (KR3.out.other (show w.heap.size + 1 ≠ w.heap.size + 1 + 1 by omega) 11 (.slice A2 m2 k2))
  have B3' : Hid (Below w.heap.size w Y3) := by unfold Hid; rw [hY3]; exact (B3.out.setCell (show w.heap.size ≤ w.heap.size + 1 + 1 by omega) (.slice A2 m2 k2) (p := ⟨_, 11, none⟩))
  have P1' : Hid (OwnF Y3 (w.heap.size + 1 + 1 + 1) (.slice A0 m0 k0) (entR x.log)) := by unfold Hid; rw [hY3]; exact (P1.out.low (show w.heap.size + 1 + 1 < w.heap.size + 1 + 1 + 1 by omega))
  have P2' : Hid (Nums Y3 (w.heap.size + 1 + 1 + 1) (.slice A1 m1 k1) x.yes) := by unfold Hid; rw [hY3]; exact (P2.out.low (show w.heap.size + 1 + 1 < w.heap.size + 1 + 1 + 1 by omega))
  have P3' : Hid (Nums Y3 (w.heap.size + 1 + 1 + 1) (.slice A2 m2 k2) x.nxt) := by unfold Hid; rw [hY3]; exact (P3.out.low (show w.heap.size + 1 + 1 < w.heap.size + 1 + 1 + 1 by omega))
  clear KO3 KI3 KR3 B3 P1 P2 P3
  go_wp2_with fail
  rw [← hY3]
  clear hY3 c11 f11 i12
  have HZ3 : Hid (w.heap.size + 1 + 1 + 1 ≤ Y3.heap.size) := KO3'.out.lt
  refine (toIntS x.mat um Y3 B (HM.out.on (B3'.out.mono HB.out)) L3.out (Nat.le_trans HB.out B3'.out.size)).mono ?_
  rintro e W4 ⟨u3, rfl, hO, hb⟩
  obtain ⟨A3, k3, hu, -⟩ := hO.shape
  generalize x.mat.length = m3 at hu
  subst hu
  have B4 : Hid (Below w.heap.size w W4) := B3'.out.trans (hb.mono B3'.out.size)
  have KI4 : Hid (Blk W4 w.heap.size #[.int .i64 x.id, .int .i64 x.peers, .int .i64 x.term, .int .i64 x.vote, .int .i64 x.role, .int .i64 x.lead, .int .i64 x.base, .int .i64 x.bterm, ul, .int .i64 x.commit, uy, un, um] 25) := KI3'.out.on hb KI3'.out.lt
  have KR4 : Hid (Blk W4 (w.heap.size + 1) #[.int .i64 0, .int .i64 0, .int .i64 0, .int .i64 0, .int .i64 0, .int .i64 0, .int .i64 0, .int .i64 0, .slice none 0 0, .int .i64 0, .slice none 0 0, .slice none 0 0, .slice none 0 0] 30) := KR3'.out.on hb KR3'.out.lt
  have KO4 : Hid (Blk W4 (w.heap.size + 1 + 1) #[.int .i64 x.id, .int .i64 x.peers, .int .i64 x.term, .int .i64 x.vote, .int .i64 x.role, .int .i64 x.lead, .int .i64 x.base, .int .i64 x.bterm, .slice A0 m0 k0, .int .i64 x.commit, .slice A1 m1 k1, .slice A2 m2 k2, .slice none 0 0] 30) := KO3'.out.on hb KO3'.out.lt
  have P1 : Hid (OwnF W4 (w.heap.size + 1 + 1 + 1) (.slice A0 m0 k0) (entR x.log)) := P1'.out.on hb
  have P2 : Hid (Nums W4 (w.heap.size + 1 + 1 + 1) (.slice A1 m1 k1) x.yes) := P2'.out.on hb
  have P3 : Hid (Nums W4 (w.heap.size + 1 + 1 + 1) (.slice A2 m2 k2) x.nxt) := P3'.out.on hb
  have P4 : Hid (Nums W4 (w.heap.size + 1 + 1 + 1) (.slice A3 m3 k3) x.mat) := hO.mono (show w.heap.size + 1 + 1 + 1 ≤ _ from HZ3.out)
  have AP13 : Hid (Apart (.slice A1 m1 k1) (.slice A3 m3 k3)) := P2'.out.apart hO (Nat.le_refl _)
  have AP23 : Hid (Apart (.slice A2 m2 k2) (.slice A3 m3 k3)) := P3'.out.apart hO (Nat.le_refl _)
  clear hO hb KI3' KR3' KO3' P1' P2' P3' B3' HZ3
  have c12 := KO4.out.cell 12 _ rfl
  have f12 := KO4.out.free 12
  obtain ⟨Y4, hY4⟩ : ∃ Y4, Y4 = (W4.setCell ⟨w.heap.size + 1 + 1, 12, none⟩ (.slice A3 m3 k3)) := ⟨_, rfl⟩
  have KO4' : Hid (Blk Y4 (w.heap.size + 1 + 1) #[.int .i64 x.id, .int .i64 x.peers, .int .i64 x.term, .int .i64 x.vote, .int .i64 x.role, .int .i64 x.lead, .int .i64 x.base, .int .i64 x.bterm, .slice A0 m0 k0, .int .i64 x.commit, .slice A1 m1 k1, .slice A2 m2 k2, .slice A3 m3 k3] 30) := by unfold Hid; rw [hY4]; exact (KO4.out.set 12 (.slice A3 m3 k3))
  have KI4' : Hid (Blk Y4 w.heap.size #[.int .i64 x.id, .int .i64 x.peers, .int .i64 x.term, .int .i64 x.vote, .int .i64 x.role, .int .i64 x.lead, .int .i64 x.base, .int .i64 x.bterm, ul, .int .i64 x.commit, uy, un, um] 25) := by unfold Hid; rw [hY4]; exact (KI4.out.other (show w.heap.size ≠ w.heap.size + 1 + 1 by omega) 12 (.slice A3 m3 k3))
  have KR4' : Hid (Blk Y4 (w.heap.size + 1) #[.int .i64 0, .int .i64 0, .int .i64 0, .int .i64 0, .int .i64 0, .int .i64 0, .int .i64 0, .int .i64 0, .slice none 0 0, .int .i64 0, .slice none 0 0, .slice none 0 0, .slice none 0 0] 30) := by unfold Hid; rw [hY4]; exact (KR4.out.other (show w.heap.size + 1 ≠ w.heap.size + 1 + 1 by omega) 12 (.slice A3 m3 k3))
  have B4' : Hid (Below w.heap.size w Y4) := by unfold Hid; rw [hY4]; exact (B4.out.setCell (show w.heap.size ≤ w.heap.size + 1 + 1 by omega) (.slice A3 m3 k3) (p := ⟨_, 12, none⟩))
  have P1' : Hid (OwnF Y4 (w.heap.size + 1 + 1 + 1) (.slice A0 m0 k0) (entR x.log)) := by unfold Hid; rw [hY4]; exact (P1.out.low (show w.heap.size + 1 + 1 < w.heap.size + 1 + 1 + 1 by omega))
  have P2' : Hid (Nums Y4 (w.heap.size + 1 + 1 + 1) (.slice A1 m1 k1) x.yes) := by unfold Hid; rw [hY4]; exact (P2.out.low (show w.heap.size + 1 + 1 < w.heap.size + 1 + 1 + 1 by omega))
  have P3' : Hid (Nums Y4 (w.heap.size + 1 + 1 + 1) (.slice A2 m2 k2) x.nxt) := by unfold Hid; rw [hY4]; exact (P3.out.low (show w.heap.size + 1 + 1 < w.heap.size + 1 + 1 + 1 by omega))
  have P4' : Hid (Nums Y4 (w.heap.size + 1 + 1 + 1) (.slice A3 m3 k3) x.mat) := by unfold Hid; rw [hY4]; exact (P4.out.low (show w.heap.size + 1 + 1 < w.heap.size + 1 + 1 + 1 by omega))
  clear KO4 KI4 KR4 B4 P1 P2 P3 P4
  go_upto_region 15 with fail
  rw [← hY4]
  clear hY4 c12 f12 KI4'
  have RW : Hid (CoRows Y4 (w.heap.size + 1 + 1 + 1) x (.slice A0 m0 k0) (.slice A1 m1 k1) (.slice A2 m2 k2) (.slice A3 m3 k3)) := ⟨P1'.out, P2'.out, P3'.out, P4'.out, AP12.out, AP13.out, AP23.out⟩
  clear P1' P2' P3' P4' AP12 AP13 AP23
  generalize hgo : w.heap.size + 1 + 1 = go at *
  have hgr : w.heap.size + 1 < go + 1 := by omega
  generalize hgr2 : w.heap.size + 1 = gr at *
  have HW0 : Hid (w.heap.size ≤ gr) := by unfold Hid; omega
  have HW1 : Hid (w.heap.size ≤ go + 1) := by unfold Hid; omega
  clear hgo hgr2 HLT
  have HV : Hid (vCo x (.slice A0 m0 k0) (.slice A1 m1 k1) (.slice A2 m2 k2) (.slice A3 m3 k3) = .agg #[.int .i64 x.id, .int .i64 x.peers, .int .i64 x.term, .int .i64 x.vote, .int .i64 x.role, .int .i64 x.lead, .int .i64 x.base, .int .i64 x.bterm, .slice A0 m0 k0, .int .i64 x.commit, .slice A1 m1 k1, .slice A2 m2 k2, .slice A3 m3 k3]) := rfl
  generalize x.id = x0 at *
  generalize x.peers = x1 at *
  generalize x.term = x2 at *
  generalize x.vote = x3 at *
  generalize x.role = x4 at *
  generalize x.lead = x5 at *
  generalize x.base = x6 at *
  generalize x.bterm = x7 at *
  generalize x.commit = x9 at *
  have c0 := KO4'.out.cell 0 _ rfl
  have c1 := KO4'.out.cell 1 _ rfl
  have c2 := KO4'.out.cell 2 _ rfl
  have c3 := KO4'.out.cell 3 _ rfl
  have c4 := KO4'.out.cell 4 _ rfl
  have c5 := KO4'.out.cell 5 _ rfl
  have c6 := KO4'.out.cell 6 _ rfl
  have c7 := KO4'.out.cell 7 _ rfl
  have c8 := KO4'.out.cell 8 _ rfl
  have c9 := KO4'.out.cell 9 _ rfl
  have c10 := KO4'.out.cell 10 _ rfl
  have c11 := KO4'.out.cell 11 _ rfl
  have c12 := KO4'.out.cell 12 _ rfl
  obtain ⟨⟨r0, g0⟩, ⟨r1, g1⟩, ⟨r2, g2⟩, ⟨r3, g3⟩, ⟨r4, g4⟩, ⟨r5, g5⟩, ⟨r6, g6⟩, ⟨r7, g7⟩, ⟨r8, g8⟩, ⟨r9, g9⟩, ⟨r10, g10⟩, ⟨r11, g11⟩, ⟨r12, g12⟩, z0, z1, z2, z3, z4, z5, z6, z7, z8, z9, z10, z11, z12⟩ := resC13 (x0 := .int .i64 x0) (x1 := .int .i64 x1) (x2 := .int .i64 x2) (x3 := .int .i64 x3) (x4 := .int .i64 x4) (x5 := .int .i64 x5) (x6 := .int .i64 x6) (x7 := .int .i64 x7) (x8 := .slice A0 m0 k0) (x9 := .int .i64 x9) (x10 := .slice A1 m1 k1) (x11 := .slice A2 m2 k2) (x12 := .slice A3 m3 k3) KR4'.out
  have FO := Hid.mk (rowsC13 RW.out hgr (.int .i64 x0) (.int .i64 x1) (.int .i64 x2) (.int .i64 x3) (.int .i64 x4) (.int .i64 x5) (.int .i64 x6) (.int .i64 x7) (.slice A0 m0 k0) (.int .i64 x9) (.slice A1 m1 k1) (.slice A2 m2 k2) (.slice A3 m3 k3))
  have FB := Hid.mk (belowC13 B4'.out HW0.out (.int .i64 x0) (.int .i64 x1) (.int .i64 x2) (.int .i64 x3) (.int .i64 x4) (.int .i64 x5) (.int .i64 x6) (.int .i64 x7) (.slice A0 m0 k0) (.int .i64 x9) (.slice A1 m1 k1) (.slice A2 m2 k2) (.slice A3 m3 k3))
  clear KO4' KR4' RW B4'
  go_wp2_with fail
  exact bodyPost_ret (v := .agg #[.int .i64 x0, .int .i64 x1, .int .i64 x2, .int .i64 x3, .int .i64 x4, .int .i64 x5, .int .i64 x6, .int .i64 x7, .slice A0 m0 k0, .int .i64 x9, .slice A1 m1 k1, .slice A2 m2 k2, .slice A3 m3 k3]) (by simp [results, go_sem, z0, z1, z2, z3, z4, z5, z6, z7, z8, z9, z10, z11, z12]) rfl ⟨_, rfl, ⟨_, _, _, _, HV.out.symm, FO.out.mono HW1.out⟩, FB.out⟩
set_option maxHeartbeats 8000000 in
theorem eqCore (x : Cor) (va vb : Value) (w : World) (B : Nat) (ha : CorV w B va x) (hb : CorV w B vb x) (hs : ShortC x) (hB : B ≤ w.heap.size) :
    Calls Try.prog 14 #[va, vb] w fun e w' => e = .returned (.bool true) ∧ Below w.heap.size w w' := by
  obtain ⟨al, ay, an, am, rfl, a1, a2, a3, a4⟩ := ha
  obtain ⟨bl, b_y, bn, bm, rfl, b1, b2, b3, b4⟩ := hb
  unfold vCo
  have HB : Hid (B ≤ w.heap.size) := hB
  have H1 := Hid.mk (show _ ∧ _ from ⟨a1, b1⟩)
  have H2 := Hid.mk (show _ ∧ _ from ⟨a2, b2⟩)
  have H3 := Hid.mk (show _ ∧ _ from ⟨a3, b3⟩)
  have H4 := Hid.mk (show _ ∧ _ from ⟨a4, b4⟩)
  have HS : Hid (ShortC x) := hs
  clear a1 a2 a3 a4 b1 b2 b3 b4 hB hs
  have hb0 := belowA2 w (.cells #[.int .i64 x.id, .int .i64 x.peers, .int .i64 x.term, .int .i64 x.vote, .int .i64 x.role, .int .i64 x.lead, .int .i64 x.base, .int .i64 x.bterm, al, .int .i64 x.commit, ay, an, am] 30) (.cells #[.int .i64 x.id, .int .i64 x.peers, .int .i64 x.term, .int .i64 x.vote, .int .i64 x.role, .int .i64 x.lead, .int .i64 x.base, .int .i64 x.bterm, bl, .int .i64 x.commit, b_y, bn, bm] 30)
  have bA := (Blk.new w #[.int .i64 x.id, .int .i64 x.peers, .int .i64 x.term, .int .i64 x.vote, .int .i64 x.role, .int .i64 x.lead, .int .i64 x.base, .int .i64 x.bterm, al, .int .i64 x.commit, ay, an, am] 30).alloc (.cells #[.int .i64 x.id, .int .i64 x.peers, .int .i64 x.term, .int .i64 x.vote, .int .i64 x.role, .int .i64 x.lead, .int .i64 x.base, .int .i64 x.bterm, bl, .int .i64 x.commit, b_y, bn, bm] 30)
  have bB := Blk.new (w.alloc (.cells #[.int .i64 x.id, .int .i64 x.peers, .int .i64 x.term, .int .i64 x.vote, .int .i64 x.role, .int .i64 x.lead, .int .i64 x.base, .int .i64 x.bterm, al, .int .i64 x.commit, ay, an, am] 30)) #[.int .i64 x.id, .int .i64 x.peers, .int .i64 x.term, .int .i64 x.vote, .int .i64 x.role, .int .i64 x.lead, .int .i64 x.base, .int .i64 x.bterm, bl, .int .i64 x.commit, b_y, bn, bm] 30
  simp only [World.size_alloc] at bA bB
  obtain ⟨W, hW⟩ : ∃ W, W = (w.alloc (.cells #[.int .i64 x.id, .int .i64 x.peers, .int .i64 x.term, .int .i64 x.vote, .int .i64 x.role, .int .i64 x.lead, .int .i64 x.base, .int .i64 x.bterm, al, .int .i64 x.commit, ay, an, am] 30)).alloc (.cells #[.int .i64 x.id, .int .i64 x.peers, .int .i64 x.term, .int .i64 x.vote, .int .i64 x.role, .int .i64 x.lead, .int .i64 x.base, .int .i64 x.bterm, bl, .int .i64 x.commit, b_y, bn, bm] 30) := ⟨_, rfl⟩
  rw [← hW] at hb0 bA bB
  have B0 : Hid (Below w.heap.size w W) := hb0
  have BA := Hid.mk bA
  have BB := Hid.mk bB
  clear hb0 bA bB
  go_enter Try.func14, Try.ntmps14
  go_wp2_with fail
  rw [← hW]
  clear hW
  refine (eqEntryS x.log al bl W B (H1.out.1.on (B0.out.mono HB.out)) (H1.out.2.on (B0.out.mono HB.out)) HS.out.n (Nat.le_trans HB.out B0.out.size)).mono ?_
  rintro e W1 ⟨rfl, hb1⟩
  have B1 : Hid (Below w.heap.size w W1) := B0.out.trans (hb1.mono B0.out.size)
  have BA1 := Hid.mk (BA.out.on hb1 BA.out.lt)
  have BB1 := Hid.mk (BB.out.on hb1 BB.out.lt)
  clear hb1 BA BB
  have p9 := BA1.out.cell 9 _ rfl
  have q9 := BB1.out.cell 9 _ rfl
  have p10 := BA1.out.cell 10 _ rfl
  have q10 := BB1.out.cell 10 _ rfl
  go_wp2_with fail
  refine (eqIntS x.yes ay b_y W1 B (H2.out.1.on (B1.out.mono HB.out)) (H2.out.2.on (B1.out.mono HB.out)) (Nat.le_trans HS.out.y (by omega))).mono ?_
  rintro e W2 ⟨rfl, hlk⟩
  have hb1 := hlk.below
  have B2 : Hid (Below w.heap.size w W2) := B1.out.trans (hb1.mono B1.out.size)
  have BA2 := Hid.mk (BA1.out.on hb1 BA1.out.lt)
  have BB2 := Hid.mk (BB1.out.on hb1 BB1.out.lt)
  clear hb1 hlk BA1 BB1 p10 q10 p9 q9
  have p11 := BA2.out.cell 11 _ rfl
  have q11 := BB2.out.cell 11 _ rfl
  go_wp2_with fail
  refine (eqIntS x.nxt an bn W2 B (H3.out.1.on (B2.out.mono HB.out)) (H3.out.2.on (B2.out.mono HB.out)) (Nat.le_trans HS.out.q (by omega))).mono ?_
  rintro e W3 ⟨rfl, hlk⟩
  have hb1 := hlk.below
  have B3 : Hid (Below w.heap.size w W3) := B2.out.trans (hb1.mono B2.out.size)
  have BA3 := Hid.mk (BA2.out.on hb1 BA2.out.lt)
  have BB3 := Hid.mk (BB2.out.on hb1 BB2.out.lt)
  clear hb1 hlk BA2 BB2 p11 q11
  have p12 := BA3.out.cell 12 _ rfl
  have q12 := BB3.out.cell 12 _ rfl
  go_wp2_with fail
  refine (eqIntS x.mat am bm W3 B (H4.out.1.on (B3.out.mono HB.out)) (H4.out.2.on (B3.out.mono HB.out)) (Nat.le_trans HS.out.m (by omega))).mono ?_
  rintro e W4 ⟨rfl, hlk⟩
  have hb1 := hlk.below
  have B4 : Hid (Below w.heap.size w W4) := B3.out.trans (hb1.mono B3.out.size)
  have BA4 := Hid.mk (BA3.out.on hb1 BA3.out.lt)
  have BB4 := Hid.mk (BB3.out.on hb1 BB3.out.lt)
  clear hb1 hlk BA3 BB3 p12 q12
  go_wp2_with fail
  go_ret
  exact ⟨rfl, B4.out⟩
/-- The marks of a core. -/
structure CoMks (w : World) (base : Nat) (x : Cor) (ul uy un um : Value) : Prop where
  l : OwnF w base ul (newR (mkEnt 1) x.log.length)
  y : Nums w base uy (nmarks (1 + 2 * x.log.length) x.yes.length)
  n : Nums w base un (nmarks (1 + 2 * x.log.length + x.yes.length) x.nxt.length)
  m : Nums w base um (nmarks (1 + 2 * x.log.length + x.yes.length + x.nxt.length) x.mat.length)
theorem CoMks.on {w w' : World} {base : Nat} {x : Cor} {ul uy un um : Value} (h : CoMks w base x ul uy un um) (hb : Below w.heap.size w w') : CoMks w' base x ul uy un um := ⟨h.l.on hb, h.y.on hb, h.n.on hb, h.m.on hb⟩
def kCo (x : Cor) : Nat := 1 + 2 * x.log.length + x.yes.length + x.nxt.length + x.mat.length
theorem OwnF.ents {w : World} {base : Nat} {v : Value} {R : List (List Value)} (h : OwnF w base v R) {g : Nat} (hg : blkF v = some g) : ∃ cs fz, w.heap[g]? = some (.cells cs 88 fz) := by
  rcases h with ⟨_, A, c, rfl, _⟩ | ⟨h0, g', n0, c0, d, c, R0, h1, h2, h3, rfl, h5, h6⟩
  · cases A <;> cases hg
  · have hk := blkF_own hg
    simp only [Value.ownBlock, Option.some.injEq] at hk
    subst hk
    rcases h1.2.2 with ⟨e, _⟩ | ⟨g1, c1, cur1, e, _, k1, _⟩
    · cases e
    · cases e
      exact ⟨_, _, k1⟩
theorem OwnF.notNum {w : World} {base base' : Nat} {v u : Value} {R : List (List Value)} {l : List Int} (h : OwnF w base v R) (hn : Nums w base' u l) (ht : (3 : Nat) ≠ 88) {g : Nat} (hg : u.ownBlock = some g) : blkF v ≠ some g := by
  obtain ⟨cs, fz, e⟩ := hn.kind hg
  exact h.notBlk e ht
theorem Nums.notEnt {w : World} {base base' : Nat} {v u : Value} {R : List (List Value)} {l : List Int} (hn : Nums w base' u l) (h : OwnF w base v R) (ht : (3 : Nat) ≠ 88) {g : Nat} (hg : blkF v = some g) : u.ownBlock ≠ some g := by
  obtain ⟨cs, fz, e⟩ := h.ents hg
  exact hn.notBlk e (fun q => ht q.symm)
set_option maxHeartbeats 4000000 in
theorem markCore (x : Cor) (ul uy un um : Value) (base : Nat) (w : World) (hv : CoRows w base x ul uy un um) (hs : ShortC x) (hbase : base ≤ w.heap.size) :
    Calls Try.prog 18 #[vCo x ul uy un um, .int .i64 1] w fun e w' => e = .returned (.int .i64 (kCo x : Int)) ∧ CoMks w' base x ul uy un um ∧ Below base w w' ∧ (∀ g, g < w.heap.size → NotC ul uy un um g → w'.heap[g]? = w.heap[g]?) := by
  have hb0 : Below w.heap.size w (w.alloc (.cells #[.int .i64 x.id, .int .i64 x.peers, .int .i64 x.term, .int .i64 x.vote, .int .i64 x.role, .int .i64 x.lead, .int .i64 x.base, .int .i64 x.bterm, ul, .int .i64 x.commit, uy, un, um] 30)) := (Below.refl _ _).alloc (Nat.le_refl _) _
  have HR := Hid.mk (hv.on hb0)
  have B0 : Hid (Below w.heap.size w (w.alloc (.cells #[.int .i64 x.id, .int .i64 x.peers, .int .i64 x.term, .int .i64 x.vote, .int .i64 x.role, .int .i64 x.lead, .int .i64 x.base, .int .i64 x.bterm, ul, .int .i64 x.commit, uy, un, um] 30))) := hb0
  have K0 := Hid.mk (Blk.new w #[.int .i64 x.id, .int .i64 x.peers, .int .i64 x.term, .int .i64 x.vote, .int .i64 x.role, .int .i64 x.lead, .int .i64 x.base, .int .i64 x.bterm, ul, .int .i64 x.commit, uy, un, um] 30)
  have HBs : Hid (base ≤ w.heap.size) := hbase
  have HS : Hid (ShortC x) := hs
  have HKc : Hid (kCo x = 1 + 2 * x.log.length + x.yes.length + x.nxt.length + x.mat.length) := rfl
  have HN3 : Hid ((3 : Nat) ≠ 88) := by unfold Hid; decide
  have HI3 : Hid ((30 : Nat) ≠ 3) := by unfold Hid; decide
  have HIE : Hid ((30 : Nat) ≠ 88) := by unfold Hid; decide
  obtain ⟨A0, m0, k0, e0⟩ : ∃ A m k, ul = .slice A m k := by obtain ⟨A, c, e⟩ := hv.l.shape; exact ⟨A, _, c, e⟩
  obtain ⟨A1, m1, k1, e1⟩ : ∃ A m k, uy = .slice A m k := by obtain ⟨A, c, e, _⟩ := hv.y.shape; exact ⟨A, _, c, e⟩
  obtain ⟨A2, m2, k2, e2⟩ : ∃ A m k, un = .slice A m k := by obtain ⟨A, c, e, _⟩ := hv.n.shape; exact ⟨A, _, c, e⟩
  obtain ⟨A3, m3, k3, e3⟩ : ∃ A m k, um = .slice A m k := by obtain ⟨A, c, e, _⟩ := hv.m.shape; exact ⟨A, _, c, e⟩
  subst e0 e1 e2 e3
  have HRa := HR.out
  unfold vCo
  clear hb0 hv hbase hs
  go_enter Try.func18, Try.ntmps18
  go_wp2_with fail
  generalize w.alloc (.cells #[.int .i64 x.id, .int .i64 x.peers, .int .i64 x.term, .int .i64 x.vote, .int .i64 x.role, .int .i64 x.lead, .int .i64 x.base, .int .i64 x.bterm, .slice A0 m0 k0, .int .i64 x.commit, .slice A1 m1 k1, .slice A2 m2 k2, .slice A3 m3 k3] 30) = W at *
  refine (markEntryF 1 base (.slice A0 m0 k0) (entR x.log) W HR.out.l (by rw [entR_length]; exact HS.out.n) (by omega) (by omega) (Nat.le_trans HBs.out B0.out.size)).mono ?_
  rintro e W1 ⟨rfl, hO1, hb1, hk1⟩
  rw [entR_length] at hO1 ⊢
  have Q1 : Hid (OwnF W1 base (.slice A0 m0 k0) (newR (mkEnt 1) x.log.length)) := hO1
  have Y1 : Hid (Nums W1 base (.slice A1 m1 k1) x.yes) := HR.out.y.kept fun g hg e => hk1 g hg (HR.out.l.notNum HR.out.y HN3.out e)
  have N1 : Hid (Nums W1 base (.slice A2 m2 k2) x.nxt) := HR.out.n.kept fun g hg e => hk1 g hg (HR.out.l.notNum HR.out.n HN3.out e)
  have M1 : Hid (Nums W1 base (.slice A3 m3 k3) x.mat) := HR.out.m.kept fun g hg e => hk1 g hg (HR.out.l.notNum HR.out.m HN3.out e)
  have AP : Hid (Apart (.slice A1 m1 k1) (.slice A2 m2 k2) ∧ Apart (.slice A1 m1 k1) (.slice A3 m3 k3) ∧ Apart (.slice A2 m2 k2) (.slice A3 m3 k3)) := ⟨HR.out.yn, HR.out.ym, HR.out.nm⟩
  have K1 : Hid (Blk W1 w.heap.size #[.int .i64 x.id, .int .i64 x.peers, .int .i64 x.term, .int .i64 x.vote, .int .i64 x.role, .int .i64 x.lead, .int .i64 x.base, .int .i64 x.bterm, .slice A0 m0 k0, .int .i64 x.commit, .slice A1 m1 k1, .slice A2 m2 k2, .slice A3 m3 k3] 30) := (hk1 _ K0.out.lt (HR.out.l.notBlk K0.out HIE.out)).trans K0.out
  have B1 : Hid (Below base w W1) := (B0.out.mono HBs.out).trans hb1
  have G1 : Hid (∀ g, g < w.heap.size → blkF (.slice A0 m0 k0) ≠ some g → W1.heap[g]? = w.heap[g]?) := fun g hg e => (hk1 g (Nat.lt_of_lt_of_le hg B0.out.size) e).trans (B0.out.block g hg)
  have WZ : Hid (W.heap.size ≤ W1.heap.size) := hb1.size
  clear hO1 hb1 hk1 HR HRa
  generalize hq1 : 1 + 2 * x.log.length = r1 at *
  have HQ1 : Hid (1 + 2 * x.log.length = r1) := hq1
  have HLn := Hid.mk HS.out.n
  clear hq1
  have j10 := K1.out.cell 10 _ rfl
  go_wp2_with fail
  refine (markIntK r1 base (.slice A1 m1 k1) x.yes W1 Y1.out (by have := HS.out.y; omega) (by have := HQ1.out; have := HLn.out; omega)).mono ?_
  rintro e W2 ⟨rfl, hO, hb, hk⟩
  have Y2 : Hid (Nums W2 base (.slice A1 m1 k1) (nmarks r1 x.yes.length)) := hO
  have Q2 : Hid (OwnF W2 base (.slice A0 m0 k0) (newR (mkEnt 1) x.log.length)) := Q1.out.kept fun g hg e => hk g (Y1.out.notEnt Q1.out HN3.out e)
  have N2 : Hid (Nums W2 base (.slice A2 m2 k2) x.nxt) := N1.out.kept fun g hg e => hk g (fun q => AP.out.1 g q e)
  have M2 : Hid (Nums W2 base (.slice A3 m3 k3) x.mat) := M1.out.kept fun g hg e => hk g (fun q => AP.out.2.1 g q e)
  have K2 : Hid (Blk W2 w.heap.size #[.int .i64 x.id, .int .i64 x.peers, .int .i64 x.term, .int .i64 x.vote, .int .i64 x.role, .int .i64 x.lead, .int .i64 x.base, .int .i64 x.bterm, .slice A0 m0 k0, .int .i64 x.commit, .slice A1 m1 k1, .slice A2 m2 k2, .slice A3 m3 k3] 30) := (hk _ (Y1.out.notBlk K1.out HI3.out)).trans K1.out
  have B2 : Hid (Below base w W2) := B1.out.trans hb
  have G2 : Hid (∀ g, g < w.heap.size → blkF (.slice A0 m0 k0) ≠ some g → (Value.slice A1 m1 k1).ownBlock ≠ some g → W2.heap[g]? = w.heap[g]?) := fun g hg e e2 => (hk g e2).trans (G1.out g hg e)
  clear hO hb hk Q1 Y1 N1 M1 K1 B1 G1 j10
  generalize hq2 : r1 + x.yes.length = r2 at *
  have HQ2 : Hid (r1 + x.yes.length = r2) := hq2
  have HLy := Hid.mk HS.out.y
  clear hq2
  have j11 := K2.out.cell 11 _ rfl
  go_wp2_with fail
  refine (markIntK r2 base (.slice A2 m2 k2) x.nxt W2 N2.out (by have := HS.out.q; omega) (by have := HQ1.out; have := HLn.out; have := HQ2.out; have := HLy.out; omega)).mono ?_
  rintro e W3 ⟨rfl, hO, hb, hk⟩
  have N3 : Hid (Nums W3 base (.slice A2 m2 k2) (nmarks r2 x.nxt.length)) := hO
  have Q3 : Hid (OwnF W3 base (.slice A0 m0 k0) (newR (mkEnt 1) x.log.length)) := Q2.out.kept fun g hg e => hk g (N2.out.notEnt Q2.out HN3.out e)
  have Y3 : Hid (Nums W3 base (.slice A1 m1 k1) (nmarks r1 x.yes.length)) := Y2.out.kept fun g hg e => hk g (fun q => AP.out.1 g e q)
  have M3 : Hid (Nums W3 base (.slice A3 m3 k3) x.mat) := M2.out.kept fun g hg e => hk g (fun q => AP.out.2.2 g q e)
  have K3 : Hid (Blk W3 w.heap.size #[.int .i64 x.id, .int .i64 x.peers, .int .i64 x.term, .int .i64 x.vote, .int .i64 x.role, .int .i64 x.lead, .int .i64 x.base, .int .i64 x.bterm, .slice A0 m0 k0, .int .i64 x.commit, .slice A1 m1 k1, .slice A2 m2 k2, .slice A3 m3 k3] 30) := (hk _ (N2.out.notBlk K2.out HI3.out)).trans K2.out
  have B3 : Hid (Below base w W3) := B2.out.trans hb
  have G3 : Hid (∀ g, g < w.heap.size → blkF (.slice A0 m0 k0) ≠ some g → (Value.slice A1 m1 k1).ownBlock ≠ some g → (Value.slice A2 m2 k2).ownBlock ≠ some g → W3.heap[g]? = w.heap[g]?) := fun g hg e e2 e3 => (hk g e3).trans (G2.out g hg e e2)
  clear hO hb hk Q2 Y2 N2 M2 K2 B2 G2 j11
  generalize hq3 : r2 + x.nxt.length = r3 at *
  have HQ3 : Hid (r2 + x.nxt.length = r3) := hq3
  have HLx := Hid.mk HS.out.q
  clear hq3
  have j12 := K3.out.cell 12 _ rfl
  go_wp2_with fail
  refine (markIntK r3 base (.slice A3 m3 k3) x.mat W3 M3.out (by have := HS.out.m; omega) (by have := HQ1.out; have := HLn.out; have := HQ2.out; have := HLy.out; have := HQ3.out; have := HLx.out; omega)).mono ?_
  rintro e W4 ⟨rfl, hO, hb, hk⟩
  have M4 : Hid (Nums W4 base (.slice A3 m3 k3) (nmarks r3 x.mat.length)) := hO
  have Q4 : Hid (OwnF W4 base (.slice A0 m0 k0) (newR (mkEnt 1) x.log.length)) := Q3.out.kept fun g hg e => hk g (M3.out.notEnt Q3.out HN3.out e)
  have Y4 : Hid (Nums W4 base (.slice A1 m1 k1) (nmarks r1 x.yes.length)) := Y3.out.kept fun g hg e => hk g (fun q => AP.out.2.1 g e q)
  have N4 : Hid (Nums W4 base (.slice A2 m2 k2) (nmarks r2 x.nxt.length)) := N3.out.kept fun g hg e => hk g (fun q => AP.out.2.2 g e q)
  have B4 : Hid (Below base w W4) := B3.out.trans hb
  have G4 : Hid (∀ g, g < w.heap.size → NotC (.slice A0 m0 k0) (.slice A1 m1 k1) (.slice A2 m2 k2) (.slice A3 m3 k3) g → W4.heap[g]? = w.heap[g]?) := fun g hg e => (hk g e.m).trans (G3.out g hg e.l e.y e.n)
  have HF : Hid (kCo x = r3 + x.mat.length) := HKc.out
  have R4 : Hid (CoMks W4 base x (.slice A0 m0 k0) (.slice A1 m1 k1) (.slice A2 m2 k2) (.slice A3 m3 k3)) := by
    refine ⟨Q4.out, ?_, ?_, ?_⟩
    · rw [HQ1.out]; exact Y4.out
    · rw [HQ1.out, HQ2.out]; exact N4.out
    · rw [HQ1.out, HQ2.out, HQ3.out]; exact M4.out
  clear hO hb hk Q3 Y3 N3 M3 K3 B3 G3 j12
  generalize r3 + x.mat.length = r4 at *
  go_wp2_with fail
  go_ret
  exact ⟨by rw [HF.out]; rfl, R4.out, B4.out, G4.out⟩
set_option maxHeartbeats 4000000 in
theorem heldCore (x : Cor) (ul uy un um : Value) (base : Nat) (w : World) (hv : CoMks w base x ul uy un um) (hs : ShortC x) :
    Calls Try.prog 25 #[vCo x ul uy un um, .int .i64 1] w fun e w' => e = .returned (.int .i64 (kCo x : Int)) ∧ Below w.heap.size w w' := by
  have hb0 : Below w.heap.size w (w.alloc (.cells #[.int .i64 x.id, .int .i64 x.peers, .int .i64 x.term, .int .i64 x.vote, .int .i64 x.role, .int .i64 x.lead, .int .i64 x.base, .int .i64 x.bterm, ul, .int .i64 x.commit, uy, un, um] 30)) := (Below.refl _ _).alloc (Nat.le_refl _) _
  have HR := Hid.mk (hv.on hb0)
  have B0 : Hid (Below w.heap.size w (w.alloc (.cells #[.int .i64 x.id, .int .i64 x.peers, .int .i64 x.term, .int .i64 x.vote, .int .i64 x.role, .int .i64 x.lead, .int .i64 x.base, .int .i64 x.bterm, ul, .int .i64 x.commit, uy, un, um] 30))) := hb0
  have K0 := Hid.mk (Blk.new w #[.int .i64 x.id, .int .i64 x.peers, .int .i64 x.term, .int .i64 x.vote, .int .i64 x.role, .int .i64 x.lead, .int .i64 x.base, .int .i64 x.bterm, ul, .int .i64 x.commit, uy, un, um] 30)
  have HS : Hid (ShortC x) := hs
  have HKc : Hid (kCo x = 1 + 2 * x.log.length + x.yes.length + x.nxt.length + x.mat.length) := rfl
  obtain ⟨A0, m0, k0, e0⟩ : ∃ A m k, ul = .slice A m k := by obtain ⟨A, c, e⟩ := hv.l.shape; exact ⟨A, _, c, e⟩
  obtain ⟨A1, m1, k1, e1⟩ : ∃ A m k, uy = .slice A m k := by obtain ⟨A, c, e, _⟩ := hv.y.shape; exact ⟨A, _, c, e⟩
  obtain ⟨A2, m2, k2, e2⟩ : ∃ A m k, un = .slice A m k := by obtain ⟨A, c, e, _⟩ := hv.n.shape; exact ⟨A, _, c, e⟩
  obtain ⟨A3, m3, k3, e3⟩ : ∃ A m k, um = .slice A m k := by obtain ⟨A, c, e, _⟩ := hv.m.shape; exact ⟨A, _, c, e⟩
  subst e0 e1 e2 e3
  unfold vCo
  clear hb0 hv hs
  go_enter Try.func25, Try.ntmps25
  go_wp2_with fail
  generalize w.alloc (.cells #[.int .i64 x.id, .int .i64 x.peers, .int .i64 x.term, .int .i64 x.vote, .int .i64 x.role, .int .i64 x.lead, .int .i64 x.base, .int .i64 x.bterm, .slice A0 m0 k0, .int .i64 x.commit, .slice A1 m1 k1, .slice A2 m2 k2, .slice A3 m3 k3] 30) = W at *
  refine (heldEntryS 1 x.log.length (.slice A0 m0 k0) W W.heap.size HR.out.l.lies HS.out.n (by omega) (by omega) (Nat.le_refl _)).mono ?_
  rintro e W1 ⟨rfl, hb1⟩
  have R1 := Hid.mk (HR.out.on hb1)
  have K1 : Hid (Blk W1 w.heap.size #[.int .i64 x.id, .int .i64 x.peers, .int .i64 x.term, .int .i64 x.vote, .int .i64 x.role, .int .i64 x.lead, .int .i64 x.base, .int .i64 x.bterm, .slice A0 m0 k0, .int .i64 x.commit, .slice A1 m1 k1, .slice A2 m2 k2, .slice A3 m3 k3] 30) := K0.out.on hb1 K0.out.lt
  have B1 : Hid (Below w.heap.size w W1) := B0.out.trans (hb1.mono B0.out.size)
  have j10 := K1.out.cell 10 _ rfl
  have j11 := K1.out.cell 11 _ rfl
  have j12 := K1.out.cell 12 _ rfl
  have HLn := Hid.mk HS.out.n
  have HLy := Hid.mk HS.out.y
  have HLx := Hid.mk HS.out.q
  have HLm := Hid.mk HS.out.m
  have hy := R1.out.y
  have hn := R1.out.n
  have hm := R1.out.m
  clear hb1 K0 HR R1
  generalize hq1 : 1 + 2 * x.log.length = r1 at *
  have HQ1 : Hid (1 + 2 * x.log.length = r1) := hq1
  clear hq1
  generalize hq2 : r1 + x.yes.length = r2 at *
  have HQ2 : Hid (r1 + x.yes.length = r2) := hq2
  clear hq2
  generalize hq3 : r2 + x.nxt.length = r3 at *
  have HQ3 : Hid (r2 + x.nxt.length = r3) := hq3
  clear hq3
  have c1 := heldIntS r1 base x.yes.length (.slice A1 m1 k1) W1 hy (by have := HLy.out; omega) (by have := HQ1.out; have := HLn.out; omega)
  have c2 := heldIntS r2 base x.nxt.length (.slice A2 m2 k2) W1 hn (by have := HLx.out; omega) (by have := HQ1.out; have := HLn.out; have := HQ2.out; have := HLy.out; omega)
  have c3 := heldIntS r3 base x.mat.length (.slice A3 m3 k3) W1 hm (by have := HLm.out; omega) (by have := HQ1.out; have := HLn.out; have := HQ2.out; have := HLy.out; have := HQ3.out; have := HLx.out; omega)
  rw [HQ2.out] at c1
  rw [HQ3.out] at c2
  have HF : Hid (kCo x = r3 + x.mat.length) := HKc.out
  clear hy hn hm
  generalize r3 + x.mat.length = r4 at *
  have e1 : decide ((r1 : Int) < 0) = false := decide_eq_false (by omega)
  have e2 : decide ((r2 : Int) < 0) = false := decide_eq_false (by omega)
  have e3 : decide ((r3 : Int) < 0) = false := decide_eq_false (by omega)
  have e4 : decide ((r4 : Int) < 0) = false := decide_eq_false (by omega)
  go_wp2_with fail
  refine c1.mono ?_
  rintro e w' ⟨rfl, rfl⟩
  go_wp2_with fail
  refine c2.mono ?_
  rintro e w' ⟨rfl, rfl⟩
  go_wp2_with fail
  refine c3.mono ?_
  rintro e w' ⟨rfl, rfl⟩
  go_wp2_with fail
  go_ret
  exact ⟨by rw [HF.out]; rfl, B1.out⟩
end Go.Proofs.Ytjejcpieajeflaa
