/- MgLaw LawReadMsg -/
import Derived.Test.YtimfnbnffibgpaaGreatDoorRows
import Derived.Deep.Cut
import Derived.Test.YtimfnbnffibgpaaGreatDoorQx1
import Derived.Test.YtimfnbnffibgpaaGreatDoorQx16
import Derived.Test.YtimfnbnffibgpaaGreatDoorQx18
import Derived.Test.YtimfnbnffibgpaaGreatDoorQx17
namespace Go.Proofs.YtimfnbnffibgpaaGreatDoor
open Go.ChangeShapes Go.WideShapes Go.ChangeAt Go.RowKit Go.PlainAid
set_option linter.unusedVariables false
set_option maxHeartbeats 4000000 in
theorem eqMsg (x : Mg) (va vb : Value) (w : World) (B : Nat) (ha : MgV w B va x) (hb : MgV w B vb x) (hn : x.ents.length ≤ 1048576) (hB : B ≤ w.heap.size) :
  Calls Tryz.prog 10 #[va, vb] w fun e w' => e = .returned (.bool true) ∧ Below w.heap.size w w' := by
 obtain ⟨ua, rfl, al⟩ := ha
 obtain ⟨ub, rfl, bl⟩ := hb
 unfold vMg
 have HB : Hid (B ≤ w.heap.size) := hB
 have AL : Hid (Lies w B 2 ua (entR x.ents)) := al
 have BL : Hid (Lies w B 2 ub (entR x.ents)) := bl
 have L1 : Hid (x.ents.length ≤ 1048576) := hn
 have ny : (x.yes != x.yes) = false := by cases x.yes <;> rfl
 clear al bl hn hB
 have hb0 := below_alloc2 w (.cells #[.int .i64 x.kind, .int .i64 x.frm, .int .i64 x.dst, .int .i64 x.term, .int .i64 x.index, .int .i64 x.iterm, .int .i64 x.commit, .bool x.yes, ua, .string x.data] 29) (.cells #[.int .i64 x.kind, .int .i64 x.frm, .int .i64 x.dst, .int .i64 x.term, .int .i64 x.index, .int .i64 x.iterm, .int .i64 x.commit, .bool x.yes, ub, .string x.data] 29)
 have bA := (Blk.new w #[.int .i64 x.kind, .int .i64 x.frm, .int .i64 x.dst, .int .i64 x.term, .int .i64 x.index, .int .i64 x.iterm, .int .i64 x.commit, .bool x.yes, ua, .string x.data] 29).alloc (.cells #[.int .i64 x.kind, .int .i64 x.frm, .int .i64 x.dst, .int .i64 x.term, .int .i64 x.index, .int .i64 x.iterm, .int .i64 x.commit, .bool x.yes, ub, .string x.data] 29)
 have bB := Blk.new (w.alloc (.cells #[.int .i64 x.kind, .int .i64 x.frm, .int .i64 x.dst, .int .i64 x.term, .int .i64 x.index, .int .i64 x.iterm, .int .i64 x.commit, .bool x.yes, ua, .string x.data] 29)) #[.int .i64 x.kind, .int .i64 x.frm, .int .i64 x.dst, .int .i64 x.term, .int .i64 x.index, .int .i64 x.iterm, .int .i64 x.commit, .bool x.yes, ub, .string x.data] 29
 simp only [World.size_alloc] at bA bB
 obtain ⟨W, hW⟩ : ∃ W, W = (w.alloc (.cells #[.int .i64 x.kind, .int .i64 x.frm, .int .i64 x.dst, .int .i64 x.term, .int .i64 x.index, .int .i64 x.iterm, .int .i64 x.commit, .bool x.yes, ua, .string x.data] 29)).alloc (.cells #[.int .i64 x.kind, .int .i64 x.frm, .int .i64 x.dst, .int .i64 x.term, .int .i64 x.index, .int .i64 x.iterm, .int .i64 x.commit, .bool x.yes, ub, .string x.data] 29) := ⟨_, rfl⟩
 rw [← hW] at hb0 bA bB
 have B0 : Hid (Below w.heap.size w W) := hb0
 have BA := Hid.mkM bA
 have BB := Hid.mkM bB
 go_enter Tryz.func10, Tryz.ntmps10
 clear hb0 bA bB
 go_wp2_with fail
 rw [← hW]
 clear hW
 refine (eqEntryS x.ents ua ub W B (AL.out.on (B0.out.mono HB.out)) (BL.out.on (B0.out.mono HB.out)) L1.out (Nat.le_trans HB.out B0.out.size)).mono ?_
 rintro e w2 ⟨rfl, hb2⟩
 have B2 : Hid (Below w.heap.size w w2) := B0.out.trans (hb2.mono B0.out.size)
 have p9 := (BA.out.on hb2 BA.out.lt).cell 9 _ rfl
 have q9 := (BB.out.on hb2 BB.out.lt).cell 9 _ rfl
 clear hb2
 go_wp2_with fail
 go_ret
 exact ⟨rfl, B2.out⟩
set_option maxHeartbeats 2000000 in
theorem markMsg (x : Mg) (u : Value) (base : Nat) (w : World) (hv : Owns w base 57 2 u (entR x.ents)) (hl : x.ents.length ≤ 1048576) (hbase : base ≤ w.heap.size) :
  Calls Tryz.prog 15 #[vMg x u, .int .i64 1] w fun e w' => e = .returned (.int .i64 ((1 + 2 * x.ents.length : Nat) : Int)) ∧ Owns w' base 57 2 u (newR (mkEnt 1) x.ents.length) ∧ Below base w w' ∧ (∀ g, g < w.heap.size → u.ownBlock ≠ some g → w'.heap[g]? = w.heap[g]?) := by
 unfold vMg
 obtain ⟨A, m, c, rfl⟩ := hv.shape
 have bx : Below w.heap.size w (w.alloc (.cells #[.int .i64 x.kind, .int .i64 x.frm, .int .i64 x.dst, .int .i64 x.term, .int .i64 x.index, .int .i64 x.iterm, .int .i64 x.commit, .bool x.yes, .slice A m c, .string x.data] 29)) := (Below.refl _ _).alloc (Nat.le_refl _) _
 have HB : Hid (base ≤ w.heap.size) := hbase
 have BX := Hid.mkM bx
 have c1 := markEntryS 1 base (.slice A m c) (entR x.ents) _ (hv.on bx) (by rw [entR_length]; exact hl) (by omega) (by omega) (Nat.le_trans hbase bx.size)
 rw [entR_length] at c1
 clear hv bx hbase
 generalize 1 + 2 * x.ents.length = kk at *
 go_enter Tryz.func15, Tryz.ntmps15
 go_wp2_with fail
 refine c1.mono ?_
 rintro e w1 ⟨rfl, hO, hb, hk⟩
 have R := Hid.mkM (show _ ∧ _ ∧ _ from ⟨hO, (BX.out.mono HB.out).trans hb, fun g hg hn => (hk g (Nat.lt_of_lt_of_le hg BX.out.size) hn).trans (BX.out.block g hg)⟩)
 clear hO hb hk
 go_wp2_with fail
 go_ret
 exact ⟨rfl, R.out⟩
set_option maxHeartbeats 2000000 in
theorem heldMsg (x : Mg) (u : Value) (base : Nat) (w : World) (hv : Owns w base 57 2 u (newR (mkEnt 1) x.ents.length)) (hl : x.ents.length ≤ 1048576) :
  Calls Tryz.prog 16 #[vMg x u, .int .i64 1] w fun e w' => e = .returned (.int .i64 ((1 + 2 * x.ents.length : Nat) : Int)) ∧ Below w.heap.size w w' := by
 unfold vMg
 obtain ⟨A, m, c, rfl⟩ := hv.shape
 have bx : Below w.heap.size w (w.alloc (.cells #[.int .i64 x.kind, .int .i64 x.frm, .int .i64 x.dst, .int .i64 x.term, .int .i64 x.index, .int .i64 x.iterm, .int .i64 x.commit, .bool x.yes, .slice A m c, .string x.data] 29)) := (Below.refl _ _).alloc (Nat.le_refl _) _
 have BX := Hid.mkM bx
 have c1 := heldEntryS 1 x.ents.length (.slice A m c) _ _ (hv.on bx).lies hl (by omega) (by omega) (Nat.le_refl _)
 have dk : decide (((1 + 2 * x.ents.length : Nat) : Int) < 0) = false := decide_eq_false (by omega)
 clear hv bx
 generalize 1 + 2 * x.ents.length = kk at *
 go_enter Tryz.func16, Tryz.ntmps16
 go_wp2_with fail
 refine c1.mono ?_
 rintro e w1 ⟨rfl, hb⟩
 have R := Hid.mkM (BX.out.trans (hb.mono BX.out.size))
 clear hb
 go_wp2_with fail
 go_ret
 exact ⟨rfl, R.out⟩
end Go.Proofs.YtimfnbnffibgpaaGreatDoor
namespace Go.Proofs.YtimfnbnffibgpaaGreatDoor
open Go.ChangeShapes Go.WideShapes Go.ChangeAt Go.RowKit Go.PlainAid
set_option linter.unusedVariables false
theorem Owns.notM {w : World} {base : Nat} {e t : TypeId} {sz g : Nat} {cs : Array Value} {v : Value} {rows : List (List Value)} (h : Owns w base e sz v rows) (hb : Blk w g cs t) (hne : e ≠ t) : v.ownBlock ≠ some g := fun hv => by
 obtain ⟨c, fz, e1⟩ := Lib.ownsRow_kind h.2 g hv
 have e2 : w.heap[g]? = some (.cells cs t (0, 0)) := hb
 rw [e2] at e1
 cases e1
 exact hne rfl
set_option maxRecDepth 20000 in
set_option maxHeartbeats 8000000 in
theorem law_fnExactReadMsg (s : ByteArray) (w : World) (hs : s.size ≤ maxLen) (hst : SumTab w) (a0 a1 a2 : Addr) (he : Errs w a0 a1 a2) : Calls Tryz.prog 5 #[.string s] w fun e w' => e = .returned (.bool true) ∧ Below w.heap.size w w' := by
 have ST : Hid (SumTab w) := hst
 have ER : Hid (Errs w a0 a1 a2) := he
 have q0 : (s.size : Int) ≤ 9223372036854775807 := by unfold maxLen at hs; omega
 clear hst he hs
 by_cases hbig : (1048576 : Int) < (s.size : Int)
 ·go_enter Tryz.func5, Tryz.ntmps5
  go_wp2_with fail
  go_ret
  exact ⟨rfl, Below.refl _ _⟩
 have HS : Hid (s.size ≤ 1048576) := by unfold Hid; omega
 have q1 : (s.size : Int) ≤ 1048576 := by omega
 clear hbig
 go_enter Tryz.func5, Tryz.ntmps5
 go_wp2_with fail
 refine (specReadMsg s w HS.out).mono ?_
 rintro e X1 ⟨⟨x, u1, ok, hN, rfl, hO⟩, hb⟩
 have B1 : Hid (Below w.heap.size w X1) := hb
 have HN := Hid.mkM hN
 have H4 : Hid (x.ents.length ≤ 4) := hN.few
 obtain ⟨A1, m1, c1, rfl, ho1⟩ := hO.shape
 have cI : ∀ wx, Below w.heap.size w wx → Calls Tryz.prog 14 #[.string s] wx fun e w' => (∃ A m c, e = .returned (.tuple #[.agg #[.int .i64 x.kind, .int .i64 x.frm, .int .i64 x.dst, .int .i64 x.term, .int .i64 x.index, .int .i64 x.iterm, .int .i64 x.commit, .bool x.yes, .slice A m c, .string x.data], .bool ok]) ∧ Owns w' wx.heap.size 57 2 (.slice A m c) (entR x.ents)) ∧ Below wx.heap.size wx w' := fun wx hx => by
  refine (implReadMsg s wx HS.out (ST.out.on hx) a0 a1 a2 (ER.out.on hx)).mono ?_
  rintro e w' ⟨⟨y, u, c, hN', rfl, hO'⟩, hb'⟩
  obtain ⟨e1, e2⟩ := hN'.one HN.out
  rw [e1] at hO'
  rw [e2]
  obtain ⟨A, m, c, rfl, ho⟩ := hO'.shape
  exact ⟨⟨_, _, _, rfl, ho⟩, hb'⟩
 have cE := fun (wx : World) (A1 A2 : Option Addr) (m1 c1 m2 c2 b1 b2 : Nat) (h1 : Owns wx b1 57 2 (.slice A1 m1 c1) (entR x.ents)) (h2 : Owns wx b2 57 2 (.slice A2 m2 c2) (entR x.ents)) => eqMsg x (.agg #[.int .i64 x.kind, .int .i64 x.frm, .int .i64 x.dst, .int .i64 x.term, .int .i64 x.index, .int .i64 x.iterm, .int .i64 x.commit, .bool x.yes, .slice A1 m1 c1, .string x.data]) (.agg #[.int .i64 x.kind, .int .i64 x.frm, .int .i64 x.dst, .int .i64 x.term, .int .i64 x.index, .int .i64 x.iterm, .int .i64 x.commit, .bool x.yes, .slice A2 m2 c2, .string x.data]) wx wx.heap.size ⟨_, rfl, h1.lies⟩ ⟨_, rfl, h2.lies⟩ (by have := H4.out; omega) (Nat.le_refl _)
 have cM := fun (u : Value) (base : Nat) (wx : World) h1 h2 => markMsg x u base wx h1 (by have := H4.out; omega) h2
 have cH := fun (u : Value) (base : Nat) (wx : World) h1 => heldMsg x u base wx h1 (by have := H4.out; omega)
 unfold vMg at cM cH
 have h4 := H4.out
 have O1 := Hid.mkM ho1
 clear hN HN hO ho1 hb
 generalize hkk : 1 + 2 * x.ents.length = kk at *
 have dk : decide ((kk : Int) < 0) = false := decide_eq_false (by omega)
 have qk : (kk : Int) ≤ 100 := by omega
 clear hkk h4
 generalize newR (mkEnt 1) x.ents.length = RM at *
 generalize entR x.ents = RE at *
 generalize x.kind = x0 at *
 generalize x.frm = x1 at *
 generalize x.dst = x2 at *
 generalize x.term = x3 at *
 generalize x.index = x4 at *
 generalize x.iterm = x5 at *
 generalize x.commit = x6 at *
 generalize x.yes = x7 at *
 generalize x.data = x9 at *
 have hok : (ok != ok) = false := by cases ok <;> rfl
 obtain ⟨X2, hX2⟩ : ∃ X2, X2 = X1.alloc (.cells #[.int .i64 x0, .int .i64 x1, .int .i64 x2, .int .i64 x3, .int .i64 x4, .int .i64 x5, .int .i64 x6, .bool x7, .slice A1 m1 c1, .string x9] 29) := ⟨_, rfl⟩
 have BX : Below X1.heap.size X1 X2 := by rw [hX2]; exact (Below.refl _ _).alloc (Nat.le_refl _) _
 have B2 : Hid (Below w.heap.size w X2) := B1.out.trans (BX.mono B1.out.size)
 have W2 := Hid.mkM (O1.out.on BX)
 have KW : Hid (Blk X2 X1.heap.size #[.int .i64 x0, .int .i64 x1, .int .i64 x2, .int .i64 x3, .int .i64 x4, .int .i64 x5, .int .i64 x6, .bool x7, .slice A1 m1 c1, .string x9] 29) := by unfold Hid; rw [hX2]; exact Blk.new X1 _ _
 clear BX B1 O1
 go_wp2_with fail
 rw [← hX2]
 clear hX2
 refine (cI _ B2.out).mono ?_
 rintro e X3 ⟨⟨A2, m2, c2, rfl, ho⟩, hb⟩
 have C3 : Hid (Below X2.heap.size X2 X3) := hb
 obtain ⟨X4, hX4⟩ : ∃ X4, X4 = X3.alloc (.cells #[.int .i64 x0, .int .i64 x1, .int .i64 x2, .int .i64 x3, .int .i64 x4, .int .i64 x5, .int .i64 x6, .bool x7, .slice A2 m2 c2, .string x9] 29) := ⟨_, rfl⟩
 have BX : Below X3.heap.size X3 X4 := by rw [hX4]; exact (Below.refl _ _).alloc (Nat.le_refl _) _
 have C4 : Hid (Below X2.heap.size X2 X4) := C3.out.trans (BX.mono C3.out.size)
 have G4 := Hid.mkM (ho.on BX)
 have KG : Hid (Blk X4 X3.heap.size #[.int .i64 x0, .int .i64 x1, .int .i64 x2, .int .i64 x3, .int .i64 x4, .int .i64 x5, .int .i64 x6, .bool x7, .slice A2 m2 c2, .string x9] 29) := by unfold Hid; rw [hX4]; exact Blk.new X3 _ _
 have KW4 := Hid.mkM (KW.out.on C4.out KW.out.lt)
 clear ho BX hb
 generalize X1.heap.size = GW at *
 have g0 := KG.out.cell 0 _ rfl
 have g1 := KG.out.cell 1 _ rfl
 have g2 := KG.out.cell 2 _ rfl
 have g3 := KG.out.cell 3 _ rfl
 have g4 := KG.out.cell 4 _ rfl
 have g5 := KG.out.cell 5 _ rfl
 have g6 := KG.out.cell 6 _ rfl
 have g7 := KG.out.cell 7 _ rfl
 have g8 := KG.out.cell 8 _ rfl
 have g9 := KG.out.cell 9 _ rfl
 have h0 := KW4.out.cell 0 _ rfl
 have h1 := KW4.out.cell 1 _ rfl
 have h2 := KW4.out.cell 2 _ rfl
 have h3 := KW4.out.cell 3 _ rfl
 have h4 := KW4.out.cell 4 _ rfl
 have h5 := KW4.out.cell 5 _ rfl
 have h6 := KW4.out.cell 6 _ rfl
 have h7 := KW4.out.cell 7 _ rfl
 have h8 := KW4.out.cell 8 _ rfl
 have h9 := KW4.out.cell 9 _ rfl
 rw [hX4] at g0 g1 g2 g3 g4 g5 g6 g7 g8 g9 h0 h1 h2 h3 h4 h5 h6 h7 h8 h9
 go_wp2_with fail
 rw [← hX4]
 clear hX4 g0 g1 g2 g3 g4 g5 g6 g7 g8 g9 h0 h1 h2 h3 h4 h5 h6 h7 h8 h9
 generalize X3.heap.size = G at *
 refine (cE _ _ _ _ _ _ _ _ _ G4.out (W2.out.on C4.out)).mono ?_
 rintro e X5 ⟨rfl, hb⟩
 have C5 : Hid (Below X2.heap.size X2 X5) := C4.out.trans (hb.mono C4.out.size)
 have G5 := Hid.mkM (G4.out.on hb)
 have K5 := Hid.mkM (KG.out.on hb KG.out.lt)
 clear hb G4 KG KW4
 have g0 := K5.out.cell 0 _ rfl
 have g1 := K5.out.cell 1 _ rfl
 have g2 := K5.out.cell 2 _ rfl
 have g3 := K5.out.cell 3 _ rfl
 have g4 := K5.out.cell 4 _ rfl
 have g5 := K5.out.cell 5 _ rfl
 have g6 := K5.out.cell 6 _ rfl
 have g7 := K5.out.cell 7 _ rfl
 have g8 := K5.out.cell 8 _ rfl
 have g9 := K5.out.cell 9 _ rfl
 go_wp2_with fail
 refine (cM _ _ _ G5.out C5.out.size).mono ?_
 rintro e X6 ⟨rfl, hM, hb, hk⟩
 have C6 : Hid (Below X2.heap.size X2 X6) := C5.out.trans hb
 have M6 := Hid.mkM hM
 have K6 : Hid (Blk X6 G #[.int .i64 x0, .int .i64 x1, .int .i64 x2, .int .i64 x3, .int .i64 x4, .int .i64 x5, .int .i64 x6, .bool x7, .slice A2 m2 c2, .string x9] 29) := (hk _ K5.out.lt (G5.out.notM K5.out (by decide))).trans K5.out
 clear hM hb hk cM G5 K5 g0 g1 g2 g3 g4 g5 g6 g7 g8 g9
 have g0 := K6.out.cell 0 _ rfl
 have g1 := K6.out.cell 1 _ rfl
 have g2 := K6.out.cell 2 _ rfl
 have g3 := K6.out.cell 3 _ rfl
 have g4 := K6.out.cell 4 _ rfl
 have g5 := K6.out.cell 5 _ rfl
 have g6 := K6.out.cell 6 _ rfl
 have g7 := K6.out.cell 7 _ rfl
 have g8 := K6.out.cell 8 _ rfl
 have g9 := K6.out.cell 9 _ rfl
 go_wp2_with fail
 refine (cH _ _ _ M6.out).mono ?_
 rintro e X7 ⟨rfl, hb⟩
 have C7 : Hid (Below X2.heap.size X2 X7) := C6.out.trans (hb.mono C6.out.size)
 have M7 := Hid.mkM (M6.out.on hb)
 have K7 := Hid.mkM (K6.out.on hb K6.out.lt)
 clear hb M6 K6 g0 g1 g2 g3 g4 g5 g6 g7 g8 g9
 go_wp2_with fail
 refine (cI _ (B2.out.trans (C7.out.mono B2.out.size))).mono ?_
 rintro e X8 ⟨⟨A3, m3, c3, rfl, ho⟩, hb⟩
 have C8 : Hid (Below X2.heap.size X2 X8) := C7.out.trans (hb.mono C7.out.size)
 have M8 := Hid.mkM (M7.out.on hb)
 have K8 := Hid.mkM (K7.out.on hb K7.out.lt)
 obtain ⟨X9, hX9⟩ : ∃ X9, X9 = X8.alloc (.cells #[.int .i64 x0, .int .i64 x1, .int .i64 x2, .int .i64 x3, .int .i64 x4, .int .i64 x5, .int .i64 x6, .bool x7, .slice A3 m3 c3, .string x9] 29) := ⟨_, rfl⟩
 have BX : Below X8.heap.size X8 X9 := by rw [hX9]; exact (Below.refl _ _).alloc (Nat.le_refl _) _
 have C9 : Hid (Below X2.heap.size X2 X9) := C8.out.trans (BX.mono C8.out.size)
 have M9 := Hid.mkM (M8.out.on BX)
 have K9 := Hid.mkM (K8.out.on BX K8.out.lt)
 have O9 := Hid.mkM (ho.on BX)
 have KH : Hid (Blk X9 X8.heap.size #[.int .i64 x0, .int .i64 x1, .int .i64 x2, .int .i64 x3, .int .i64 x4, .int .i64 x5, .int .i64 x6, .bool x7, .slice A3 m3 c3, .string x9] 29) := by unfold Hid; rw [hX9]; exact Blk.new X8 _ _
 have KW9 := Hid.mkM (KW.out.on C9.out KW.out.lt)
 clear ho BX hb M7 M8 K7 K8
 have g0 := KH.out.cell 0 _ rfl
 have g1 := KH.out.cell 1 _ rfl
 have g2 := KH.out.cell 2 _ rfl
 have g3 := KH.out.cell 3 _ rfl
 have g4 := KH.out.cell 4 _ rfl
 have g5 := KH.out.cell 5 _ rfl
 have g6 := KH.out.cell 6 _ rfl
 have g7 := KH.out.cell 7 _ rfl
 have g8 := KH.out.cell 8 _ rfl
 have g9 := KH.out.cell 9 _ rfl
 have h0 := KW9.out.cell 0 _ rfl
 have h1 := KW9.out.cell 1 _ rfl
 have h2 := KW9.out.cell 2 _ rfl
 have h3 := KW9.out.cell 3 _ rfl
 have h4 := KW9.out.cell 4 _ rfl
 have h5 := KW9.out.cell 5 _ rfl
 have h6 := KW9.out.cell 6 _ rfl
 have h7 := KW9.out.cell 7 _ rfl
 have h8 := KW9.out.cell 8 _ rfl
 have h9 := KW9.out.cell 9 _ rfl
 rw [hX9] at g0 g1 g2 g3 g4 g5 g6 g7 g8 g9 h0 h1 h2 h3 h4 h5 h6 h7 h8 h9
 go_wp2_with fail
 rw [← hX9]
 clear hX9 g0 g1 g2 g3 g4 g5 g6 g7 g8 g9 h0 h1 h2 h3 h4 h5 h6 h7 h8 h9
 refine (cE _ _ _ _ _ _ _ _ _ O9.out (W2.out.on C9.out)).mono ?_
 rintro e X10 ⟨rfl, hb⟩
 have C10 : Hid (Below X2.heap.size X2 X10) := C9.out.trans (hb.mono C9.out.size)
 have M10 := Hid.mkM (M9.out.on hb)
 have K10 := Hid.mkM (K9.out.on hb K9.out.lt)
 clear hb M9 K9 O9 KH KW9
 have g0 := K10.out.cell 0 _ rfl
 have g1 := K10.out.cell 1 _ rfl
 have g2 := K10.out.cell 2 _ rfl
 have g3 := K10.out.cell 3 _ rfl
 have g4 := K10.out.cell 4 _ rfl
 have g5 := K10.out.cell 5 _ rfl
 have g6 := K10.out.cell 6 _ rfl
 have g7 := K10.out.cell 7 _ rfl
 have g8 := K10.out.cell 8 _ rfl
 have g9 := K10.out.cell 9 _ rfl
 go_wp2_with fail
 refine (cH _ _ _ M10.out).mono ?_
 rintro e X11 ⟨rfl, hb⟩
 have BF : Hid (Below w.heap.size w X11) := B2.out.trans ((C10.out.trans (hb.mono C10.out.size)).mono B2.out.size)
 clear hb
 go_wp2_with fail
 go_ret
 exact ⟨rfl, BF.out⟩
end Go.Proofs.YtimfnbnffibgpaaGreatDoor
