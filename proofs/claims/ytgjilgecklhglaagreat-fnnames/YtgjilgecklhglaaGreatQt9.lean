/- DkRen DkDrop ImSettle DkSyncDirI CrCut ImSettleG CrMix -/
import Derived.Test.YtgjilgecklhglaaGreatRows
import Derived.Test.YtgjilgecklhglaaGreatQt8
import Derived.Test.YtgjilgecklhglaaGreatQt3
import Derived.Test.YtgjilgecklhglaaGreatQt1
import Derived.Test.YtgjilgecklhglaaGreatQt5
import Derived.Test.YtgjilgecklhglaaGreatQt4
import Derived.Maps.RangeWalk
import Derived.Carry
import Derived.Laws.Small
import Derived.Test.YtgjilgecklhglaaGreatQt0
open List (setIfInBounds_toArray set_cons_zero set_cons_succ)
namespace Go.Proofs.YtgjilgecklhglaaGreat
open Go.ChangeShapes Go.WideShapes Go.ChangeAt Go.RowKit Go.PlainAid
set_option linter.unusedVariables false
def renC (d : Dsk) (src dest : ByteArray) : Int := if nameOk dest = false ∨ src = dest then 1 else named d src
theorem renC_bad {d : Dsk} {src dest : ByteArray} (h : nameOk dest = false ∨ src = dest) : renC d src dest = 1 := by unfold renC; rw [if_pos h]
theorem renC_ok {d : Dsk} {src dest : ByteArray} (h : ¬ (nameOk dest = false ∨ src = dest)) : renC d src dest = named d src := by unfold renC; rw [if_neg h]
set_option maxHeartbeats 1000000 in
theorem renameFileV (w : World) (base p : Nat) (d : Dsk) (bi bd bw : Nat) (gs : List Nat) (u : Value) (src dest : ByteArray) (h : OpenD w base p d bi bd bw gs u) (hd : Whole d) (hw : wtD d ≤ 1048576) (hs : src.size ≤ maxLen) (hs' : dest.size ≤ maxLen) (hB : base ≤ w.heap.size) :
  Calls Tryz.prog 91 #[.pointer (some ⟨p, 0, none⟩), .string src, .string dest] w fun e w' => e = .returned (.int .i64 (movedC d ⟨2, src, dest, 0⟩ (renC d src dest)).2) ∧ Tellable w' p (movedC d ⟨2, src, dest, 0⟩ (renC d src dest)).1 ∧ Below base w w' := by
 have cF := findI w base p d bi bd bw gs u src h hd hs
 have cI := isNameV dest w (by unfold maxLen at hs'; omega)
 have HT : Hid (Tellable w p d) := h.tell hd hw
 have cM := fun (hn : nameOk src = true) (hn' : nameOk dest = true) => addMoveV w base p d bi bd bw gs u 2 src dest 0 h hd hw (by have := name_size hn; omega) (by have := name_size hn'; omega) hB
 have heq := toList_beq src dest
 clear h hd hw hs hs' hB
 cases hno : nameOk dest with
 | false =>
  rw [hno] at cI
  have HR : Hid (movedC d ⟨2, src, dest, 0⟩ (renC d src dest) = (d, 1)) := by unfold Hid; rw [renC_bad (.inl hno), movedC_no (by omega)]
  clear cM cF hno heq
  go_enter Tryz.func91, Tryz.ntmps91
  go_wp2_with fail
  refine cI.mono ?_
  rintro e w1 ⟨rfl, rfl⟩
  go_wp2_with fail
  go_ret
  exact ⟨by rw [HR.out]; rfl, by rw [HR.out]; exact HT.out, Below.refl _ _⟩
 | true =>
  rw [hno] at cI
  by_cases hst : src = dest
  ·have HR : Hid (movedC d ⟨2, src, dest, 0⟩ (renC d src dest) = (d, 1)) := by unfold Hid; rw [renC_bad (.inr hst), movedC_no (by omega)]
   rw [decide_eq_true hst] at heq
   clear cM cF hno hst
   go_enter Tryz.func91, Tryz.ntmps91
   go_wp2_with fail
   refine cI.mono ?_
   rintro e w1 ⟨rfl, rfl⟩
   go_wp2_with fail
   go_ret
   exact ⟨by rw [HR.out]; rfl, by rw [HR.out]; exact HT.out, Below.refl _ _⟩
  ·rw [decide_eq_false hst] at heq
   have HRC : Hid (renC d src dest = named d src) := renC_ok (by rintro (h1 | h1); rw [hno] at h1; cases h1; exact hst h1)
   have cM := fun hn => cM hn hno
   clear hno hst
   go_enter Tryz.func91, Tryz.ntmps91
   go_wp2_with fail
   refine cI.mono ?_
   rintro e w1 ⟨rfl, rfl⟩
   go_wp2_with fail
   refine cF.mono ?_
   rintro e w1 ⟨rfl, hF⟩
   clear cF cI
   rcases hF with ⟨hn, rfl⟩ | ⟨hn, hf, rfl⟩ | ⟨hn, j, hf, hj, rfl⟩
   ·have HR : Hid (movedC d ⟨2, src, dest, 0⟩ (renC d src dest) = (d, 1)) := by unfold Hid; rw [HRC.out, named_bad hn, movedC_no (by omega)]
    clear hn cM
    go_wp2_with fail
    go_ret
    exact ⟨by rw [HR.out]; rfl, by rw [HR.out]; exact HT.out, Below.refl _ _⟩
   ·have HR : Hid (movedC d ⟨2, src, dest, 0⟩ (renC d src dest) = (d, 2)) := by unfold Hid; rw [HRC.out, named_none hn hf, movedC_no (by omega)]
    clear hn hf cM
    go_wp2_with fail
    go_ret
    exact ⟨by rw [HR.out]; rfl, by rw [HR.out]; exact HT.out, Below.refl _ _⟩
   ·have HR : Hid (movedC d ⟨2, src, dest, 0⟩ (renC d src dest) = movedD d ⟨2, src, dest, 0⟩) := by unfold Hid; rw [HRC.out, named_some hn hf, movedC_yes]
    have cM := cM hn
    clear hn hf hj
    generalize movedD d ⟨2, src, dest, 0⟩ = RR at *
    go_wp2_with fail
    refine cM.mono ?_
    rintro e w2 ⟨rfl, hT, hb⟩
    have HT2 : Hid (Tellable w2 p RR.1) := hT
    clear hT cM
    go_wp2_with fail
    go_ret
    exact ⟨by rw [HR.out]; rfl, by rw [HR.out]; exact HT2.out, hb⟩
def renameR (d : Dsk) (src : ByteArray) (dest : ByteArray) : Dsk × Int := if diskOk d = true then ((movedC d ⟨2, src, dest, 0⟩ (renC d src dest)).1, (movedC d ⟨2, src, dest, 0⟩ (renC d src dest)).2) else (zeroD, 1)
theorem renameR_yes {d : Dsk} {src dest : ByteArray} (h : diskOk d = true) : renameR d src dest = ((movedC d ⟨2, src, dest, 0⟩ (renC d src dest)).1, (movedC d ⟨2, src, dest, 0⟩ (renC d src dest)).2) := by unfold renameR; rw [if_pos h]
theorem renameR_no {d : Dsk} {src dest : ByteArray} (h : diskOk d = false) : renameR d src dest = (zeroD, 1) := by unfold renameR; rw [if_neg (by rw [h]; simp)]
set_option maxRecDepth 20000 in
set_option maxHeartbeats 4000000 in
theorem specRenameV (d : Dsk) (v : Value) (src dest : ByteArray) (w : World) (B : Nat) (hv : DiskV w B v d) (hf : Fits d) (hw : wtD d ≤ 1048576) (hB : B ≤ w.heap.size) (hs : src.size ≤ maxLen) (hs' : dest.size ≤ maxLen) :
  Calls Tryz.prog 69 #[v, .string src, .string dest] w fun e w' => ∃ x, e = .returned (.tuple #[x, .int .i64 (renameR d src dest).2]) ∧ DiskO w' w.heap.size x (renameR d src dest).1 ∧ Below w.heap.size w w' := by
 have HV : Hid (DiskV w B v d) := hv
 have HF : Hid (Fits d) := hf
 have HB : Hid (B ≤ w.heap.size) := hB
 have HW : Hid (wtD d ≤ 1048576) := hw
 have HS : Hid (src.size ≤ maxLen) := hs
 have HS' : Hid (dest.size ≤ maxLen) := hs'
 have heq := toList_beq src dest
 obtain ⟨v1, v2, v3, rfl, h1, h2, h3⟩ := hv
 clear h1 h2 h3 hf hB hw hs hs'
 go_enter Tryz.func69, Tryz.ntmps69
 go_wp2_with fail
 have hb0 := below_alloc2' w (.cells #[.int .i64 d.room, .int .i64 d.next, v1, v2, v3] 28) (.cells #[.int .i64 0, .int .i64 0, .slice none 0 0, .slice none 0 0, .slice none 0 0] 28)
 have bA := (Blk.new w #[.int .i64 d.room, .int .i64 d.next, v1, v2, v3] 28).alloc (.cells #[.int .i64 0, .int .i64 0, .slice none 0 0, .slice none 0 0, .slice none 0 0] 28)
 have bR := Blk.new (w.alloc (.cells #[.int .i64 d.room, .int .i64 d.next, v1, v2, v3] 28)) #[.int .i64 0, .int .i64 0, .slice none 0 0, .slice none 0 0, .slice none 0 0] 28
 simp only [World.size_alloc] at bR
 generalize (w.alloc (.cells #[.int .i64 d.room, .int .i64 d.next, v1, v2, v3] 28)).alloc (.cells #[.int .i64 0, .int .i64 0, .slice none 0 0, .slice none 0 0, .slice none 0 0] 28) = W at *
 have B0 : Hid (Below w.heap.size w W) := hb0
 have K0 : Hid (Blk W w.heap.size #[.int .i64 d.room, .int .i64 d.next, v1, v2, v3] 28) := bA
 have R0 : Hid (Blk W (w.heap.size + 1) #[.int .i64 0, .int .i64 0, .slice none 0 0, .slice none 0 0, .slice none 0 0] 28) := bR
 clear hb0 bA bR
 refine (specOkV d _ W B (HV.out.on (B0.out.mono HB.out)) HF.out HW.out (Nat.le_trans HB.out B0.out.size)).mono ?_
 rintro e w1 ⟨rfl, hb1⟩
 have B1 : Hid (Below w.heap.size w w1) := B0.out.trans (hb1.mono B0.out.size)
 have K1 : Hid (Blk w1 w.heap.size #[.int .i64 d.room, .int .i64 d.next, v1, v2, v3] 28) := K0.out.on hb1 K0.out.lt
 have R1 : Hid (Blk w1 (w.heap.size + 1) #[.int .i64 0, .int .i64 0, .slice none 0 0, .slice none 0 0, .slice none 0 0] 28) := R0.out.on hb1 R0.out.lt
 clear hb1 K0 R0
 have hg : w.heap.size ≤ w.heap.size + 1 := by omega
 cases hok : diskOk d with
 | false =>
  have hRR : renameR d src dest = (zeroD, 1) := renameR_no hok
  clear hok heq
  have g0 := R1.out.cell 0 _ rfl
  have f0 := R1.out.free 0
  have g1 := R1.out.cell 1 _ rfl
  have f1 := R1.out.free 1
  have g2 := R1.out.cell 2 _ rfl
  have f2 := R1.out.free 2
  have g3 := R1.out.cell 3 _ rfl
  have f3 := R1.out.free 3
  have g4 := R1.out.cell 4 _ rfl
  have f4 := R1.out.free 4
  go_wp2_with fail
  have hB := B1.out
  have FB := (((((hB.setCell hg (.int .i64 0) (p := ⟨_, 0, none⟩)).setCell hg (.int .i64 0) (p := ⟨_, 1, none⟩)).setCell hg (.slice none 0 0) (p := ⟨_, 2, none⟩)).setCell hg (.slice none 0 0) (p := ⟨_, 3, none⟩)).setCell hg (.slice none 0 0) (p := ⟨_, 4, none⟩))
  have hF := (((((R1.out.set 0 (.int .i64 0)).set 1 (.int .i64 0)).set 2 (.slice none 0 0)).set 3 (.slice none 0 0)).set 4 (.slice none 0 0))
  clear g0 f0 g1 f1 g2 f2 g3 f3 g4 f4
  generalize (((((w1.setCell ⟨w.heap.size + 1, 0, none⟩ (.int .i64 0)).setCell ⟨w.heap.size + 1, 1, none⟩ (.int .i64 0)).setCell ⟨w.heap.size + 1, 2, none⟩ (.slice none 0 0)).setCell ⟨w.heap.size + 1, 3, none⟩ (.slice none 0 0)).setCell ⟨w.heap.size + 1, 4, none⟩ (.slice none 0 0)) = WF at *
  have hG : Blk WF (w.heap.size + 1) #[.int .i64 0, .int .i64 0, .slice none 0 0, .slice none 0 0, .slice none 0 0] 28 := hF
  have l0 := hG.cell 0 (.int .i64 0) rfl
  have l1 := hG.cell 1 (.int .i64 0) rfl
  have l2 := hG.cell 2 (.slice none 0 0) rfl
  have l3 := hG.cell 3 (.slice none 0 0) rfl
  have l4 := hG.cell 4 (.slice none 0 0) rfl
  exact bodyPost_ret (v := .tuple #[.agg #[.int .i64 0, .int .i64 0, .slice none 0 0, .slice none 0 0, .slice none 0 0], .int .i64 1]) (by simp [results, go_sem, l0, l1, l2, l3, l4]) rfl (by rw [hRR]; exact ⟨_, rfl, ⟨_, _, _, rfl, Owns.nil _ _ _ _, Owns.nil _ _ _ _, Owns.nil _ _ _ _⟩, FB⟩)
 | true =>
  have hR := (sizeOk_iff d).1 ((whole_iff d).1 hok).size
  have HSZ : Hid (d.dir.length + d.movs.length ≤ 1048575 ∧ d.nods.length ≤ 10 ∧ d.dir.length ≤ 1048576 ∧ d.movs.length ≤ 1048576) := by
   have := hR.l; have := hR.m; have := hR.n
   unfold Hid
   omega
  have hRR : Hid (renameR d src dest = movedC d ⟨2, src, dest, 0⟩ (renC d src dest)) := renameR_yes hok
  have cN := namedV d (.agg #[.int .i64 d.room, .int .i64 d.next, v1, v2, v3]) src w1 B (HV.out.on (B1.out.mono HB.out)) HF.out (by have := HS.out; unfold maxLen at this; omega) HSZ.out.1 (by have := HSZ.out; omega) (Nat.le_trans HB.out B1.out.size)
  have cM := fun wx hx hb => movedV d (.agg #[.int .i64 d.room, .int .i64 d.next, v1, v2, v3]) 2 src dest 0 (renC d src dest) wx B hx (by have := HSZ.out; omega) HSZ.out.2.2.1 HSZ.out.2.2.2 hb
  have hRC : Hid ((nameOk dest = false ∨ src = dest → renC d src dest = 1) ∧ (¬ (nameOk dest = false ∨ src = dest) → renC d src dest = named d src)) := ⟨renC_bad, renC_ok⟩
  generalize movedC d ⟨2, src, dest, 0⟩ (renC d src dest) = RR at *
  generalize renC d src dest = rc at *
  generalize named d src = nc at *
  clear hR hok
  have y0 := K1.out.cell 0 _ rfl
  have y1 := K1.out.cell 1 _ rfl
  have y2 := K1.out.cell 2 _ rfl
  have y3 := K1.out.cell 3 _ rfl
  have y4 := K1.out.cell 4 _ rfl
  go_wp2_with fail
  refine cN.mono ?_
  rintro e w2 ⟨rfl, hb2⟩
  have B2 : Hid (Below w.heap.size w w2) := B1.out.trans (hb2.mono B1.out.size)
  have K2 : Hid (Blk w2 w.heap.size #[.int .i64 d.room, .int .i64 d.next, v1, v2, v3] 28) := K1.out.on hb2 K1.out.lt
  have R2 : Hid (Blk w2 (w.heap.size + 1) #[.int .i64 0, .int .i64 0, .slice none 0 0, .slice none 0 0, .slice none 0 0] 28) := R1.out.on hb2 R1.out.lt
  have cI := nameV dest w2 (by have := HS'.out; unfold maxLen at this; omega)
  clear cN hb2 y0 y1 y2 y3 y4 K1 R1
  go_wp2_with fail
  refine cI.mono ?_
  rintro e wq ⟨rfl, rfl⟩
  clear cI
  have y0 := K2.out.cell 0 _ rfl
  have y1 := K2.out.cell 1 _ rfl
  have y2 := K2.out.cell 2 _ rfl
  have y3 := K2.out.cell 3 _ rfl
  have y4 := K2.out.cell 4 _ rfl
  have cMM := cM w2 (HV.out.on (B2.out.mono HB.out)) (Nat.le_trans HB.out B2.out.size)
  clear cM
  cases hno : nameOk dest with
  | false =>
   have hrc := hRC.out.1 (.inl hno)
   subst hrc
   clear hno heq hRC
   go_wp2_with fail
   refine cMM.mono ?_
   rintro e w3 ⟨x, rfl, hO3, hb3⟩
   have B3 : Hid (Below w.heap.size w w3) := B2.out.trans (hb3.mono B2.out.size)
   have R3 : Hid (Blk w3 (w.heap.size + 1) #[.int .i64 0, .int .i64 0, .slice none 0 0, .slice none 0 0, .slice none 0 0] 28) := R2.out.on hb3 R2.out.lt
   obtain ⟨x1, x2, x3, rfl, o1, o2, o3⟩ := hO3
   obtain ⟨A1, m1, k1, rfl⟩ := o1.shape
   obtain ⟨A2, m2, k2, rfl⟩ := o2.shape
   obtain ⟨A3, m3, k3, rfl⟩ := o3.shape
   have O1 : Hid (Owns w3 w.heap.size 47 3 (.slice A1 m1 k1) (nodR RR.1.nods)) := o1.mono B2.out.size
   have O2 : Hid (Owns w3 w.heap.size 49 2 (.slice A2 m2 k2) (lnkR RR.1.dir)) := o2.mono B2.out.size
   have O3 : Hid (Owns w3 w.heap.size 51 4 (.slice A3 m3 k3) (movR RR.1.movs)) := o3.mono B2.out.size
   clear cMM hb3 o1 o2 o3 y0 y1 y2 y3 y4
   have g0 := R3.out.cell 0 _ rfl
   have f0 := R3.out.free 0
   have g1 := R3.out.cell 1 _ rfl
   have f1 := R3.out.free 1
   have g2 := R3.out.cell 2 _ rfl
   have f2 := R3.out.free 2
   have g3 := R3.out.cell 3 _ rfl
   have f3 := R3.out.free 3
   have g4 := R3.out.cell 4 _ rfl
   have f4 := R3.out.free 4
   go_wp2_with fail
   have hB := B3.out
   have FB := (((((hB.setCell hg (.int .i64 RR.1.room) (p := ⟨_, 0, none⟩)).setCell hg (.int .i64 RR.1.next) (p := ⟨_, 1, none⟩)).setCell hg (.slice A1 m1 k1) (p := ⟨_, 2, none⟩)).setCell hg (.slice A2 m2 k2) (p := ⟨_, 3, none⟩)).setCell hg (.slice A3 m3 k3) (p := ⟨_, 4, none⟩))
   have hF := (((((R3.out.set 0 (.int .i64 RR.1.room)).set 1 (.int .i64 RR.1.next)).set 2 (.slice A1 m1 k1)).set 3 (.slice A2 m2 k2)).set 4 (.slice A3 m3 k3))
   have mm0 := O1.out.notBlk R3.out (by decide)
   have F0 := (((((O1.out.other mm0 0 (.int .i64 RR.1.room)).other mm0 1 (.int .i64 RR.1.next)).other mm0 2 (.slice A1 m1 k1)).other mm0 3 (.slice A2 m2 k2)).other mm0 4 (.slice A3 m3 k3))
   have mm1 := O2.out.notBlk R3.out (by decide)
   have F1 := (((((O2.out.other mm1 0 (.int .i64 RR.1.room)).other mm1 1 (.int .i64 RR.1.next)).other mm1 2 (.slice A1 m1 k1)).other mm1 3 (.slice A2 m2 k2)).other mm1 4 (.slice A3 m3 k3))
   have mm2 := O3.out.notBlk R3.out (by decide)
   have F2 := (((((O3.out.other mm2 0 (.int .i64 RR.1.room)).other mm2 1 (.int .i64 RR.1.next)).other mm2 2 (.slice A1 m1 k1)).other mm2 3 (.slice A2 m2 k2)).other mm2 4 (.slice A3 m3 k3))
   clear g0 f0 g1 f1 g2 f2 g3 f3 g4 f4
   generalize (((((w3.setCell ⟨w.heap.size + 1, 0, none⟩ (.int .i64 RR.1.room)).setCell ⟨w.heap.size + 1, 1, none⟩ (.int .i64 RR.1.next)).setCell ⟨w.heap.size + 1, 2, none⟩ (.slice A1 m1 k1)).setCell ⟨w.heap.size + 1, 3, none⟩ (.slice A2 m2 k2)).setCell ⟨w.heap.size + 1, 4, none⟩ (.slice A3 m3 k3)) = WF at *
   have hG : Blk WF (w.heap.size + 1) #[.int .i64 RR.1.room, .int .i64 RR.1.next, .slice A1 m1 k1, .slice A2 m2 k2, .slice A3 m3 k3] 28 := hF
   have l0 := hG.cell 0 (.int .i64 RR.1.room) rfl
   have l1 := hG.cell 1 (.int .i64 RR.1.next) rfl
   have l2 := hG.cell 2 (.slice A1 m1 k1) rfl
   have l3 := hG.cell 3 (.slice A2 m2 k2) rfl
   have l4 := hG.cell 4 (.slice A3 m3 k3) rfl
   exact bodyPost_ret (v := .tuple #[.agg #[.int .i64 RR.1.room, .int .i64 RR.1.next, .slice A1 m1 k1, .slice A2 m2 k2, .slice A3 m3 k3], .int .i64 RR.2]) (by simp [results, go_sem, l0, l1, l2, l3, l4]) rfl (by rw [hRR.out]; exact ⟨_, rfl, ⟨_, _, _, rfl, F0, F1, F2⟩, FB⟩)
  | true =>
   by_cases hst : src = dest
   ·have hrc := hRC.out.1 (.inr hst)
    subst hrc
    rw [decide_eq_true hst] at heq
    clear hno hst hRC
    go_wp2_with fail
    refine cMM.mono ?_
    rintro e w3 ⟨x, rfl, hO3, hb3⟩
    have B3 : Hid (Below w.heap.size w w3) := B2.out.trans (hb3.mono B2.out.size)
    have R3 : Hid (Blk w3 (w.heap.size + 1) #[.int .i64 0, .int .i64 0, .slice none 0 0, .slice none 0 0, .slice none 0 0] 28) := R2.out.on hb3 R2.out.lt
    obtain ⟨x1, x2, x3, rfl, o1, o2, o3⟩ := hO3
    obtain ⟨A1, m1, k1, rfl⟩ := o1.shape
    obtain ⟨A2, m2, k2, rfl⟩ := o2.shape
    obtain ⟨A3, m3, k3, rfl⟩ := o3.shape
    have O1 : Hid (Owns w3 w.heap.size 47 3 (.slice A1 m1 k1) (nodR RR.1.nods)) := o1.mono B2.out.size
    have O2 : Hid (Owns w3 w.heap.size 49 2 (.slice A2 m2 k2) (lnkR RR.1.dir)) := o2.mono B2.out.size
    have O3 : Hid (Owns w3 w.heap.size 51 4 (.slice A3 m3 k3) (movR RR.1.movs)) := o3.mono B2.out.size
    clear cMM hb3 o1 o2 o3 y0 y1 y2 y3 y4
    have g0 := R3.out.cell 0 _ rfl
    have f0 := R3.out.free 0
    have g1 := R3.out.cell 1 _ rfl
    have f1 := R3.out.free 1
    have g2 := R3.out.cell 2 _ rfl
    have f2 := R3.out.free 2
    have g3 := R3.out.cell 3 _ rfl
    have f3 := R3.out.free 3
    have g4 := R3.out.cell 4 _ rfl
    have f4 := R3.out.free 4
    go_wp2_with fail
    have hB := B3.out
    have FB := (((((hB.setCell hg (.int .i64 RR.1.room) (p := ⟨_, 0, none⟩)).setCell hg (.int .i64 RR.1.next) (p := ⟨_, 1, none⟩)).setCell hg (.slice A1 m1 k1) (p := ⟨_, 2, none⟩)).setCell hg (.slice A2 m2 k2) (p := ⟨_, 3, none⟩)).setCell hg (.slice A3 m3 k3) (p := ⟨_, 4, none⟩))
    have hF := (((((R3.out.set 0 (.int .i64 RR.1.room)).set 1 (.int .i64 RR.1.next)).set 2 (.slice A1 m1 k1)).set 3 (.slice A2 m2 k2)).set 4 (.slice A3 m3 k3))
    have mm0 := O1.out.notBlk R3.out (by decide)
    have F0 := (((((O1.out.other mm0 0 (.int .i64 RR.1.room)).other mm0 1 (.int .i64 RR.1.next)).other mm0 2 (.slice A1 m1 k1)).other mm0 3 (.slice A2 m2 k2)).other mm0 4 (.slice A3 m3 k3))
    have mm1 := O2.out.notBlk R3.out (by decide)
    have F1 := (((((O2.out.other mm1 0 (.int .i64 RR.1.room)).other mm1 1 (.int .i64 RR.1.next)).other mm1 2 (.slice A1 m1 k1)).other mm1 3 (.slice A2 m2 k2)).other mm1 4 (.slice A3 m3 k3))
    have mm2 := O3.out.notBlk R3.out (by decide)
    have F2 := (((((O3.out.other mm2 0 (.int .i64 RR.1.room)).other mm2 1 (.int .i64 RR.1.next)).other mm2 2 (.slice A1 m1 k1)).other mm2 3 (.slice A2 m2 k2)).other mm2 4 (.slice A3 m3 k3))
    clear g0 f0 g1 f1 g2 f2 g3 f3 g4 f4
    generalize (((((w3.setCell ⟨w.heap.size + 1, 0, none⟩ (.int .i64 RR.1.room)).setCell ⟨w.heap.size + 1, 1, none⟩ (.int .i64 RR.1.next)).setCell ⟨w.heap.size + 1, 2, none⟩ (.slice A1 m1 k1)).setCell ⟨w.heap.size + 1, 3, none⟩ (.slice A2 m2 k2)).setCell ⟨w.heap.size + 1, 4, none⟩ (.slice A3 m3 k3)) = WF at *
    have hG : Blk WF (w.heap.size + 1) #[.int .i64 RR.1.room, .int .i64 RR.1.next, .slice A1 m1 k1, .slice A2 m2 k2, .slice A3 m3 k3] 28 := hF
    have l0 := hG.cell 0 (.int .i64 RR.1.room) rfl
    have l1 := hG.cell 1 (.int .i64 RR.1.next) rfl
    have l2 := hG.cell 2 (.slice A1 m1 k1) rfl
    have l3 := hG.cell 3 (.slice A2 m2 k2) rfl
    have l4 := hG.cell 4 (.slice A3 m3 k3) rfl
    exact bodyPost_ret (v := .tuple #[.agg #[.int .i64 RR.1.room, .int .i64 RR.1.next, .slice A1 m1 k1, .slice A2 m2 k2, .slice A3 m3 k3], .int .i64 RR.2]) (by simp [results, go_sem, l0, l1, l2, l3, l4]) rfl (by rw [hRR.out]; exact ⟨_, rfl, ⟨_, _, _, rfl, F0, F1, F2⟩, FB⟩)
   ·have hrc := hRC.out.2 (by rintro (h1 | h1); rw [hno] at h1; cases h1; exact hst h1)
    subst hrc
    rw [decide_eq_false hst] at heq
    clear hno hst hRC
    go_wp2_with fail
    refine cMM.mono ?_
    rintro e w3 ⟨x, rfl, hO3, hb3⟩
    have B3 : Hid (Below w.heap.size w w3) := B2.out.trans (hb3.mono B2.out.size)
    have R3 : Hid (Blk w3 (w.heap.size + 1) #[.int .i64 0, .int .i64 0, .slice none 0 0, .slice none 0 0, .slice none 0 0] 28) := R2.out.on hb3 R2.out.lt
    obtain ⟨x1, x2, x3, rfl, o1, o2, o3⟩ := hO3
    obtain ⟨A1, m1, k1, rfl⟩ := o1.shape
    obtain ⟨A2, m2, k2, rfl⟩ := o2.shape
    obtain ⟨A3, m3, k3, rfl⟩ := o3.shape
    have O1 : Hid (Owns w3 w.heap.size 47 3 (.slice A1 m1 k1) (nodR RR.1.nods)) := o1.mono B2.out.size
    have O2 : Hid (Owns w3 w.heap.size 49 2 (.slice A2 m2 k2) (lnkR RR.1.dir)) := o2.mono B2.out.size
    have O3 : Hid (Owns w3 w.heap.size 51 4 (.slice A3 m3 k3) (movR RR.1.movs)) := o3.mono B2.out.size
    clear cMM hb3 o1 o2 o3 y0 y1 y2 y3 y4
    have g0 := R3.out.cell 0 _ rfl
    have f0 := R3.out.free 0
    have g1 := R3.out.cell 1 _ rfl
    have f1 := R3.out.free 1
    have g2 := R3.out.cell 2 _ rfl
    have f2 := R3.out.free 2
    have g3 := R3.out.cell 3 _ rfl
    have f3 := R3.out.free 3
    have g4 := R3.out.cell 4 _ rfl
    have f4 := R3.out.free 4
    go_wp2_with fail
    have hB := B3.out
    have FB := (((((hB.setCell hg (.int .i64 RR.1.room) (p := ⟨_, 0, none⟩)).setCell hg (.int .i64 RR.1.next) (p := ⟨_, 1, none⟩)).setCell hg (.slice A1 m1 k1) (p := ⟨_, 2, none⟩)).setCell hg (.slice A2 m2 k2) (p := ⟨_, 3, none⟩)).setCell hg (.slice A3 m3 k3) (p := ⟨_, 4, none⟩))
    have hF := (((((R3.out.set 0 (.int .i64 RR.1.room)).set 1 (.int .i64 RR.1.next)).set 2 (.slice A1 m1 k1)).set 3 (.slice A2 m2 k2)).set 4 (.slice A3 m3 k3))
    have mm0 := O1.out.notBlk R3.out (by decide)
    have F0 := (((((O1.out.other mm0 0 (.int .i64 RR.1.room)).other mm0 1 (.int .i64 RR.1.next)).other mm0 2 (.slice A1 m1 k1)).other mm0 3 (.slice A2 m2 k2)).other mm0 4 (.slice A3 m3 k3))
    have mm1 := O2.out.notBlk R3.out (by decide)
    have F1 := (((((O2.out.other mm1 0 (.int .i64 RR.1.room)).other mm1 1 (.int .i64 RR.1.next)).other mm1 2 (.slice A1 m1 k1)).other mm1 3 (.slice A2 m2 k2)).other mm1 4 (.slice A3 m3 k3))
    have mm2 := O3.out.notBlk R3.out (by decide)
    have F2 := (((((O3.out.other mm2 0 (.int .i64 RR.1.room)).other mm2 1 (.int .i64 RR.1.next)).other mm2 2 (.slice A1 m1 k1)).other mm2 3 (.slice A2 m2 k2)).other mm2 4 (.slice A3 m3 k3))
    clear g0 f0 g1 f1 g2 f2 g3 f3 g4 f4
    generalize (((((w3.setCell ⟨w.heap.size + 1, 0, none⟩ (.int .i64 RR.1.room)).setCell ⟨w.heap.size + 1, 1, none⟩ (.int .i64 RR.1.next)).setCell ⟨w.heap.size + 1, 2, none⟩ (.slice A1 m1 k1)).setCell ⟨w.heap.size + 1, 3, none⟩ (.slice A2 m2 k2)).setCell ⟨w.heap.size + 1, 4, none⟩ (.slice A3 m3 k3)) = WF at *
    have hG : Blk WF (w.heap.size + 1) #[.int .i64 RR.1.room, .int .i64 RR.1.next, .slice A1 m1 k1, .slice A2 m2 k2, .slice A3 m3 k3] 28 := hF
    have l0 := hG.cell 0 (.int .i64 RR.1.room) rfl
    have l1 := hG.cell 1 (.int .i64 RR.1.next) rfl
    have l2 := hG.cell 2 (.slice A1 m1 k1) rfl
    have l3 := hG.cell 3 (.slice A2 m2 k2) rfl
    have l4 := hG.cell 4 (.slice A3 m3 k3) rfl
    exact bodyPost_ret (v := .tuple #[.agg #[.int .i64 RR.1.room, .int .i64 RR.1.next, .slice A1 m1 k1, .slice A2 m2 k2, .slice A3 m3 k3], .int .i64 RR.2]) (by simp [results, go_sem, l0, l1, l2, l3, l4]) rfl (by rw [hRR.out]; exact ⟨_, rfl, ⟨_, _, _, rfl, F0, F1, F2⟩, FB⟩)
end Go.Proofs.YtgjilgecklhglaaGreat
namespace Go.Proofs.YtgjilgecklhglaaGreat
open Go.ChangeShapes Go.WideShapes Go.ChangeAt Go.RowKit Go.PlainAid
set_option linter.unusedVariables false
set_option maxHeartbeats 1000000 in
theorem dropFileV (w : World) (base p : Nat) (d : Dsk) (bi bd bw : Nat) (gs : List Nat) (u : Value) (name : ByteArray) (h : OpenD w base p d bi bd bw gs u) (hd : Whole d) (hw : wtD d ≤ 1048576) (hs : name.size ≤ maxLen) (hB : base ≤ w.heap.size) :
  Calls Tryz.prog 93 #[.pointer (some ⟨p, 0, none⟩), .string name] w fun e w' => e = .returned (.int .i64 (movedC d ⟨3, name, ⟨#[]⟩, 0⟩ (named d name)).2) ∧ Tellable w' p (movedC d ⟨3, name, ⟨#[]⟩, 0⟩ (named d name)).1 ∧ Below base w w' := by
 have cF := findI w base p d bi bd bw gs u name h hd hs
 have HT : Hid (Tellable w p d) := h.tell hd hw
 have cM := fun (hn : nameOk name = true) => addMoveV w base p d bi bd bw gs u 3 name ⟨#[]⟩ 0 h hd hw (by have := name_size hn; omega) (by show (0 : Nat) ≤ 1000; omega) hB
 clear h hd hw hs hB
 go_enter Tryz.func93, Tryz.ntmps93
 go_wp2_with fail
 refine cF.mono ?_
 rintro e w1 ⟨rfl, hF⟩
 clear cF
 rcases hF with ⟨hn, rfl⟩ | ⟨hn, hf, rfl⟩ | ⟨hn, j, hf, hj, rfl⟩
 ·have HR : Hid (movedC d ⟨3, name, ⟨#[]⟩, 0⟩ (named d name) = (d, 1)) := by unfold Hid; rw [named_bad hn, movedC_no (by omega)]
  clear hn cM
  go_wp2_with fail
  go_ret
  exact ⟨by rw [HR.out]; rfl, by rw [HR.out]; exact HT.out, Below.refl _ _⟩
 ·have HR : Hid (movedC d ⟨3, name, ⟨#[]⟩, 0⟩ (named d name) = (d, 2)) := by unfold Hid; rw [named_none hn hf, movedC_no (by omega)]
  clear hn hf cM
  go_wp2_with fail
  go_ret
  exact ⟨by rw [HR.out]; rfl, by rw [HR.out]; exact HT.out, Below.refl _ _⟩
 ·have HR : Hid (movedC d ⟨3, name, ⟨#[]⟩, 0⟩ (named d name) = movedD d ⟨3, name, ⟨#[]⟩, 0⟩) := by unfold Hid; rw [named_some hn hf, movedC_yes]
  have cM := cM hn
  clear hn hf hj
  generalize movedD d ⟨3, name, ⟨#[]⟩, 0⟩ = RR at *
  go_wp2_with fail
  refine cM.mono ?_
  rintro e w2 ⟨rfl, hT, hb⟩
  have HT2 : Hid (Tellable w2 p RR.1) := hT
  clear hT cM
  go_wp2_with fail
  go_ret
  exact ⟨by rw [HR.out]; rfl, by rw [HR.out]; exact HT2.out, hb⟩
def dropR (d : Dsk) (name : ByteArray) : Dsk × Int := if diskOk d = true then ((movedC d ⟨3, name, ⟨#[]⟩, 0⟩ (named d name)).1, (movedC d ⟨3, name, ⟨#[]⟩, 0⟩ (named d name)).2) else (zeroD, 1)
theorem dropR_yes {d : Dsk} {name : ByteArray} (h : diskOk d = true) : dropR d name = ((movedC d ⟨3, name, ⟨#[]⟩, 0⟩ (named d name)).1, (movedC d ⟨3, name, ⟨#[]⟩, 0⟩ (named d name)).2) := by unfold dropR; rw [if_pos h]
theorem dropR_no {d : Dsk} {name : ByteArray} (h : diskOk d = false) : dropR d name = (zeroD, 1) := by unfold dropR; rw [if_neg (by rw [h]; simp)]
set_option maxRecDepth 20000 in
set_option maxHeartbeats 4000000 in
theorem specDropV (d : Dsk) (v : Value) (name : ByteArray) (w : World) (B : Nat) (hv : DiskV w B v d) (hf : Fits d) (hw : wtD d ≤ 1048576) (hB : B ≤ w.heap.size) (hs : name.size ≤ maxLen) :
  Calls Tryz.prog 70 #[v, .string name] w fun e w' => ∃ x, e = .returned (.tuple #[x, .int .i64 (dropR d name).2]) ∧ DiskO w' w.heap.size x (dropR d name).1 ∧ Below w.heap.size w w' := by
 have HV : Hid (DiskV w B v d) := hv
 have HF : Hid (Fits d) := hf
 have HB : Hid (B ≤ w.heap.size) := hB
 have HW : Hid (wtD d ≤ 1048576) := hw
 have HS : Hid (name.size ≤ maxLen) := hs
 obtain ⟨v1, v2, v3, rfl, h1, h2, h3⟩ := hv
 clear h1 h2 h3 hf hB hw hs
 go_enter Tryz.func70, Tryz.ntmps70
 go_wp2_with fail
 have hb0 := below_alloc2' w (.cells #[.int .i64 d.room, .int .i64 d.next, v1, v2, v3] 28) (.cells #[.int .i64 0, .int .i64 0, .slice none 0 0, .slice none 0 0, .slice none 0 0] 28)
 have bA := (Blk.new w #[.int .i64 d.room, .int .i64 d.next, v1, v2, v3] 28).alloc (.cells #[.int .i64 0, .int .i64 0, .slice none 0 0, .slice none 0 0, .slice none 0 0] 28)
 have bR := Blk.new (w.alloc (.cells #[.int .i64 d.room, .int .i64 d.next, v1, v2, v3] 28)) #[.int .i64 0, .int .i64 0, .slice none 0 0, .slice none 0 0, .slice none 0 0] 28
 simp only [World.size_alloc] at bR
 generalize (w.alloc (.cells #[.int .i64 d.room, .int .i64 d.next, v1, v2, v3] 28)).alloc (.cells #[.int .i64 0, .int .i64 0, .slice none 0 0, .slice none 0 0, .slice none 0 0] 28) = W at *
 have B0 : Hid (Below w.heap.size w W) := hb0
 have K0 : Hid (Blk W w.heap.size #[.int .i64 d.room, .int .i64 d.next, v1, v2, v3] 28) := bA
 have R0 : Hid (Blk W (w.heap.size + 1) #[.int .i64 0, .int .i64 0, .slice none 0 0, .slice none 0 0, .slice none 0 0] 28) := bR
 clear hb0 bA bR
 refine (specOkV d _ W B (HV.out.on (B0.out.mono HB.out)) HF.out HW.out (Nat.le_trans HB.out B0.out.size)).mono ?_
 rintro e w1 ⟨rfl, hb1⟩
 have B1 : Hid (Below w.heap.size w w1) := B0.out.trans (hb1.mono B0.out.size)
 have K1 : Hid (Blk w1 w.heap.size #[.int .i64 d.room, .int .i64 d.next, v1, v2, v3] 28) := K0.out.on hb1 K0.out.lt
 have R1 : Hid (Blk w1 (w.heap.size + 1) #[.int .i64 0, .int .i64 0, .slice none 0 0, .slice none 0 0, .slice none 0 0] 28) := R0.out.on hb1 R0.out.lt
 clear hb1 K0 R0
 have hg : w.heap.size ≤ w.heap.size + 1 := by omega
 cases hok : diskOk d with
 | false =>
  have hRR : dropR d name = (zeroD, 1) := dropR_no hok
  clear hok
  have g0 := R1.out.cell 0 _ rfl
  have f0 := R1.out.free 0
  have g1 := R1.out.cell 1 _ rfl
  have f1 := R1.out.free 1
  have g2 := R1.out.cell 2 _ rfl
  have f2 := R1.out.free 2
  have g3 := R1.out.cell 3 _ rfl
  have f3 := R1.out.free 3
  have g4 := R1.out.cell 4 _ rfl
  have f4 := R1.out.free 4
  go_wp2_with fail
  have hB := B1.out
  have FB := (((((hB.setCell hg (.int .i64 0) (p := ⟨_, 0, none⟩)).setCell hg (.int .i64 0) (p := ⟨_, 1, none⟩)).setCell hg (.slice none 0 0) (p := ⟨_, 2, none⟩)).setCell hg (.slice none 0 0) (p := ⟨_, 3, none⟩)).setCell hg (.slice none 0 0) (p := ⟨_, 4, none⟩))
  have hF := (((((R1.out.set 0 (.int .i64 0)).set 1 (.int .i64 0)).set 2 (.slice none 0 0)).set 3 (.slice none 0 0)).set 4 (.slice none 0 0))
  clear g0 f0 g1 f1 g2 f2 g3 f3 g4 f4
  generalize (((((w1.setCell ⟨w.heap.size + 1, 0, none⟩ (.int .i64 0)).setCell ⟨w.heap.size + 1, 1, none⟩ (.int .i64 0)).setCell ⟨w.heap.size + 1, 2, none⟩ (.slice none 0 0)).setCell ⟨w.heap.size + 1, 3, none⟩ (.slice none 0 0)).setCell ⟨w.heap.size + 1, 4, none⟩ (.slice none 0 0)) = WF at *
  have hG : Blk WF (w.heap.size + 1) #[.int .i64 0, .int .i64 0, .slice none 0 0, .slice none 0 0, .slice none 0 0] 28 := hF
  have l0 := hG.cell 0 (.int .i64 0) rfl
  have l1 := hG.cell 1 (.int .i64 0) rfl
  have l2 := hG.cell 2 (.slice none 0 0) rfl
  have l3 := hG.cell 3 (.slice none 0 0) rfl
  have l4 := hG.cell 4 (.slice none 0 0) rfl
  exact bodyPost_ret (v := .tuple #[.agg #[.int .i64 0, .int .i64 0, .slice none 0 0, .slice none 0 0, .slice none 0 0], .int .i64 1]) (by simp [results, go_sem, l0, l1, l2, l3, l4]) rfl (by rw [hRR]; exact ⟨_, rfl, ⟨_, _, _, rfl, Owns.nil _ _ _ _, Owns.nil _ _ _ _, Owns.nil _ _ _ _⟩, FB⟩)
 | true =>
  have hR := (sizeOk_iff d).1 ((whole_iff d).1 hok).size
  have HSZ : Hid (d.dir.length + d.movs.length ≤ 1048575 ∧ d.nods.length ≤ 10 ∧ d.dir.length ≤ 1048576 ∧ d.movs.length ≤ 1048576) := by
   have := hR.l; have := hR.m; have := hR.n
   unfold Hid
   omega
  have hRR : Hid (dropR d name = movedC d ⟨3, name, ⟨#[]⟩, 0⟩ (named d name)) := dropR_yes hok
  have B1d : Hid (Below w.heap.size w w1.drew) := B1.out.drew
  have cN := namedV d (.agg #[.int .i64 d.room, .int .i64 d.next, v1, v2, v3]) name w1.drew B (HV.out.on (B1d.out.mono HB.out)) HF.out (by have := HS.out; unfold maxLen at this; omega) HSZ.out.1 (by have := HSZ.out; omega) (Nat.le_trans HB.out B1d.out.size)
  have cM := fun wx hx hb => movedV d (.agg #[.int .i64 d.room, .int .i64 d.next, v1, v2, v3]) 3 name ⟨#[]⟩ 0 (named d name) wx B hx (by have := HSZ.out; omega) HSZ.out.2.2.1 HSZ.out.2.2.2 hb
  generalize movedC d ⟨3, name, ⟨#[]⟩, 0⟩ (named d name) = RR at *
  generalize named d name = nc at *
  clear hR hok
  go_wp2_with fail
  have S0 : Hid (w1.drew.cell? ⟨w.heap.size, 0, none⟩ = some (.int .i64 d.room) ∧ w1.drew.cell? ⟨w.heap.size, 1, none⟩ = some (.int .i64 d.next) ∧ w1.drew.cell? ⟨w.heap.size, 2, none⟩ = some v1 ∧ w1.drew.cell? ⟨w.heap.size, 3, none⟩ = some v2 ∧ w1.drew.cell? ⟨w.heap.size, 4, none⟩ = some v3) := ⟨K1.out.cell 0 _ rfl, K1.out.cell 1 _ rfl, K1.out.cell 2 _ rfl, K1.out.cell 3 _ rfl, K1.out.cell 4 _ rfl⟩
  refine wp_region_until (fun w' => w'.cell? ⟨w.heap.size, 0, none⟩ = some (.int .i64 d.room) ∧ w'.cell? ⟨w.heap.size, 1, none⟩ = some (.int .i64 d.next) ∧ w'.cell? ⟨w.heap.size, 2, none⟩ = some v1 ∧ w'.cell? ⟨w.heap.size, 3, none⟩ = some v2 ∧ w'.cell? ⟨w.heap.size, 4, none⟩ = some v3) (fun i => i == 9) 11 (by rfl) (by kernel_rfl) ?_
  refine until_take 0 (v := ?va0) (by rfl) (by kernel_rfl) (by exact fun _ _ _ h => h) (by rfl) ?hya0 S0.out ?ra0
  case hya0 =>
   intro w hSw
   try dsimp only at hSw
   go_simp
   try with_reducible rfl
  try simp only [Act.put, zQ1, zQ2, zQ3]
  refine until_take 1 (v := ?va1) (by rfl) (by kernel_rfl) (by exact fun _ _ _ h => h) (by rfl) ?hya1 S0.out ?ra1
  case hya1 =>
   intro w hSw
   try dsimp only at hSw
   go_simp
   try with_reducible rfl
  try simp only [Act.put, zQ1, zQ2, zQ3]
  refine until_take 2 (v := ?va2) (by rfl) (by kernel_rfl) (by exact fun _ _ _ h => h) (by rfl) ?hya2 S0.out ?ra2
  case hya2 =>
   intro w hSw
   try dsimp only at hSw
   go_simp
   try with_reducible rfl
  try simp only [Act.put, zQ1, zQ2, zQ3]
  refine until_take 3 (v := ?va3) (by rfl) (by kernel_rfl) (by exact fun _ _ _ h => h) (by rfl) ?hya3 S0.out ?ra3
  case hya3 =>
   intro w hSw
   try dsimp only at hSw
   go_simp
   try with_reducible rfl
  try simp only [Act.put, zQ1, zQ2, zQ3]
  refine until_take 4 (v := ?va4) (by rfl) (by kernel_rfl) (by exact fun _ _ _ h => h) (by rfl) ?hya4 S0.out ?ra4
  case hya4 =>
   intro w hSw
   try dsimp only at hSw
   go_simp
   try with_reducible rfl
  try simp only [Act.put, zQ1, zQ2, zQ3]
  refine uNe 5 (fun K hK => ?_)
  go_simp
  refine cN.mono ?_
  rintro e w2 ⟨rfl, hb2⟩
  have hb21 : Below w1.heap.size w1 w2 := (Below.refl _ w1).drew.trans hb2
  have B2 : Hid (Below w.heap.size w w2) := B1.out.trans (hb21.mono B1.out.size)
  have K2 : Hid (Blk w2 w.heap.size #[.int .i64 d.room, .int .i64 d.next, v1, v2, v3] 28) := K1.out.on hb21 K1.out.lt
  have R2 : Hid (Blk w2 (w.heap.size + 1) #[.int .i64 0, .int .i64 0, .slice none 0 0, .slice none 0 0, .slice none 0 0] 28) := R1.out.on hb21 R1.out.lt
  clear hb2 hb21
  go_wp2_with fail
  refine hK.out _ _ (fun _ _ => ⟨K2.out.cell 0 _ rfl, K2.out.cell 1 _ rfl, K2.out.cell 2 _ rfl, K2.out.cell 3 _ rfl, K2.out.cell 4 _ rfl⟩) ?_
  clear hK K
  try simp only [Act.put, zQ1, zQ2, zQ3]
  refine uNe 6 (fun K hK => ?_)
  go_simp
  refine (cM w2 (HV.out.on (B2.out.mono HB.out)) (Nat.le_trans HB.out B2.out.size)).mono ?_
  rintro e w3 ⟨x, rfl, hO3, hb3⟩
  have B3 : Hid (Below w.heap.size w w3) := B2.out.trans (hb3.mono B2.out.size)
  have K3 : Hid (Blk w3 w.heap.size #[.int .i64 d.room, .int .i64 d.next, v1, v2, v3] 28) := K2.out.on hb3 K2.out.lt
  have R3 : Hid (Blk w3 (w.heap.size + 1) #[.int .i64 0, .int .i64 0, .slice none 0 0, .slice none 0 0, .slice none 0 0] 28) := R2.out.on hb3 R2.out.lt
  obtain ⟨x1, x2, x3, rfl, o1, o2, o3⟩ := hO3
  obtain ⟨A1, m1, k1, rfl⟩ := o1.shape
  obtain ⟨A2, m2, k2, rfl⟩ := o2.shape
  obtain ⟨A3, m3, k3, rfl⟩ := o3.shape
  have O1 : Hid (Owns w3 w.heap.size 47 3 (.slice A1 m1 k1) (nodR RR.1.nods)) := o1.mono B2.out.size
  have O2 : Hid (Owns w3 w.heap.size 49 2 (.slice A2 m2 k2) (lnkR RR.1.dir)) := o2.mono B2.out.size
  have O3 : Hid (Owns w3 w.heap.size 51 4 (.slice A3 m3 k3) (movR RR.1.movs)) := o3.mono B2.out.size
  clear cN cM hb3 o1 o2 o3
  go_wp2_with fail
  refine hK.out _ _ (fun _ _ => ⟨K3.out.cell 0 _ rfl, K3.out.cell 1 _ rfl, K3.out.cell 2 _ rfl, K3.out.cell 3 _ rfl, K3.out.cell 4 _ rfl⟩) ?_
  clear hK K
  try simp only [Act.put, zQ1, zQ2, zQ3]
  refine until_pure 7 (v := ?vb7) (by rfl) (by kernel_rfl) (by exact fun _ _ _ h => h) (by rfl) ?hyb7 ?rb7
  case hyb7 =>
   intro w
   go_simp
   try with_reducible rfl
  try simp only [Act.put, zQ1, zQ2, zQ3]
  refine until_pure 8 (v := ?vb8) (by rfl) (by kernel_rfl) (by exact fun _ _ _ h => h) (by rfl) ?hyb8 ?rb8
  case hyb8 =>
   intro w
   go_simp
   try with_reducible rfl
  try simp only [Act.put, zQ1, zQ2, zQ3]
  have g0 := R3.out.cell 0 _ rfl
  have f0 := R3.out.free 0
  have g1 := R3.out.cell 1 _ rfl
  have f1 := R3.out.free 1
  have g2 := R3.out.cell 2 _ rfl
  have f2 := R3.out.free 2
  have g3 := R3.out.cell 3 _ rfl
  have f3 := R3.out.free 3
  have g4 := R3.out.cell 4 _ rfl
  have f4 := R3.out.free 4
  refine uNe 9 (fun K hK => ?_)
  go_simp
  refine hK.out _ _ (fun h => by cases h) ?_
  clear hK K
  try simp only [Act.put, zQ1, zQ2, zQ3]
  refine until_pure 10 (v := ?vb10) (by rfl) (by kernel_rfl) (by exact fun _ _ _ h => h) (by rfl) ?hyb10 ?rb10
  case hyb10 =>
   intro w
   go_simp
   try with_reducible rfl
  try simp only [Act.put, zQ1, zQ2, zQ3]
  refine until_done (by kernel_rfl) ?_ _
  go_wp2_with fail
  have hB := B3.out
  have FB := (((((hB.setCell hg (.int .i64 RR.1.room) (p := ⟨_, 0, none⟩)).setCell hg (.int .i64 RR.1.next) (p := ⟨_, 1, none⟩)).setCell hg (.slice A1 m1 k1) (p := ⟨_, 2, none⟩)).setCell hg (.slice A2 m2 k2) (p := ⟨_, 3, none⟩)).setCell hg (.slice A3 m3 k3) (p := ⟨_, 4, none⟩))
  have hF := (((((R3.out.set 0 (.int .i64 RR.1.room)).set 1 (.int .i64 RR.1.next)).set 2 (.slice A1 m1 k1)).set 3 (.slice A2 m2 k2)).set 4 (.slice A3 m3 k3))
  have mm0 := O1.out.notBlk R3.out (by decide)
  have F0 := (((((O1.out.other mm0 0 (.int .i64 RR.1.room)).other mm0 1 (.int .i64 RR.1.next)).other mm0 2 (.slice A1 m1 k1)).other mm0 3 (.slice A2 m2 k2)).other mm0 4 (.slice A3 m3 k3))
  have mm1 := O2.out.notBlk R3.out (by decide)
  have F1 := (((((O2.out.other mm1 0 (.int .i64 RR.1.room)).other mm1 1 (.int .i64 RR.1.next)).other mm1 2 (.slice A1 m1 k1)).other mm1 3 (.slice A2 m2 k2)).other mm1 4 (.slice A3 m3 k3))
  have mm2 := O3.out.notBlk R3.out (by decide)
  have F2 := (((((O3.out.other mm2 0 (.int .i64 RR.1.room)).other mm2 1 (.int .i64 RR.1.next)).other mm2 2 (.slice A1 m1 k1)).other mm2 3 (.slice A2 m2 k2)).other mm2 4 (.slice A3 m3 k3))
  clear g0 f0 g1 f1 g2 f2 g3 f3 g4 f4
  generalize (((((w3.setCell ⟨w.heap.size + 1, 0, none⟩ (.int .i64 RR.1.room)).setCell ⟨w.heap.size + 1, 1, none⟩ (.int .i64 RR.1.next)).setCell ⟨w.heap.size + 1, 2, none⟩ (.slice A1 m1 k1)).setCell ⟨w.heap.size + 1, 3, none⟩ (.slice A2 m2 k2)).setCell ⟨w.heap.size + 1, 4, none⟩ (.slice A3 m3 k3)) = WF at *
  have hG : Blk WF (w.heap.size + 1) #[.int .i64 RR.1.room, .int .i64 RR.1.next, .slice A1 m1 k1, .slice A2 m2 k2, .slice A3 m3 k3] 28 := hF
  have l0 := hG.cell 0 (.int .i64 RR.1.room) rfl
  have l1 := hG.cell 1 (.int .i64 RR.1.next) rfl
  have l2 := hG.cell 2 (.slice A1 m1 k1) rfl
  have l3 := hG.cell 3 (.slice A2 m2 k2) rfl
  have l4 := hG.cell 4 (.slice A3 m3 k3) rfl
  exact bodyPost_ret (v := .tuple #[.agg #[.int .i64 RR.1.room, .int .i64 RR.1.next, .slice A1 m1 k1, .slice A2 m2 k2, .slice A3 m3 k3], .int .i64 RR.2]) (by simp [results, go_sem, l0, l1, l2, l3, l4]) rfl (by rw [hRR.out]; exact ⟨_, rfl, ⟨_, _, _, rfl, F0, F1, F2⟩, FB⟩)
end Go.Proofs.YtgjilgecklhglaaGreat
namespace Go.Proofs.YtgjilgecklhglaaGreat
open Go.ChangeShapes Go.WideShapes Go.ChangeAt Go.RowKit Go.PlainAid Go.Maps
set_option linter.unusedVariables false
theorem ptrAt_prs : ∀ (ns : List Nod) (gs : List Nat) (id : Int), gs.length = ns.length → (∃ x ∈ ns, x.id = id) → (ptrAt (prs ns gs) id).isSome = true
 | [], _, _, _, h => by obtain ⟨x, hx, _⟩ := h; cases hx
 | _ :: _, [], _, h, _ => by cases h
 | y :: r, g :: s, id, hl, h => by
  unfold ptrAt prs
  simp only [List.map_cons, List.zip_cons_cons, List.find?_cons]
  by_cases e : y.id = id
  ·rw [decide_eq_true e]
   rfl
  ·rw [decide_eq_false e]
   obtain ⟨x, hx, hid⟩ := h
   rcases List.mem_cons.1 hx with rfl | hx
   ·exact absurd hid e
   ·exact ptrAt_prs r s id (by simpa using hl) ⟨x, hx, hid⟩
theorem linked_nod {d : Dsk} {l : List Lnk} (h : Linked d l) {x : Lnk} (hx : x ∈ l) : ∃ y ∈ d.nods, y.id = x.id := by
 have h1 := h.ids x hx
 rcases e : nodAt d.nods x.id with _ | j
 ·rw [e] at h1; cases h1
 ·obtain ⟨hj, hid⟩ := nodAt_at e
  exact ⟨d.nods.getD j default, getD_mem d.nods j hj, hid⟩
theorem prs_rise {ns : List Nod} {gs : List Nat} (h : Rising ns) : (prs ns gs).Pairwise fun a b => a.1 < b.1 := by
 unfold prs
 have h1 : (ns.map (·.id)).Pairwise (· < ·) := by rw [List.pairwise_map]; exact h
 generalize ns.map (·.id) = is at h1
 clear h
 induction is generalizing gs with
 | nil => simp
 | cons a r ih =>
  cases gs with
  | nil => simp
  | cons g s =>
   rw [List.zip_cons_cons, List.pairwise_cons]
   rw [List.pairwise_cons] at h1
   exact ⟨fun q hq => h1.1 q.1 (List.of_mem_zip hq).1, ih h1.2⟩
theorem sorted_one {l : List Lnk} (h : Sorted l) : ∀ x ∈ l, ∀ y ∈ l, x.name = y.name → x = y := by
 intro x hx y hy e
 obtain ⟨i, hi, rfl⟩ := List.getElem_of_mem hx
 obtain ⟨j, hj, rfl⟩ := List.getElem_of_mem hy
 rcases Nat.lt_trichotomy i j with hij | hij | hij
 ·have := (List.pairwise_iff_getElem.1 h) i j hi hj hij
  rw [e] at this
  exact absurd this (by rw [ahead_irrefl]; simp)
 ·subst hij; rfl
 ·have := (List.pairwise_iff_getElem.1 h) j i hj hi hij
  rw [e] at this
  exact absurd this (by rw [ahead_irrefl]; simp)
set_option maxRecDepth 20000 in
set_option maxHeartbeats 4000000 in
theorem settleV (w : World) (base p : Nat) (d : Dsk) (bi bd bw : Nat) (gs : List Nat) (u : Value) (bn : Nat) (l : List Lnk) (h : OpenD w base p d bi bd bw gs u) (hd : Whole d) (hr : Rising d.nods) (hl : Linked d l) (hn : NT w bn l) (hnp : p ≠ bn) (hll : l.length ≤ 1000) (hB : base ≤ w.heap.size) :
  Calls Tryz.prog 49 #[.pointer (some ⟨p, 0, none⟩), .map (some bn)] w fun e w' => (∃ r, e = .returned r) ∧ (∃ bl bc, Blk w' p #[.int .i64 d.room, .int .i64 d.next, .map (some bl), .map (some bn), .slice none 0 0, .map (some bc)] 86 ∧ IT w' bl (prs (keptN l d.nods) (keptG l d.nods gs)) ∧ Held w' d.nods gs ∧ NT w' bn l) ∧ Below base w w' := by
 have HO : Hid (OpenD w base p d bi bd bw gs u) := h
 have HD : Hid (Whole d) := hd
 have HR : Hid (Rising d.nods) := hr
 have HL : Hid (Linked d l) := hl
 have HN : Hid (NT w bn l) := hn
 have HNP : Hid (p ≠ bn) := hnp
 have HB : Hid (base ≤ w.heap.size) := hB
 have hnt := hn.tight
 have HLL : Hid (l.length ≤ 1000) := hll
 have hmm := fun t wx => run_makeMap (P := Tryz.prog) t wx
 have e1 : (w.alloc (.map #[] 0)).heap.size = w.heap.size + 1 := by simp
 clear h hd hr hl hn hnp hB
 go_enter Tryz.func49, Tryz.ntmps49
 go_wp2_with (first
  | (at_range; refine wpList_range_own _ rfl _ 84 rfl 9 3 (string_keyed Tryz.underlying9) Tryz.underlying84 _ bn l.length _ rfl (hnt.alloc _) ?_; intro w0 hrg0 hg0 hs0)
  | go_in)
 go_frame
 rw [e1] at hrg0 hs0 ⊢
 go_loopw [6] (fun _ wr => ∃ (left : Lit → Bool) (cnt k : Nat) (Dout : DataW Unit), wr.ranges Tryz.prog 9 intElem bn (w.heap.size + 1) l.length (linkD l) left cnt ∧ k + cnt ≤ l.length ∧
   wr.ownsMap Tryz.prog 3 ptrElem w.heap.size k Dout ∧ Gath l (prs d.nods gs) left Dout ∧ Below w.heap.size w wr)
  (fun _ wr => wr.rangeLeft bn (w.heap.size + 1))
 case atStart =>
  exact ⟨_, _, 0, .map [], hrg0, by rw [linkD_size]; omega, (World.ownsMap_made _ _ _ _).kept hg0 (by simp), gath_start l _, ((Below.refl _ _).alloc (Nat.le_refl _) _).grown hg0 (by simp) (fun j hj => by cases hj)⟩
 case round =>
  obtain ⟨left, cnt, k, Dout, hrg, hkc, hout, hA, hnx⟩ := hrel
  go_wp2_with (first
   | (at_next; refine wpList_next_ranges _ rfl _ rfl 9 (string_keyed Tryz.underlying9) intElem (fun (s : ByteArray) => Value.string s) (fun (c : Int) => Value.int .i64 c) ?_ ?_ bn (w.heap.size + 1) l.length _ _ _ rfl hrg ?_ ?_)
   | go_in)
  ·intro key kl hk
   obtain ⟨s, rfl, _, _⟩ := Go.WideMaps.string_of_keyOf Tryz.underlying9 hk
   exact ⟨s, rfl⟩
  ·intro v y hv
   unfold intElem at hv
   split at hv
   ·exact ⟨_, rfl⟩
   ·cases hv
  ·-- nothing is left
   intro hc0 hl0
   have hD := gath_end hA hl0 (hout.canon (int_keyed Tryz.underlying3)) (prs_rise HR.out) (fun x hx => ptrAt_prs d.nods gs x.id HO.out.held.len (linked_nod HL.out hx))
   rw [(prs_kept l d.nods gs HO.out.held.len).1] at hD
   subst hD
   have IR : Hid (IT wr w.heap.size (prs (keptN l d.nods) (keptG l d.nods gs))) := ⟨_, hout⟩
   have NR : Hid (NT wr bn l) := ⟨_, hrg.owns⟩
   have BR : Hid (Below w.heap.size w wr) := hnx
   have KR : Hid (Blk wr p #[.int .i64 d.room, .int .i64 d.next, .map (some bi), .map (some bd), u, .map (some bw)] 86) := HO.out.blk.on hnx HO.out.blk.lt
   have HHR : Hid (Held wr d.nods gs) := HO.out.held.on hnx HO.out.held.lt
   have hru := hrg.lt
   have cC := cloneNV wr bn l NR.out
   clear hout hrg hA hnx hc0 hl0 hkc hru
   go_wp2_with fail
   refine cC.mono ?_
   rintro e w4 ⟨rfl, hN4, hb4⟩
   have B4 : Hid (Below w.heap.size w w4) := BR.out.trans (hb4.mono BR.out.size)
   have K4 : Hid (Blk w4 p #[.int .i64 d.room, .int .i64 d.next, .map (some bi), .map (some bd), u, .map (some bw)] 86) := KR.out.on hb4 KR.out.lt
   have I4 : Hid (IT w4 w.heap.size (prs (keptN l d.nods) (keptG l d.nods gs))) := IR.out.on hb4 IR.out.lt
   have H4 : Hid (Held w4 d.nods gs) := HHR.out.on hb4 HHR.out.lt
   have N4 : Hid (NT w4 bn l) := NR.out.on hb4 NR.out.lt
   have PL : Hid (p < w.heap.size) := HO.out.blk.lt
   clear hN4 hb4 cC
   have y2 := K4.out.cell 2 _ rfl
   have z2 := K4.out.free 2
   have y3 := K4.out.cell 3 _ rfl
   have z3 := K4.out.free 3
   have y4 := K4.out.cell 4 _ rfl
   have z4 := K4.out.free 4
   have y5 := K4.out.cell 5 _ rfl
   have z5 := K4.out.free 5
   go_wp2_with fail
   have hkeep : ∀ g, g ≠ p → ((((w4.setCell ⟨p, 2, none⟩ (.map (some w.heap.size))).setCell ⟨p, 3, none⟩ (.map (some bn))).setCell ⟨p, 4, none⟩ (.slice none 0 0)).setCell ⟨p, 5, none⟩ (.map (some wr.heap.size))).heap[g]? = w4.heap[g]? := fun g hg => by
    rw [Below.heap_setCell _ ⟨p, 5, none⟩ _ _ hg, Below.heap_setCell _ ⟨p, 4, none⟩ _ _ hg, Below.heap_setCell _ ⟨p, 3, none⟩ _ _ hg, Below.heap_setCell _ ⟨p, 2, none⟩ _ _ hg]
   have hBB : Below base w ((((w4.setCell ⟨p, 2, none⟩ (.map (some w.heap.size))).setCell ⟨p, 3, none⟩ (.map (some bn))).setCell ⟨p, 4, none⟩ (.slice none 0 0)).setCell ⟨p, 5, none⟩ (.map (some wr.heap.size))) := ((((B4.out.mono HB.out).setCell (p := ⟨p, 2, none⟩) HO.out.lo.1 _).setCell (p := ⟨p, 3, none⟩) HO.out.lo.1 _).setCell (p := ⟨p, 4, none⟩) HO.out.lo.1 _).setCell (p := ⟨p, 5, none⟩) HO.out.lo.1 _
   have hKK := ((((K4.out.set 2 (.map (some w.heap.size))).set 3 (.map (some bn))).set 4 (.slice none 0 0)).set 5 (.map (some wr.heap.size)))
   exact bodyPost_end (v := .tuple #[]) (by simp [results, go_sem]) rfl ⟨⟨_, rfl⟩, ⟨w.heap.size, wr.heap.size, hKK, I4.out.kept (hkeep _ (by have := PL.out; omega)), H4.out.kept fun g hg => hkeep g (HO.out.gl g hg).2.1, N4.out.kept (hkeep bn HNP.out.symm)⟩, hBB⟩
  ·-- a name has come
   intro s c kl y ps w1 cnt1 hkey hlk hv hat hrg1 hlt hg1 hs1 hen
   obtain ⟨s', es, rfl, hsz⟩ := Go.WideMaps.string_of_keyOf Tryz.underlying9 hkey
   injection es with es
   subst es
   have hy : y = .lit (.int .i64 c) := by
    unfold intElem at hv
    simp at hv
    exact hv.1.symm
   subst hy
   obtain ⟨x, hx, hxn, hxi⟩ := link_of (l := l) (s := s) (c := c) hat
   obtain ⟨nd, hnd, hndi⟩ := linked_nod HL.out hx
   have hids := nod_ids HD.out nd hnd
   have hPs := ptrAt_prs d.nods gs c HO.out.held.len ⟨nd, hnd, by omega⟩
   obtain ⟨g, hg⟩ := Option.isSome_iff_exists.1 hPs
   have hB1 : Below w.heap.size w w1 := hnx.grown hg1 hnx.size (fun j hj => by cases hj; exact Nat.le_succ _)
   have hval := ((HO.out.it.on hB1 HO.out.it.lt).val c ⟨by omega, by omega⟩).2 g hg
   have hout1 := hout.kept hg1 (by simp)
   obtain ⟨w2, r2, hout2, ht2⟩ := hout1.store (int_keyed Tryz.underlying3) Tryz.underlying82 (by unfold maxLen; have := HLL.out; omega) (intK_of (a := c) ⟨by omega, by omega⟩) (ptrElem_mk g)
   have hrg2 := hrg1.kept ht2.grown (fun e => by have := Option.some.inj e; have := HN.out.lt; omega) (fun e => by have := Option.some.inj e; omega)
   have hB2 : Below w.heap.size w w2 := hB1.grown ht2.grown hB1.size (fun j hj => by cases hj; exact Nat.le_refl _)
   have hGG := gath_step hA hout.isMap (fun a ha b hb => sorted_one HL.out.sorted a ha b hb) hat hg
   have k2 := (HO.out.blk.on hB1 HO.out.blk.lt).cell 2 _ rfl
   have REL : Hid (∃ (left : Lit → Bool) (cnt k : Nat) (Dout : DataW Unit), w2.ranges Tryz.prog 9 intElem bn (w.heap.size + 1) l.length (linkD l) left cnt ∧ k + cnt ≤ l.length ∧ w2.ownsMap Tryz.prog 3 ptrElem w.heap.size k Dout ∧ Gath l (prs d.nods gs) left Dout ∧ Below w.heap.size w w2) := ⟨_, cnt1, k + 1, _, hrg2, by omega, hout2, hGG, hB2⟩
   have MEA : Hid (w2.rangeLeft bn (w.heap.size + 1) < wr.rangeLeft bn (w.heap.size + 1)) := by unfold Hid; rw [hrg2.left_eq, hrg.left_eq]; exact hlt
   clear hrg hout hA hnx hrg1 hg1 hs1 hout1 hout2 ht2 hrg2 hGG hat hv hkey hlk hPs hg hB1 hB2
   go_wp2_with fail
   go_roundw
   case rel => exact REL.out
   case measure => exact MEA.out
end Go.Proofs.YtgjilgecklhglaaGreat
namespace Go.Proofs.YtgjilgecklhglaaGreat
open Go.ChangeShapes Go.WideShapes Go.ChangeAt Go.RowKit Go.PlainAid
set_option linter.unusedVariables false
def syncDirD (d : Dsk) : Dsk := ⟨d.room, d.next, keptN (now d) d.nods, now d, []⟩
theorem held_tail {w : World} {x : Nod} {r : List Nod} {g : Nat} {s : List Nat} (h : Held w (x :: r) (g :: s)) : Blk w g #[.int .i64 x.id, .string x.data, .int .i64 x.sure] 47 ∧ Held w r s :=
 ⟨h.blk 0 (by simp), ⟨by have := h.len; simpa using this, fun j hj => h.blk (j + 1) (by simpa using hj)⟩⟩
theorem held_cons {w : World} {x : Nod} {r : List Nod} {g : Nat} {s : List Nat} (hg : Blk w g #[.int .i64 x.id, .string x.data, .int .i64 x.sure] 47) (h : Held w r s) : Held w (x :: r) (g :: s) :=
 ⟨by simp [h.len], fun j hj => by
  cases j with
  | zero => exact hg
  | succ j => exact h.blk j (by simpa using hj)⟩
theorem held_kept {w : World} (l : List Lnk) : ∀ (ns : List Nod) (gs : List Nat), Held w ns gs → Held w (keptN l ns) (keptG l ns gs)
 | [], [], h => h
 | [], _ :: _, h => by have := h.len; cases this
 | _ :: _, [], h => by have := h.len; cases this
 | x :: r, g :: s, h => by
  obtain ⟨h1, h2⟩ := held_tail h
  have ih := held_kept l r s h2
  have eg : keptG l (x :: r) (g :: s) = if linked l x.id = true then g :: keptG l r s else keptG l r s := by rw [keptG]
  have en : keptN l (x :: r) = if linked l x.id = true then x :: keptN l r else keptN l r := by unfold keptN; rw [List.filter_cons]
  rw [eg, en]
  split
  ·exact held_cons h1 ih
  ·exact ih
set_option maxHeartbeats 1000000 in
theorem syncNamesV (w : World) (base p : Nat) (d : Dsk) (bi bd bw : Nat) (gs : List Nat) (u : Value) (h : OpenD w base p d bi bd bw gs u) (hd : Whole d) (hw : wtD d ≤ 1048576) (hB : base ≤ w.heap.size) :
  Calls Tryz.prog 95 #[.pointer (some ⟨p, 0, none⟩)] w fun e w' => e = .returned (.int .i64 0) ∧ Tellable w' p (syncDirD d) ∧ Below base w w' := by
 have HT : Hid (Tellable w p d) := h.tell hd hw
 have hR := (sizeOk_iff d).1 hd.size
 have HLN : Hid ((now d).length ≤ 1000) := by
  have h1 := names_len d.dir d.movs
  have := hR.l
  have := hR.m
  unfold Hid now
  omega
 have HLK : Hid (Linked d (now d)) := now_linked hd
 have cS := settleV w base p d bi bd bw gs u bw (now d) h hd HT.out.rise HLK.out h.nw h.pw HLN.out hB
 have x5 := h.blk.cell 5 _ rfl
 clear h hd hw hB hR
 go_enter Tryz.func95, Tryz.ntmps95
 go_wp2_with fail
 refine cS.mono ?_
 rintro e w1 ⟨⟨r, rfl⟩, ⟨bl, bc, hK, hI, hH, hN⟩, hb⟩
 have HB : Hid (Below base w w1) := hb
 have HTT : Hid (Tellable w1 p (syncDirD d)) := by
  refine ⟨⟨bl, bw, keptG (now d) d.nods gs, .slice none 0 0, .map (some bc), hK, hI, held_kept (now d) d.nods gs hH, hN, ⟨none, 0, rfl, ⟨fun _ => rfl, Nat.le_refl _⟩, fun r hr => (by cases hr), .inl rfl⟩⟩, ?_, HLK.out.sorted, HLK.out.ok, ?_, HLN.out, ?_, ?_, ?_⟩
  ·exact HT.out.rise.filter _
  ·show (keptN (now d) d.nods).length ≤ 1000
   have h1 : (keptN (now d) d.nods).length ≤ d.nods.length := List.length_filter_le _ _
   have := HT.out.n1
   omega
  ·show (0 : Nat) ≤ 1000
   omega
  ·intro x hx
   exact HT.out.nx x (List.mem_filter.1 hx).1
  ·intro x hx
   cases hx
 clear cS hb hK hI hH hN x5
 go_wp2_with fail
 go_ret
 exact ⟨rfl, HTT.out, HB.out⟩
def syncDirR (d : Dsk)  : Dsk × Int := if diskOk d = true then (syncDirD d, 0) else (zeroD, 1)
theorem syncDirR_yes {d : Dsk} (h : diskOk d = true) : syncDirR d  = (syncDirD d, 0) := by unfold syncDirR; rw [if_pos h]
theorem syncDirR_no {d : Dsk} (h : diskOk d = false) : syncDirR d  = (zeroD, 1) := by unfold syncDirR; rw [if_neg (by rw [h]; simp)]
end Go.Proofs.YtgjilgecklhglaaGreat
namespace Go.Proofs.YtgjilgecklhglaaGreat
open Go.ChangeShapes Go.WideShapes Go.ChangeAt Go.RowKit Go.PlainAid
set_option linter.unusedVariables false
def cutS (n : Nat) (sure more : Int) : Int := if more < 0 then sure else if (n : Int) - sure < more then (n : Int) else sure + more
def cutN (x : Nod) (more : Int) : Nod := ⟨x.id, x.data.extract 0 (cutS x.data.size x.sure more).toNat, cutS x.data.size x.sure more⟩
theorem cutS_in {n : Nat} {sure more : Int} (h0 : 0 ≤ sure) (h1 : sure ≤ n) : sure ≤ cutS n sure more ∧ cutS n sure more ≤ n := by
 unfold cutS
 split
 ·omega
 ·split <;> omega
theorem wrap_in {z : Int} (h1 : -9223372036854775808 ≤ z) (h2 : z ≤ 9223372036854775807) : IntKind.i64.wrap z = z := by
 rw [IntKind.wrap_i64]; omega
theorem cutN_size (x : Nod) (more : Int) : (cutN x more).data.size ≤ x.data.size := by
 unfold cutN
 simp only [ByteArray.size_extract]
 omega
theorem cutS_more (n : Nat) (sure more : Int) (h0 : 0 ≤ sure) (h1 : sure ≤ n) : (if (n : Int) - sure < (if more < 0 then 0 else more) then (n : Int) - sure else (if more < 0 then 0 else more)) = cutS n sure more - sure := by
 unfold cutS
 by_cases c1 : more < 0
 ·rw [if_pos c1, if_pos c1, if_neg (by omega)]
  omega
 ·rw [if_neg c1, if_neg c1]
  by_cases c2 : (n : Int) - sure < more
  ·rw [if_pos c2, if_pos c2]
  ·rw [if_neg c2, if_neg c2]
   omega
set_option maxRecDepth 20000 in
set_option maxHeartbeats 2000000 in
theorem cutOffV (w : World) (g : Nat) (x : Nod) (more : Int) (hk : Blk w g #[.int .i64 x.id, .string x.data, .int .i64 x.sure] 47) (h0 : 0 ≤ x.sure) (h1 : x.sure ≤ x.data.size) (h2 : x.data.size ≤ 281474976710656) :
  Calls Tryz.prog 47 #[.pointer (some ⟨g, 0, none⟩), .int .i64 more] w fun e w' => (∃ r, e = .returned r) ∧ Blk w' g #[.int .i64 (cutN x more).id, .string (cutN x more).data, .int .i64 (cutN x more).sure] 47 ∧ But (fun i => i = g) w w' := by
 obtain ⟨id, data, sure⟩ := x
 simp only at h0 h1 h2 hk
 have HK : Hid (Blk w g #[.int .i64 id, .string data, .int .i64 sure] 47) := hk
 have q : (data.size : Int) ≤ 281474976710656 := by omega
 have hS := cutS_in (n := data.size) (more := more) h0 h1
 obtain ⟨M, hM⟩ : ∃ M, M = cutS data.size sure more - sure := ⟨_, rfl⟩
 have HM : Hid ((if (data.size : Int) - sure < (if more < 0 then 0 else more) then (data.size : Int) - sure else (if more < 0 then 0 else more)) = M) := by
  unfold Hid; rw [hM]; exact cutS_more data.size sure more h0 h1
 have e1 : cutS data.size sure more = sure + M := by omega
 unfold cutN
 simp only
 rw [e1] at hS ⊢
 have m0 : 0 ≤ M := by omega
 have m1 : sure + M ≤ data.size := hS.2
 have m2 : 0 ≤ sure + M := by omega
 generalize hN : (if more < 0 then (0 : Int) else more) = N at HM
 have HN : Hid ((if more < 0 then (0 : Int) else more) = N) := hN
 clear hk hM e1 hS hN
 have S0 : Hid (w.drew.cell? ⟨g, 1, none⟩ = some (.string data) ∧ w.drew.cell? ⟨g, 2, none⟩ = some (.int .i64 sure)) := ⟨HK.out.cell 1 _ rfl, HK.out.cell 2 _ rfl⟩
 have x1 := HK.out.cell 1 _ rfl
 have x2 := HK.out.cell 2 _ rfl
 have z2 := HK.out.free 2
 have z1 := HK.out.free 1
 go_enter Tryz.func47, Tryz.ntmps47
 go_wp2_with fail
 refine wp_region_until (fun w' => w'.cell? ⟨g, 1, none⟩ = some (.string data) ∧ w'.cell? ⟨g, 2, none⟩ = some (.int .i64 sure)) (fun i => i == 20) 21 (by rfl) (by kernel_rfl) ?_
 refine tKf 0 S0.out ?_
 refine tKf 1 S0.out ?_
 refine tKf 2 S0.out ?_
 refine tKf 3 S0.out ?_
 refine tKf 4 S0.out ?_
 refine tKe 5 (v := .int .i64 N) S0.out ?_ ?_
 ·intro w hSw
  try dsimp only at hSw
  go_simp
  try simp only [gt_iff_lt]
  try first | rw [HN.out] | (rw [← HN.out]; split <;> omega)
  try with_reducible rfl
 try simp only [Act.put, zQ1, zQ2, zQ3]
 refine tKf 6 S0.out ?_
 refine tKf 7 S0.out ?_
 refine tKf 8 S0.out ?_
 refine tKf 9 S0.out ?_
 refine tKf 10 S0.out ?_
 refine tKf 11 S0.out ?_
 refine tKf 12 S0.out ?_
 refine tKf 13 S0.out ?_
 refine tKf 14 S0.out ?_
 refine tKe 15 (v := .int .i64 ((data.size : Int) - sure)) S0.out ?_ ?_
 ·intro w hSw
  try dsimp only at hSw
  go_simp
  try rw [wrap_in (show -9223372036854775808 ≤ (data.size : Int) - sure by omega) (by omega)]
  try with_reducible rfl
 try simp only [Act.put, zQ1, zQ2, zQ3]
 refine tKe 16 (v := .int .i64 M) S0.out ?_ ?_
 ·intro w hSw
  try dsimp only at hSw
  go_simp
  try first | rw [HM.out] | (rw [← HM.out]; split <;> omega)
  try with_reducible rfl
 try simp only [Act.put, zQ1, zQ2, zQ3]
 refine tKe 17 (v := .int .i64 (sure + M)) S0.out ?_ ?_
 ·intro w hSw
  try dsimp only at hSw
  go_simp
  try rw [wrap_in (show -9223372036854775808 ≤ sure + M by omega) (by omega)]
  try with_reducible rfl
 try simp only [Act.put, zQ1, zQ2, zQ3]
 refine tKf 18 S0.out ?_
 refine tKf 19 S0.out ?_
 refine uNe 20 (fun K hK => ?_)
 go_simp
 refine hK.out _ _ (fun h => by cases h) ?_
 clear hK K
 try simp only [Act.put, zQ1, zQ2, zQ3]
 refine until_done (by kernel_rfl) ?_ _
 have K1 : Hid (Blk (w.setCell ⟨g, 2, none⟩ (.int .i64 (sure + M))).drew g #[.int .i64 id, .string data, .int .i64 (sure + M)] 47) := HK.out.set 2 _
 have B1 : Hid (But (fun i => i = g) w (w.setCell ⟨g, 2, none⟩ (.int .i64 (sure + M))).drew) := ((But.refl (fun i => i = g) w).setCell (p := ⟨g, 2, none⟩) (fun _ => rfl) _).drew
 generalize (w.setCell ⟨g, 2, none⟩ (.int .i64 (sure + M))).drew = w1 at *
 clear S0 x1 x2 z1 z2 HK HM HN
 have S1 : Hid (w1.drew.cell? ⟨g, 1, none⟩ = some (.string data) ∧ w1.drew.cell? ⟨g, 2, none⟩ = some (.int .i64 (sure + M))) := ⟨K1.out.cell 1 _ rfl, K1.out.cell 2 _ rfl⟩
 have z1 := K1.out.free 1
 have x1 : w1.cell? ⟨g, 1, none⟩ = some (.string data) := K1.out.cell 1 _ rfl
 go_wp2_with fail
 refine wp_region_until (fun w' => w'.cell? ⟨g, 1, none⟩ = some (.string data) ∧ w'.cell? ⟨g, 2, none⟩ = some (.int .i64 (sure + M))) (fun i => i == 12) 13 (by rfl) (by kernel_rfl) ?_
 refine tKf 0 S1.out ?_
 refine tKf 1 S1.out ?_
 refine tKf 2 S1.out ?_
 refine tKf 3 S1.out ?_
 refine tKf 4 S1.out ?_
 refine tKf 5 S1.out ?_
 refine tKf 6 S1.out ?_
 refine tKf 7 S1.out ?_
 refine tKf 8 S1.out ?_
 refine tKf 9 S1.out ?_
 refine tKf 10 S1.out ?_
 refine tKf 11 S1.out ?_
 refine uNe 12 (fun K hK => ?_)
 go_simp
 refine hK.out _ _ (fun h => by cases h) ?_
 clear hK K
 try simp only [Act.put, zQ1, zQ2, zQ3]
 refine until_done (by kernel_rfl) ?_ _
 have K2 := K1.out.set 1 (.string (data.extract 0 (sure + M).toNat))
 have B2 := B1.out.setCell (p := ⟨g, 1, none⟩) (fun _ => rfl) (.string (data.extract 0 (sure + M).toNat))
 go_wp2_with fail
 exact bodyPost_end (v := .tuple #[]) (by simp [results, go_sem]) rfl ⟨⟨_, rfl⟩, K2, B2.drew⟩
end Go.Proofs.YtgjilgecklhglaaGreat
namespace Go.Proofs.YtgjilgecklhglaaGreat
open Go.ChangeShapes Go.WideShapes Go.ChangeAt Go.RowKit Go.PlainAid Go.Maps
set_option linter.unusedVariables false
set_option maxRecDepth 20000 in
set_option maxHeartbeats 4000000 in
theorem settleG (w : World) (base p : Nat) (room next : Int) (bi : Nat) (ns : List Nod) (gs : List Nat) (vd u vw : Value) (bn : Nat) (l : List Lnk)
  (hblk : Blk w p #[.int .i64 room, .int .i64 next, .map (some bi), vd, u, vw] 86) (hit : IT w bi (prs ns gs)) (hheld : Held w ns gs) (hgl : ∀ g ∈ gs, g ≠ p) (hlo : base ≤ p) (hids : ∀ x ∈ ns, 1 ≤ x.id ∧ x.id ≤ 1000000) (hr : Rising ns) (hso : Sorted l) (hln : ∀ x ∈ l, ∃ y ∈ ns, y.id = x.id) (hn : NT w bn l) (hnp : p ≠ bn) (hll : l.length ≤ 1000) (hB : base ≤ w.heap.size) :
  Calls Tryz.prog 49 #[.pointer (some ⟨p, 0, none⟩), .map (some bn)] w fun e w' => (∃ r, e = .returned r) ∧ (∃ bl bc, Blk w' p #[.int .i64 room, .int .i64 next, .map (some bl), .map (some bn), .slice none 0 0, .map (some bc)] 86 ∧ IT w' bl (prs (keptN l ns) (keptG l ns gs)) ∧ Held w' ns gs ∧ NT w' bn l) ∧ Below base w w' := by
 have HK : Hid (Blk w p #[.int .i64 room, .int .i64 next, .map (some bi), vd, u, vw] 86) := hblk
 have HIT : Hid (IT w bi (prs ns gs)) := hit
 have HHD : Hid (Held w ns gs) := hheld
 have HGL : Hid (∀ g ∈ gs, g ≠ p) := hgl
 have HLO : Hid (base ≤ p) := hlo
 have HID : Hid (∀ x ∈ ns, 1 ≤ x.id ∧ x.id ≤ 1000000) := hids
 have HSO : Hid (Sorted l) := hso
 have HLK : Hid (∀ x ∈ l, ∃ y ∈ ns, y.id = x.id) := hln
 have HR : Hid (Rising ns) := hr
 have HN : Hid (NT w bn l) := hn
 have HNP : Hid (p ≠ bn) := hnp
 have HB : Hid (base ≤ w.heap.size) := hB
 have hnt := hn.tight
 have HLL : Hid (l.length ≤ 1000) := hll
 have hmm := fun t wx => run_makeMap (P := Tryz.prog) t wx
 have e1 : (w.alloc (.map #[] 0)).heap.size = w.heap.size + 1 := by simp
 clear hblk hit hheld hgl hlo hids hr hso hln hn hnp hB
 go_enter Tryz.func49, Tryz.ntmps49
 go_wp2_with (first
  | (at_range; refine wpList_range_own _ rfl _ 84 rfl 9 3 (string_keyed Tryz.underlying9) Tryz.underlying84 _ bn l.length _ rfl (hnt.alloc _) ?_; intro w0 hrg0 hg0 hs0)
  | go_in)
 go_frame
 rw [e1] at hrg0 hs0 ⊢
 go_loopw [6] (fun _ wr => ∃ (left : Lit → Bool) (cnt k : Nat) (Dout : DataW Unit), wr.ranges Tryz.prog 9 intElem bn (w.heap.size + 1) l.length (linkD l) left cnt ∧ k + cnt ≤ l.length ∧
   wr.ownsMap Tryz.prog 3 ptrElem w.heap.size k Dout ∧ Gath l (prs ns gs) left Dout ∧ Below w.heap.size w wr)
  (fun _ wr => wr.rangeLeft bn (w.heap.size + 1))
 case atStart =>
  exact ⟨_, _, 0, .map [], hrg0, by rw [linkD_size]; omega, (World.ownsMap_made _ _ _ _).kept hg0 (by simp), gath_start l _, ((Below.refl _ _).alloc (Nat.le_refl _) _).grown hg0 (by simp) (fun j hj => by cases hj)⟩
 case round =>
  obtain ⟨left, cnt, k, Dout, hrg, hkc, hout, hA, hnx⟩ := hrel
  go_wp2_with (first
   | (at_next; refine wpList_next_ranges _ rfl _ rfl 9 (string_keyed Tryz.underlying9) intElem (fun (s : ByteArray) => Value.string s) (fun (c : Int) => Value.int .i64 c) ?_ ?_ bn (w.heap.size + 1) l.length _ _ _ rfl hrg ?_ ?_)
   | go_in)
  ·intro key kl hk
   obtain ⟨s, rfl, _, _⟩ := Go.WideMaps.string_of_keyOf Tryz.underlying9 hk
   exact ⟨s, rfl⟩
  ·intro v y hv
   unfold intElem at hv
   split at hv
   ·exact ⟨_, rfl⟩
   ·cases hv
  ·-- nothing is left
   intro hc0 hl0
   have hD := gath_end hA hl0 (hout.canon (int_keyed Tryz.underlying3)) (prs_rise HR.out) (fun x hx => ptrAt_prs ns gs x.id HHD.out.len (HLK.out x hx))
   rw [(prs_kept l ns gs HHD.out.len).1] at hD
   subst hD
   have IR : Hid (IT wr w.heap.size (prs (keptN l ns) (keptG l ns gs))) := ⟨_, hout⟩
   have NR : Hid (NT wr bn l) := ⟨_, hrg.owns⟩
   have BR : Hid (Below w.heap.size w wr) := hnx
   have KR : Hid (Blk wr p #[.int .i64 room, .int .i64 next, .map (some bi), vd, u, vw] 86) := HK.out.on hnx HK.out.lt
   have HHR : Hid (Held wr ns gs) := HHD.out.on hnx HHD.out.lt
   have hru := hrg.lt
   have cC := cloneNV wr bn l NR.out
   clear hout hrg hA hnx hc0 hl0 hkc hru
   go_wp2_with fail
   refine cC.mono ?_
   rintro e w4 ⟨rfl, hN4, hb4⟩
   have B4 : Hid (Below w.heap.size w w4) := BR.out.trans (hb4.mono BR.out.size)
   have K4 : Hid (Blk w4 p #[.int .i64 room, .int .i64 next, .map (some bi), vd, u, vw] 86) := KR.out.on hb4 KR.out.lt
   have I4 : Hid (IT w4 w.heap.size (prs (keptN l ns) (keptG l ns gs))) := IR.out.on hb4 IR.out.lt
   have H4 : Hid (Held w4 ns gs) := HHR.out.on hb4 HHR.out.lt
   have N4 : Hid (NT w4 bn l) := NR.out.on hb4 NR.out.lt
   have PL : Hid (p < w.heap.size) := HK.out.lt
   clear hN4 hb4 cC
   have y2 := K4.out.cell 2 _ rfl
   have z2 := K4.out.free 2
   have y3 := K4.out.cell 3 _ rfl
   have z3 := K4.out.free 3
   have y4 := K4.out.cell 4 _ rfl
   have z4 := K4.out.free 4
   have y5 := K4.out.cell 5 _ rfl
   have z5 := K4.out.free 5
   go_wp2_with fail
   have hkeep : ∀ g, g ≠ p → ((((w4.setCell ⟨p, 2, none⟩ (.map (some w.heap.size))).setCell ⟨p, 3, none⟩ (.map (some bn))).setCell ⟨p, 4, none⟩ (.slice none 0 0)).setCell ⟨p, 5, none⟩ (.map (some wr.heap.size))).heap[g]? = w4.heap[g]? := fun g hg => by
    rw [Below.heap_setCell _ ⟨p, 5, none⟩ _ _ hg, Below.heap_setCell _ ⟨p, 4, none⟩ _ _ hg, Below.heap_setCell _ ⟨p, 3, none⟩ _ _ hg, Below.heap_setCell _ ⟨p, 2, none⟩ _ _ hg]
   have hBB : Below base w ((((w4.setCell ⟨p, 2, none⟩ (.map (some w.heap.size))).setCell ⟨p, 3, none⟩ (.map (some bn))).setCell ⟨p, 4, none⟩ (.slice none 0 0)).setCell ⟨p, 5, none⟩ (.map (some wr.heap.size))) := ((((B4.out.mono HB.out).setCell (p := ⟨p, 2, none⟩) HLO.out _).setCell (p := ⟨p, 3, none⟩) HLO.out _).setCell (p := ⟨p, 4, none⟩) HLO.out _).setCell (p := ⟨p, 5, none⟩) HLO.out _
   have hKK := ((((K4.out.set 2 (.map (some w.heap.size))).set 3 (.map (some bn))).set 4 (.slice none 0 0)).set 5 (.map (some wr.heap.size)))
   exact bodyPost_end (v := .tuple #[]) (by simp [results, go_sem]) rfl ⟨⟨_, rfl⟩, ⟨w.heap.size, wr.heap.size, hKK, I4.out.kept (hkeep _ (by have := PL.out; omega)), H4.out.kept fun g hg => hkeep g (HGL.out g hg), N4.out.kept (hkeep bn HNP.out.symm)⟩, hBB⟩
  ·-- a name has come
   intro s c kl y ps w1 cnt1 hkey hlk hv hat hrg1 hlt hg1 hs1 hen
   obtain ⟨s', es, rfl, hsz⟩ := Go.WideMaps.string_of_keyOf Tryz.underlying9 hkey
   injection es with es
   subst es
   have hy : y = .lit (.int .i64 c) := by
    unfold intElem at hv
    simp at hv
    exact hv.1.symm
   subst hy
   obtain ⟨x, hx, hxn, hxi⟩ := link_of (l := l) (s := s) (c := c) hat
   obtain ⟨nd, hnd, hndi⟩ := HLK.out x hx
   have hids := HID.out nd hnd
   have hPs := ptrAt_prs ns gs c HHD.out.len ⟨nd, hnd, by omega⟩
   obtain ⟨g, hg⟩ := Option.isSome_iff_exists.1 hPs
   have hB1 : Below w.heap.size w w1 := hnx.grown hg1 hnx.size (fun j hj => by cases hj; exact Nat.le_succ _)
   have hval := ((HIT.out.on hB1 HIT.out.lt).val c ⟨by omega, by omega⟩).2 g hg
   have hout1 := hout.kept hg1 (by simp)
   obtain ⟨w2, r2, hout2, ht2⟩ := hout1.store (int_keyed Tryz.underlying3) Tryz.underlying82 (by unfold maxLen; have := HLL.out; omega) (intK_of (a := c) ⟨by omega, by omega⟩) (ptrElem_mk g)
   have hrg2 := hrg1.kept ht2.grown (fun e => by have := Option.some.inj e; have := HN.out.lt; omega) (fun e => by have := Option.some.inj e; omega)
   have hB2 : Below w.heap.size w w2 := hB1.grown ht2.grown hB1.size (fun j hj => by cases hj; exact Nat.le_refl _)
   have hGG := gath_step hA hout.isMap (fun a ha b hb => sorted_one HSO.out a ha b hb) hat hg
   have k2 := (HK.out.on hB1 HK.out.lt).cell 2 _ rfl
   have REL : Hid (∃ (left : Lit → Bool) (cnt k : Nat) (Dout : DataW Unit), w2.ranges Tryz.prog 9 intElem bn (w.heap.size + 1) l.length (linkD l) left cnt ∧ k + cnt ≤ l.length ∧ w2.ownsMap Tryz.prog 3 ptrElem w.heap.size k Dout ∧ Gath l (prs ns gs) left Dout ∧ Below w.heap.size w w2) := ⟨_, cnt1, k + 1, _, hrg2, by omega, hout2, hGG, hB2⟩
   have MEA : Hid (w2.rangeLeft bn (w.heap.size + 1) < wr.rangeLeft bn (w.heap.size + 1)) := by unfold Hid; rw [hrg2.left_eq, hrg.left_eq]; exact hlt
   clear hrg hout hA hnx hrg1 hg1 hs1 hout1 hout2 ht2 hrg2 hGG hat hv hkey hlk hPs hg hB1 hB2
   go_wp2_with fail
   go_roundw
   case rel => exact REL.out
   case measure => exact MEA.out
end Go.Proofs.YtgjilgecklhglaaGreat
namespace Go.Proofs.YtgjilgecklhglaaGreat
open Go.ChangeShapes Go.WideShapes Go.ChangeAt Go.RowKit Go.PlainAid
set_option linter.unusedVariables false
def mixN (cuts : List Int) (ns : List Nod) (k : Nat) : List Nod := ns.mapIdx fun i x => if i < k then cutN x (cuts.getD i 0) else x
def cutL (cuts : List Int) (ns : List Nod) : List Nod := mixN cuts ns ns.length
theorem mixN_length (cuts : List Int) (ns : List Nod) (k : Nat) : (mixN cuts ns k).length = ns.length := List.length_mapIdx
theorem mixN_get (cuts : List Int) (ns : List Nod) (k j : Nat) (hj : j < ns.length) : (mixN cuts ns k).getD j default = if j < k then cutN (ns.getD j default) (cuts.getD j 0) else ns.getD j default := by
 unfold mixN
 rw [← getD_at ns j hj, List.getD_eq_getElem?_getD (l := List.mapIdx _ _), List.getElem?_mapIdx, List.getElem?_eq_getElem hj]
 rfl
theorem list_ext {l m : List Nod} (h : l.length = m.length) (hj : ∀ j, j < l.length → l.getD j default = m.getD j default) : l = m := by
 apply List.ext_getElem h
 intro j h1 h2
 have := hj j h1
 rw [List.getD_eq_getElem?_getD, List.getElem?_eq_getElem h1, List.getD_eq_getElem?_getD, List.getElem?_eq_getElem h2] at this
 exact this
theorem mixN_zero (cuts : List Int) (ns : List Nod) : mixN cuts ns 0 = ns := by
 refine list_ext (mixN_length _ _ _) fun j hj => ?_
 rw [mixN_length] at hj
 rw [mixN_get _ _ _ _ hj, if_neg (by omega)]
theorem cutL_get (cuts : List Int) (ns : List Nod) (j : Nat) (hj : j < ns.length) : (cutL cuts ns).getD j default = cutN (ns.getD j default) (cuts.getD j 0) := by
 unfold cutL
 rw [mixN_get _ _ _ _ hj, if_pos hj]
theorem cutL_length (cuts : List Int) (ns : List Nod) : (cutL cuts ns).length = ns.length := mixN_length _ _ _
theorem mixN_ids (cuts : List Int) (ns : List Nod) (k : Nat) : (mixN cuts ns k).map (·.id) = ns.map (·.id) := by
 apply List.ext_getElem (by rw [List.length_map, List.length_map, mixN_length])
 intro j h1 h2
 rw [List.length_map] at h2
 rw [List.getElem_map, List.getElem_map]
 unfold mixN
 rw [List.getElem_mapIdx]
 split <;> rfl
theorem prs_mix (cuts : List Int) (ns : List Nod) (k : Nat) (gs : List Nat) : prs (mixN cuts ns k) gs = prs ns gs := by unfold prs; rw [mixN_ids]
theorem cutL_rise {cuts : List Int} {ns : List Nod} (h : Rising ns) : Rising (cutL cuts ns) := by
 have h1 : (ns.map (·.id)).Pairwise (· < ·) := List.pairwise_map.2 h
 unfold cutL
 rw [← mixN_ids cuts ns ns.length] at h1
 exact List.pairwise_map.1 h1
theorem cutL_mem {cuts : List Int} {ns : List Nod} {x : Nod} (h : x ∈ cutL cuts ns) : ∃ y ∈ ns, x.id = y.id ∧ x.data.size ≤ y.data.size := by
 obtain ⟨j, hj, rfl⟩ := List.getElem_of_mem h
 have hj' := hj
 rw [cutL_length] at hj'
 refine ⟨ns.getD j default, getD_mem ns j hj', ?_⟩
 rw [getD_at _ j hj, cutL_get _ _ _ hj']
 exact ⟨rfl, cutN_size _ _⟩
theorem cutL_has {cuts : List Int} {ns : List Nod} {y : Nod} (h : y ∈ ns) : ∃ x ∈ cutL cuts ns, x.id = y.id := by
 obtain ⟨j, hj, rfl⟩ := List.getElem_of_mem h
 refine ⟨(cutL cuts ns).getD j default, getD_mem _ j (by rw [cutL_length]; exact hj), ?_⟩
 rw [cutL_get _ _ _ hj, getD_at ns j hj]
 rfl
def crashL (d : Dsk) (keep : Int) : List Lnk := names d.dir (d.movs.take keep.toNat)
def crashD (d : Dsk) (keep : Int) (cuts : List Int) : Dsk := ⟨d.room, d.next, keptN (crashL d keep) (cutL cuts d.nods), crashL d keep, []⟩
def crashR (d : Dsk) (keep : Int) (cuts : List Int) : Dsk := if diskOk d = true then crashD d keep cuts else zeroD
theorem crashR_yes {d : Dsk} {keep : Int} {cuts : List Int} (h : diskOk d = true) : crashR d keep cuts = crashD d keep cuts := by unfold crashR; rw [if_pos h]
theorem crashR_no {d : Dsk} {keep : Int} {cuts : List Int} (h : diskOk d = false) : crashR d keep cuts = zeroD := by unfold crashR; rw [if_neg (by rw [h]; simp)]
theorem nod_sure {d : Dsk} (hd : Whole d) (k : Nat) (hk : k < d.nods.length) : 0 ≤ (d.nods.getD k default).sure ∧ (d.nods.getD k default).sure ≤ ((d.nods.getD k default).data.size : Int) := by
 have hg := hd.nod k hk
 unfold nodGood at hg
 simp only [Bool.and_eq_true, decide_eq_true_eq] at hg
 exact hg.1.1.2
theorem ptrAt_own {ns : List Nod} {gs : List Nat} (h : Rising ns) (hl : gs.length = ns.length) {k : Nat} (hk : k < ns.length) : ptrAt (prs ns gs) (ns.getD k default).id = some (gs.getD k 0) := by
 have h1 := ptrAt_prs ns gs (ns.getD k default).id hl ⟨_, getD_mem ns k hk, rfl⟩
 obtain ⟨g, hg⟩ := Option.isSome_iff_exists.1 h1
 obtain ⟨j, hj, he, hgj⟩ := prs_at hg
 have e1 := nodAt_own h hk
 have e2 := nodAt_own h hj
 rw [he, e1] at e2
 injection e2 with e2
 subst e2
 rw [hg, hgj]
theorem gs_memK {gs : List Nat} {j : Nat} (hj : j < gs.length) : gs.getD j 0 ∈ gs := by
 rw [List.getD_eq_getElem?_getD, List.getElem?_eq_getElem hj]
 exact List.getElem_mem hj
theorem rise_neK {gs : List Nat} (h : gs.Pairwise (· < ·)) {i j : Nat} (hi : i < gs.length) (hj : j < gs.length) (hne : i ≠ j) : gs.getD i 0 ≠ gs.getD j 0 := by
 rw [List.getD_eq_getElem?_getD, List.getElem?_eq_getElem hi, List.getD_eq_getElem?_getD, List.getElem?_eq_getElem hj]
 show gs[i] ≠ gs[j]
 rcases Nat.lt_or_gt_of_ne hne with h1 | h1
 ·have := List.pairwise_iff_getElem.1 h i j hi hj h1
  omega
 ·have := List.pairwise_iff_getElem.1 h j i hj hi h1
  omega
structure Apart (base p bi bd q : Nat) (gs : List Nat) : Prop where
 pi : p ≠ bi
 pd : p ≠ bd
 id : bi ≠ bd
 lo : base ≤ p ∧ base ≤ bi ∧ base ≤ bd
 gl : ∀ g ∈ gs, base ≤ g ∧ g ≠ p ∧ g ≠ bi ∧ g ≠ bd
 rise : gs.Pairwise (· < ·)
 res : q < base
structure CrI (w : World) (base p q : Nat) (d : Dsk) (bi bd : Nat) (vw : Value) (ns : List Nod) (gs : List Nat) (l : List Lnk) (u : Value) : Prop where
 blk : Blk w p #[.int .i64 d.room, .int .i64 d.next, .map (some bi), .map (some bd), u, vw] 86
 it : IT w bi (prs d.nods gs)
 held : Held w ns gs
 nd : NT w bd l
 mv : Owns w base 51 4 u (movR d.movs)
 res : Blk w q #[.int .i64 0, .int .i64 0, .slice none 0 0, .slice none 0 0, .slice none 0 0] 28
theorem CrI.on {w w' : World} {base p q : Nat} {d : Dsk} {bi bd : Nat} {vw : Value} {ns : List Nod} {gs : List Nat} {l : List Lnk} {u : Value} (h : CrI w base p q d bi bd vw ns gs l u) (hb : Below w.heap.size w w') : CrI w' base p q d bi bd vw ns gs l u :=
 ⟨h.blk.on hb h.blk.lt, h.it.on hb h.it.lt, h.held.on hb h.held.lt, h.nd.on hb h.nd.lt, h.mv.on hb, h.res.on hb h.res.lt⟩
theorem CrI.cut {w w' : World} {base p q : Nat} {d : Dsk} {bi bd : Nat} {vw : Value} {gs : List Nat} {l : List Lnk} {u : Value} {cuts : List Int} {k : Nat} (h : CrI w base p q d bi bd vw (mixN cuts d.nods k) gs l u) (ha : Apart base p bi bd q gs) (hk : k < d.nods.length)
  (hn : Blk w' (gs.getD k 0) #[.int .i64 (cutN (d.nods.getD k default) (cuts.getD k 0)).id, .string (cutN (d.nods.getD k default) (cuts.getD k 0)).data, .int .i64 (cutN (d.nods.getD k default) (cuts.getD k 0)).sure] 47) (hb : But (fun i => i = gs.getD k 0) w w') : CrI w' base p q d bi bd vw (mixN cuts d.nods (k + 1)) gs l u := by
 have hlen : gs.length = d.nods.length := by rw [h.held.len, mixN_length]
 have hkg : k < gs.length := by omega
 have hm := ha.gl _ (gs_memK hkg)
 have hbk := h.held.blk k (by rw [mixN_length]; exact hk)
 refine ⟨hb.blk h.blk (fun e => hm.2.1 e.symm), h.it.but hb (fun e => hm.2.2.1 e.symm), ⟨by rw [mixN_length]; exact hlen, fun j hj => ?_⟩, h.nd.but hb (fun e => hm.2.2.2 e.symm), ?_, hb.blk h.res (fun e => by have := ha.res; have := hm.1; omega)⟩
 ·rw [mixN_length] at hj
  rw [mixN_get _ _ _ _ hj]
  by_cases e : j = k
  ·subst e
   rw [if_pos (by omega)]
   exact hn
  ·have hold := h.held.blk j (by rw [mixN_length]; exact hj)
   rw [mixN_get _ _ _ _ hj] at hold
   have hold' := hb.blk hold (rise_neK ha.rise (by omega) hkg e)
   by_cases hlt : j < k
   ·rw [if_pos (by omega)]
    rw [if_pos hlt] at hold'
    exact hold'
   ·rw [if_neg (by omega)]
    rw [if_neg hlt] at hold'
    exact hold'
 ·have hn' := h.mv.notBlk hbk (by decide)
  exact h.mv.kept fun g hg ho => hb.block g hg (fun e => by subst e; exact hn' ho)
theorem CrI.app {w w' : World} {base p q : Nat} {d : Dsk} {bi bd : Nat} {vw : Value} {ns : List Nod} {gs : List Nat} {l l' : List Lnk} {u : Value} (h : CrI w base p q d bi bd vw ns gs l u) (ha : Apart base p bi bd q gs) (hn : NT w' bd l') (hb : But (fun i => i = bd) w w') : CrI w' base p q d bi bd vw ns gs l' u := by
 refine ⟨hb.blk h.blk ha.pd, h.it.but hb ha.id, h.held.but hb (fun g hg e => (ha.gl g hg).2.2.2 e), hn, ?_, hb.blk h.res (fun e => by have := ha.res; have := ha.lo; omega)⟩
 have hn' := h.nd.notOwn h.mv
 exact h.mv.kept fun g hg ho => hb.block g hg (fun e => by subst e; exact hn' ho)
theorem OpenD.crash {w : World} {base p q : Nat} {d : Dsk} {bi bd bw : Nat} {gs : List Nat} {u : Value} (h : OpenD w base p d bi bd bw gs u) (hq : q < base) (hr : Blk w q #[.int .i64 0, .int .i64 0, .slice none 0 0, .slice none 0 0, .slice none 0 0] 28) : Apart base p bi bd q gs ∧ CrI w base p q d bi bd (.map (some bw)) d.nods gs d.dir u :=
 ⟨⟨h.pi, h.pd, h.id, ⟨h.lo.1, h.lo.2.1, h.lo.2.2.1⟩, fun g hg => ⟨(h.gl g hg).1, (h.gl g hg).2.1, (h.gl g hg).2.2.1, (h.gl g hg).2.2.2.1⟩, h.rise, hq⟩, ⟨h.blk, h.it, h.held, h.nd, h.mv, hr⟩⟩
theorem CrI.movAt {w : World} {base p q : Nat} {d : Dsk} {bi bd : Nat} {vw : Value} {ns : List Nod} {gs : List Nat} {l : List Lnk} {ua : Option Addr} {m uc : Nat} (h : CrI w base p q d bi bd vw ns gs l (.slice ua m uc)) (k : Nat) (hk : k < d.movs.length) : ∃ g off, ua = some ⟨g, off, none⟩ ∧
  w.cell? ⟨g, off + k * 4, none⟩ = some (.int .i64 (d.movs.getD k default).kind) ∧ w.cell? ⟨g, off + k * 4 + 1, none⟩ = some (.string (d.movs.getD k default).name) ∧ w.cell? ⟨g, off + k * 4 + 2, none⟩ = some (.string (d.movs.getD k default).to) ∧ w.cell? ⟨g, off + k * 4 + 3, none⟩ = some (.int .i64 (d.movs.getD k default).id) := by
 obtain ⟨A, c, e, hl⟩ := mov_look h.mv.lies
 injection e with e1 _ _
 subst e1
 obtain ⟨g, off, e2, _, h0, h1, h2, h3⟩ := hl k hk
 exact ⟨g, off, e2, h0, h1, h2, h3⟩
theorem crash_tell {w w0 : World} {p : Nat} {d : Dsk} {keep : Int} {cuts : List Int} {bl bd : Nat} {gs : List Nat} {vw : Value} (hT : Tellable w0 p d) (hl : Linked d (crashL d keep)) (hn : (crashL d keep).length ≤ 1000)
  (hK : Blk w p #[.int .i64 d.room, .int .i64 d.next, .map (some bl), .map (some bd), .slice none 0 0, vw] 86) (hI : IT w bl (prs (keptN (crashL d keep) (cutL cuts d.nods)) (keptG (crashL d keep) (cutL cuts d.nods) gs))) (hH : Held w (cutL cuts d.nods) gs) (hN : NT w bd (crashL d keep)) : Tellable w p (crashD d keep cuts) := by
 refine ⟨⟨bl, bd, keptG (crashL d keep) (cutL cuts d.nods) gs, .slice none 0 0, vw, hK, hI, held_kept (crashL d keep) (cutL cuts d.nods) gs hH, hN, ⟨none, 0, rfl, ⟨fun _ => rfl, Nat.le_refl _⟩, fun r hr => (by cases hr), .inl rfl⟩⟩, ?_, hl.sorted, hl.ok, ?_, hn, ?_, ?_, ?_⟩
 ·exact (cutL_rise hT.rise).filter _
 ·show (keptN (crashL d keep) (cutL cuts d.nods)).length ≤ 1000
  have h1 : (keptN (crashL d keep) (cutL cuts d.nods)).length ≤ (cutL cuts d.nods).length := List.length_filter_le _ _
  have := hT.n1
  rw [cutL_length] at h1
  omega
 ·show (0 : Nat) ≤ 1000
  omega
 ·intro x hx
  obtain ⟨y, hy, e1, e2⟩ := cutL_mem (List.mem_filter.1 hx).1
  have := hT.nx y hy
  exact ⟨by rw [e1]; exact this.1, by omega⟩
 ·intro x hx
  cases hx
end Go.Proofs.YtgjilgecklhglaaGreat
