/-
  A part of the contract of spec.DoStep.
-/
import Derived.Test.YtnnfnhpehacelaaGreatRows
import Derived.Test.YtnnfnhpehacelaaGreatCB
import Derived.Test.YtnnfnhpehacelaaGreatCA
import Derived.Test.YtnnfnhpehacelaaGreatDkOkD
import Derived.Lib.OwnKind
namespace Go.Proofs.YtnnfnhpehacelaaGreat
open Go.ChangeShapes Go.WideShapes Go.ChangeAt Go.RowKit Go.PlainAid
set_option linter.unusedVariables false

set_option maxRecDepth 20000 in
set_option maxHeartbeats 8000000 in
theorem specDo0V (d : Dsk) (v : Value) (k : Int) (n t x : ByteArray) (w : World) (B : Nat) (hv : DiskV w B v d) (hf : Fits d) (hw : wtD d ≤ 1048576) (hB : B ≤ w.heap.size) (hn : n.size ≤ maxLen) (ht : t.size ≤ maxLen) (hx : x.size ≤ maxLen) (hok : diskOk d = true) (h1 : ¬k = 1) (h2 : ¬k = 2) (h3 : ¬k = 3) (h4 : ¬k = 4) (h5 : ¬k = 5) (h6 : ¬k = 6) :
    Calls Tryz.prog 6 #[v, .agg #[.int .i64 k, .string n, .string t, .string x]] w fun e w' => ∃ y, e = .returned (.tuple #[y, .int .i64 (doStepR d k n t x).2]) ∧ DiskO w' w.heap.size y (doStepR d k n t x).1 ∧ Below w.heap.size w w' := by
  have HV : Hid (DiskV w B v d) := hv
  have HB : Hid (B ≤ w.heap.size) := hB
  have HF : Hid (Fits d) := hf
  have HW : Hid (wtD d ≤ 1048576) := hw
  have HN : Hid (n.size ≤ maxLen) := hn
  have HT : Hid (t.size ≤ maxLen) := ht
  have HX : Hid (x.size ≤ maxLen) := hx
  obtain ⟨v1, v2, v3, rfl, h1, h2, h3⟩ := hv
  clear h1 h2 h3 hB hf hw hn ht hx
  go_enter Tryz.func6, Tryz.ntmps6
  go_wp2_with fail
  have hb0 : Below w.heap.size w (((w.alloc (.cells #[.int .i64 d.room, .int .i64 d.next, v1, v2, v3] 35)).alloc (.cells #[.int .i64 k, .string n, .string t, .string x] 39)).alloc (.cells #[.int .i64 0, .int .i64 0, .slice none 0 0, .slice none 0 0, .slice none 0 0] 35)) := (((Below.refl _ w).alloc (Nat.le_refl _) _).alloc (by simp only [World.size_alloc]; omega) _).alloc (by simp only [World.size_alloc]; omega) _
  have bA := ((Blk.new w #[.int .i64 d.room, .int .i64 d.next, v1, v2, v3] 35).alloc (.cells #[.int .i64 k, .string n, .string t, .string x] 39)).alloc (.cells #[.int .i64 0, .int .i64 0, .slice none 0 0, .slice none 0 0, .slice none 0 0] 35)
  have bJ := (Blk.new (w.alloc (.cells #[.int .i64 d.room, .int .i64 d.next, v1, v2, v3] 35)) #[.int .i64 k, .string n, .string t, .string x] 39).alloc (.cells #[.int .i64 0, .int .i64 0, .slice none 0 0, .slice none 0 0, .slice none 0 0] 35)
  have bR := Blk.new ((w.alloc (.cells #[.int .i64 d.room, .int .i64 d.next, v1, v2, v3] 35)).alloc (.cells #[.int .i64 k, .string n, .string t, .string x] 39)) #[.int .i64 0, .int .i64 0, .slice none 0 0, .slice none 0 0, .slice none 0 0] 35
  simp only [World.size_alloc] at bR bJ
  generalize (((w.alloc (.cells #[.int .i64 d.room, .int .i64 d.next, v1, v2, v3] 35)).alloc (.cells #[.int .i64 k, .string n, .string t, .string x] 39)).alloc (.cells #[.int .i64 0, .int .i64 0, .slice none 0 0, .slice none 0 0, .slice none 0 0] 35)) = W at *
  have BW : Hid (Below w.heap.size w W) := hb0
  have KW : Hid (Blk W w.heap.size #[.int .i64 d.room, .int .i64 d.next, v1, v2, v3] 35) := bA
  have JW : Hid (Blk W (w.heap.size + 1) #[.int .i64 k, .string n, .string t, .string x] 39) := bJ
  have RW : Hid (Blk W (w.heap.size + 1 + 1) #[.int .i64 0, .int .i64 0, .slice none 0 0, .slice none 0 0, .slice none 0 0] 35) := bR
  clear hb0 bA bJ bR
  refine (specOkV d _ W B (HV.out.on (BW.out.mono HB.out)) HF.out HW.out (Nat.le_trans HB.out BW.out.size)).mono ?_
  rintro e w1 ⟨rfl, hb1⟩
  have Bw1 : Hid (Below w.heap.size w w1) := BW.out.trans (hb1.mono BW.out.size)
  have Kw1 : Hid (Blk w1 w.heap.size #[.int .i64 d.room, .int .i64 d.next, v1, v2, v3] 35) := KW.out.on hb1 KW.out.lt
  have Jw1 : Hid (Blk w1 (w.heap.size + 1) #[.int .i64 k, .string n, .string t, .string x] 39) := JW.out.on hb1 JW.out.lt
  have Rw1 : Hid (Blk w1 (w.heap.size + 1 + 1) #[.int .i64 0, .int .i64 0, .slice none 0 0, .slice none 0 0, .slice none 0 0] 35) := RW.out.on hb1 RW.out.lt
  clear hb1
  clear BW KW JW RW
  rw [hok]
  have y0 := Kw1.out.cell 0 _ rfl
  have y1 := Kw1.out.cell 1 _ rfl
  have y2 := Kw1.out.cell 2 _ rfl
  have y3 := Kw1.out.cell 3 _ rfl
  have y4 := Kw1.out.cell 4 _ rfl
  have z0 := Jw1.out.cell 0 _ rfl
  have z1 := Jw1.out.cell 1 _ rfl
  have z2 := Jw1.out.cell 2 _ rfl
  have z3 := Jw1.out.cell 3 _ rfl
  have hRR : doStepR d k n t x = (d, 1) := (doStepR_yes hok).trans (stepY_0 h1 h2 h3 h4 h5 h6)
  have hR := (sizeOk_iff d).1 ((whole_iff d).1 hok).size
  have HSZ : Hid (d.dir.length + d.movs.length ≤ 1048575 ∧ d.nods.length ≤ 10 ∧ d.dir.length ≤ 1048576 ∧ d.movs.length ≤ 1048576) := by
    have := hR.l; have := hR.m; have := hR.n
    unfold Hid
    omega
  have c1 : (k == 1) = false := by simp [h1]
  have c2 : (k == 2) = false := by simp [h2]
  have c3 : (k == 3) = false := by simp [h3]
  have c4 : (k == 4) = false := by simp [h4]
  have c5 : (k == 5) = false := by simp [h5]
  have c6 : (k == 6) = false := by simp [h6]
  have cC := copyV d (.agg #[.int .i64 d.room, .int .i64 d.next, v1, v2, v3])  w1 B (HV.out.on (Bw1.out.mono HB.out)) (by have := HSZ.out; omega) (by have := HSZ.out; omega) (by have := HSZ.out; omega) (Nat.le_trans HB.out Bw1.out.size)
  clear hok hR h1 h2 h3 h4 h5 h6
  go_wp2_with fail
  refine cC.mono ?_
  rintro e w3 ⟨y, rfl, hO3, hb3⟩
  have Bw3 : Hid (Below w.heap.size w w3) := Bw1.out.trans (hb3.mono Bw1.out.size)
  have Rw3 : Hid (Blk w3 (w.heap.size + 1 + 1) #[.int .i64 0, .int .i64 0, .slice none 0 0, .slice none 0 0, .slice none 0 0] 35) := Rw1.out.on hb3 Rw1.out.lt
  have HO : Hid (DiskO w3 w.heap.size y d) := hO3.mono Bw1.out.size
  clear hO3 hb3 cC y0 y1 y2 y3 y4 z0 z1 z2 z3
  obtain ⟨x1, x2, x3, rfl, o1, o2, o3⟩ := HO.out
  obtain ⟨A1, m1, k1, rfl⟩ := o1.shape
  obtain ⟨A2, m2, k2, rfl⟩ := o2.shape
  obtain ⟨A3, m3, k3, rfl⟩ := o3.shape
  have O1 : Hid (Owns w3 w.heap.size 76 3 (.slice A1 m1 k1) (nodR d.nods)) := o1
  have O2 : Hid (Owns w3 w.heap.size 79 2 (.slice A2 m2 k2) (lnkR d.dir)) := o2
  have O3 : Hid (Owns w3 w.heap.size 81 4 (.slice A3 m3 k3) (movR d.movs)) := o3
  clear HO o1 o2 o3
  have g0 := Rw3.out.cell 0 _ rfl
  have f0 := Rw3.out.free 0
  have g1 := Rw3.out.cell 1 _ rfl
  have f1 := Rw3.out.free 1
  have g2 := Rw3.out.cell 2 _ rfl
  have f2 := Rw3.out.free 2
  have g3 := Rw3.out.cell 3 _ rfl
  have f3 := Rw3.out.free 3
  have g4 := Rw3.out.cell 4 _ rfl
  have f4 := Rw3.out.free 4
  go_wp2_with fail
  have hg : w.heap.size ≤ w.heap.size + 1 + 1 := by omega
  have hB := Bw3.out
  have FB := (((((hB.setCell hg (.int .i64 d.room) (p := ⟨_, 0, none⟩)).setCell hg (.int .i64 d.next) (p := ⟨_, 1, none⟩)).setCell hg (.slice A1 m1 k1) (p := ⟨_, 2, none⟩)).setCell hg (.slice A2 m2 k2) (p := ⟨_, 3, none⟩)).setCell hg (.slice A3 m3 k3) (p := ⟨_, 4, none⟩))
  have hF := (((((Rw3.out.set 0 (.int .i64 d.room)).set 1 (.int .i64 d.next)).set 2 (.slice A1 m1 k1)).set 3 (.slice A2 m2 k2)).set 4 (.slice A3 m3 k3))
  have mm0 := O1.out.notBlk Rw3.out (by decide)
  have F0 := (((((O1.out.other mm0 0 (.int .i64 d.room)).other mm0 1 (.int .i64 d.next)).other mm0 2 (.slice A1 m1 k1)).other mm0 3 (.slice A2 m2 k2)).other mm0 4 (.slice A3 m3 k3))
  have mm1 := O2.out.notBlk Rw3.out (by decide)
  have F1 := (((((O2.out.other mm1 0 (.int .i64 d.room)).other mm1 1 (.int .i64 d.next)).other mm1 2 (.slice A1 m1 k1)).other mm1 3 (.slice A2 m2 k2)).other mm1 4 (.slice A3 m3 k3))
  have mm2 := O3.out.notBlk Rw3.out (by decide)
  have F2 := (((((O3.out.other mm2 0 (.int .i64 d.room)).other mm2 1 (.int .i64 d.next)).other mm2 2 (.slice A1 m1 k1)).other mm2 3 (.slice A2 m2 k2)).other mm2 4 (.slice A3 m3 k3))
  clear g0 f0 g1 f1 g2 f2 g3 f3 g4 f4
  generalize (((((w3.setCell ⟨w.heap.size + 1 + 1, 0, none⟩ (.int .i64 d.room)).setCell ⟨w.heap.size + 1 + 1, 1, none⟩ (.int .i64 d.next)).setCell ⟨w.heap.size + 1 + 1, 2, none⟩ (.slice A1 m1 k1)).setCell ⟨w.heap.size + 1 + 1, 3, none⟩ (.slice A2 m2 k2)).setCell ⟨w.heap.size + 1 + 1, 4, none⟩ (.slice A3 m3 k3)) = WF at *
  have hG : Blk WF (w.heap.size + 1 + 1) #[.int .i64 d.room, .int .i64 d.next, .slice A1 m1 k1, .slice A2 m2 k2, .slice A3 m3 k3] 35 := hF
  have l0 := hG.cell 0 (.int .i64 d.room) rfl
  have l1 := hG.cell 1 (.int .i64 d.next) rfl
  have l2 := hG.cell 2 (.slice A1 m1 k1) rfl
  have l3 := hG.cell 3 (.slice A2 m2 k2) rfl
  have l4 := hG.cell 4 (.slice A3 m3 k3) rfl
  exact bodyPost_ret (v := .tuple #[.agg #[.int .i64 d.room, .int .i64 d.next, .slice A1 m1 k1, .slice A2 m2 k2, .slice A3 m3 k3], .int .i64 1]) (by simp [results, go_sem, l0, l1, l2, l3, l4]) rfl (by rw [hRR]; exact ⟨_, rfl, ⟨_, _, _, rfl, F0, F1, F2⟩, FB⟩)
end Go.Proofs.YtnnfnhpehacelaaGreat

/-
  A part of the contract of spec.DoStep.
-/
namespace Go.Proofs.YtnnfnhpehacelaaGreat
open Go.ChangeShapes Go.WideShapes Go.ChangeAt Go.RowKit Go.PlainAid
set_option linter.unusedVariables false

set_option maxRecDepth 20000 in
set_option maxHeartbeats 8000000 in
theorem specDo1V (d : Dsk) (v : Value) (n t x : ByteArray) (w : World) (B : Nat) (hv : DiskV w B v d) (hf : Fits d) (hw : wtD d ≤ 1048576) (hB : B ≤ w.heap.size) (hn : n.size ≤ maxLen) (ht : t.size ≤ maxLen) (hx : x.size ≤ maxLen) (hok : diskOk d = true) :
    Calls Tryz.prog 6 #[v, .agg #[.int .i64 1, .string n, .string t, .string x]] w fun e w' => ∃ y, e = .returned (.tuple #[y, .int .i64 (doStepR d 1 n t x).2]) ∧ DiskO w' w.heap.size y (doStepR d 1 n t x).1 ∧ Below w.heap.size w w' := by
  have HV : Hid (DiskV w B v d) := hv
  have HB : Hid (B ≤ w.heap.size) := hB
  have HF : Hid (Fits d) := hf
  have HW : Hid (wtD d ≤ 1048576) := hw
  have HN : Hid (n.size ≤ maxLen) := hn
  have HT : Hid (t.size ≤ maxLen) := ht
  have HX : Hid (x.size ≤ maxLen) := hx
  obtain ⟨v1, v2, v3, rfl, h1, h2, h3⟩ := hv
  clear h1 h2 h3 hB hf hw hn ht hx
  go_enter Tryz.func6, Tryz.ntmps6
  go_wp2_with fail
  have hb0 : Below w.heap.size w (((w.alloc (.cells #[.int .i64 d.room, .int .i64 d.next, v1, v2, v3] 35)).alloc (.cells #[.int .i64 1, .string n, .string t, .string x] 39)).alloc (.cells #[.int .i64 0, .int .i64 0, .slice none 0 0, .slice none 0 0, .slice none 0 0] 35)) := (((Below.refl _ w).alloc (Nat.le_refl _) _).alloc (by simp only [World.size_alloc]; omega) _).alloc (by simp only [World.size_alloc]; omega) _
  have bA := ((Blk.new w #[.int .i64 d.room, .int .i64 d.next, v1, v2, v3] 35).alloc (.cells #[.int .i64 1, .string n, .string t, .string x] 39)).alloc (.cells #[.int .i64 0, .int .i64 0, .slice none 0 0, .slice none 0 0, .slice none 0 0] 35)
  have bJ := (Blk.new (w.alloc (.cells #[.int .i64 d.room, .int .i64 d.next, v1, v2, v3] 35)) #[.int .i64 1, .string n, .string t, .string x] 39).alloc (.cells #[.int .i64 0, .int .i64 0, .slice none 0 0, .slice none 0 0, .slice none 0 0] 35)
  have bR := Blk.new ((w.alloc (.cells #[.int .i64 d.room, .int .i64 d.next, v1, v2, v3] 35)).alloc (.cells #[.int .i64 1, .string n, .string t, .string x] 39)) #[.int .i64 0, .int .i64 0, .slice none 0 0, .slice none 0 0, .slice none 0 0] 35
  simp only [World.size_alloc] at bR bJ
  generalize (((w.alloc (.cells #[.int .i64 d.room, .int .i64 d.next, v1, v2, v3] 35)).alloc (.cells #[.int .i64 1, .string n, .string t, .string x] 39)).alloc (.cells #[.int .i64 0, .int .i64 0, .slice none 0 0, .slice none 0 0, .slice none 0 0] 35)) = W at *
  have BW : Hid (Below w.heap.size w W) := hb0
  have KW : Hid (Blk W w.heap.size #[.int .i64 d.room, .int .i64 d.next, v1, v2, v3] 35) := bA
  have JW : Hid (Blk W (w.heap.size + 1) #[.int .i64 1, .string n, .string t, .string x] 39) := bJ
  have RW : Hid (Blk W (w.heap.size + 1 + 1) #[.int .i64 0, .int .i64 0, .slice none 0 0, .slice none 0 0, .slice none 0 0] 35) := bR
  clear hb0 bA bJ bR
  refine (specOkV d _ W B (HV.out.on (BW.out.mono HB.out)) HF.out HW.out (Nat.le_trans HB.out BW.out.size)).mono ?_
  rintro e w1 ⟨rfl, hb1⟩
  have Bw1 : Hid (Below w.heap.size w w1) := BW.out.trans (hb1.mono BW.out.size)
  have Kw1 : Hid (Blk w1 w.heap.size #[.int .i64 d.room, .int .i64 d.next, v1, v2, v3] 35) := KW.out.on hb1 KW.out.lt
  have Jw1 : Hid (Blk w1 (w.heap.size + 1) #[.int .i64 1, .string n, .string t, .string x] 39) := JW.out.on hb1 JW.out.lt
  have Rw1 : Hid (Blk w1 (w.heap.size + 1 + 1) #[.int .i64 0, .int .i64 0, .slice none 0 0, .slice none 0 0, .slice none 0 0] 35) := RW.out.on hb1 RW.out.lt
  clear hb1
  clear BW KW JW RW
  rw [hok]
  have y0 := Kw1.out.cell 0 _ rfl
  have y1 := Kw1.out.cell 1 _ rfl
  have y2 := Kw1.out.cell 2 _ rfl
  have y3 := Kw1.out.cell 3 _ rfl
  have y4 := Kw1.out.cell 4 _ rfl
  have z0 := Jw1.out.cell 0 _ rfl
  have z1 := Jw1.out.cell 1 _ rfl
  have z2 := Jw1.out.cell 2 _ rfl
  have z3 := Jw1.out.cell 3 _ rfl
  have hRR0 : doStepR d 1 n t x = makeR d n := doStepR_1 d n t x
  have cC := specMakeV d (.agg #[.int .i64 d.room, .int .i64 d.next, v1, v2, v3]) n w1 B (HV.out.on (Bw1.out.mono HB.out)) HF.out HW.out (Nat.le_trans HB.out Bw1.out.size) HN.out
  clear hok
  go_wp2_with fail
  refine cC.mono ?_
  rintro e w3 ⟨y, rfl, hO3, hb3⟩
  have Bw3 : Hid (Below w.heap.size w w3) := Bw1.out.trans (hb3.mono Bw1.out.size)
  have Rw3 : Hid (Blk w3 (w.heap.size + 1 + 1) #[.int .i64 0, .int .i64 0, .slice none 0 0, .slice none 0 0, .slice none 0 0] 35) := Rw1.out.on hb3 Rw1.out.lt
  have HO : Hid (DiskO w3 w.heap.size y (makeR d n).1) := hO3.mono Bw1.out.size
  clear hO3 hb3 cC y0 y1 y2 y3 y4 z0 z1 z2 z3
  generalize hRR : makeR d n = RR at *
  obtain ⟨x1, x2, x3, rfl, o1, o2, o3⟩ := HO.out
  obtain ⟨A1, m1, k1, rfl⟩ := o1.shape
  obtain ⟨A2, m2, k2, rfl⟩ := o2.shape
  obtain ⟨A3, m3, k3, rfl⟩ := o3.shape
  have O1 : Hid (Owns w3 w.heap.size 76 3 (.slice A1 m1 k1) (nodR RR.1.nods)) := o1
  have O2 : Hid (Owns w3 w.heap.size 79 2 (.slice A2 m2 k2) (lnkR RR.1.dir)) := o2
  have O3 : Hid (Owns w3 w.heap.size 81 4 (.slice A3 m3 k3) (movR RR.1.movs)) := o3
  clear HO o1 o2 o3
  have g0 := Rw3.out.cell 0 _ rfl
  have f0 := Rw3.out.free 0
  have g1 := Rw3.out.cell 1 _ rfl
  have f1 := Rw3.out.free 1
  have g2 := Rw3.out.cell 2 _ rfl
  have f2 := Rw3.out.free 2
  have g3 := Rw3.out.cell 3 _ rfl
  have f3 := Rw3.out.free 3
  have g4 := Rw3.out.cell 4 _ rfl
  have f4 := Rw3.out.free 4
  go_wp2_with fail
  have hg : w.heap.size ≤ w.heap.size + 1 + 1 := by omega
  have hB := Bw3.out
  have FB := (((((hB.setCell hg (.int .i64 RR.1.room) (p := ⟨_, 0, none⟩)).setCell hg (.int .i64 RR.1.next) (p := ⟨_, 1, none⟩)).setCell hg (.slice A1 m1 k1) (p := ⟨_, 2, none⟩)).setCell hg (.slice A2 m2 k2) (p := ⟨_, 3, none⟩)).setCell hg (.slice A3 m3 k3) (p := ⟨_, 4, none⟩))
  have hF := (((((Rw3.out.set 0 (.int .i64 RR.1.room)).set 1 (.int .i64 RR.1.next)).set 2 (.slice A1 m1 k1)).set 3 (.slice A2 m2 k2)).set 4 (.slice A3 m3 k3))
  have mm0 := O1.out.notBlk Rw3.out (by decide)
  have F0 := (((((O1.out.other mm0 0 (.int .i64 RR.1.room)).other mm0 1 (.int .i64 RR.1.next)).other mm0 2 (.slice A1 m1 k1)).other mm0 3 (.slice A2 m2 k2)).other mm0 4 (.slice A3 m3 k3))
  have mm1 := O2.out.notBlk Rw3.out (by decide)
  have F1 := (((((O2.out.other mm1 0 (.int .i64 RR.1.room)).other mm1 1 (.int .i64 RR.1.next)).other mm1 2 (.slice A1 m1 k1)).other mm1 3 (.slice A2 m2 k2)).other mm1 4 (.slice A3 m3 k3))
  have mm2 := O3.out.notBlk Rw3.out (by decide)
  have F2 := (((((O3.out.other mm2 0 (.int .i64 RR.1.room)).other mm2 1 (.int .i64 RR.1.next)).other mm2 2 (.slice A1 m1 k1)).other mm2 3 (.slice A2 m2 k2)).other mm2 4 (.slice A3 m3 k3))
  clear g0 f0 g1 f1 g2 f2 g3 f3 g4 f4
  generalize (((((w3.setCell ⟨w.heap.size + 1 + 1, 0, none⟩ (.int .i64 RR.1.room)).setCell ⟨w.heap.size + 1 + 1, 1, none⟩ (.int .i64 RR.1.next)).setCell ⟨w.heap.size + 1 + 1, 2, none⟩ (.slice A1 m1 k1)).setCell ⟨w.heap.size + 1 + 1, 3, none⟩ (.slice A2 m2 k2)).setCell ⟨w.heap.size + 1 + 1, 4, none⟩ (.slice A3 m3 k3)) = WF at *
  have hG : Blk WF (w.heap.size + 1 + 1) #[.int .i64 RR.1.room, .int .i64 RR.1.next, .slice A1 m1 k1, .slice A2 m2 k2, .slice A3 m3 k3] 35 := hF
  have l0 := hG.cell 0 (.int .i64 RR.1.room) rfl
  have l1 := hG.cell 1 (.int .i64 RR.1.next) rfl
  have l2 := hG.cell 2 (.slice A1 m1 k1) rfl
  have l3 := hG.cell 3 (.slice A2 m2 k2) rfl
  have l4 := hG.cell 4 (.slice A3 m3 k3) rfl
  exact bodyPost_ret (v := .tuple #[.agg #[.int .i64 RR.1.room, .int .i64 RR.1.next, .slice A1 m1 k1, .slice A2 m2 k2, .slice A3 m3 k3], .int .i64 RR.2]) (by simp [results, go_sem, l0, l1, l2, l3, l4]) rfl (by rw [hRR0]; exact ⟨_, rfl, ⟨_, _, _, rfl, F0, F1, F2⟩, FB⟩)
end Go.Proofs.YtnnfnhpehacelaaGreat

/-
  A part of the contract of spec.DoStep.
-/
namespace Go.Proofs.YtnnfnhpehacelaaGreat
open Go.ChangeShapes Go.WideShapes Go.ChangeAt Go.RowKit Go.PlainAid
set_option linter.unusedVariables false

set_option maxRecDepth 20000 in
set_option maxHeartbeats 8000000 in
theorem specDo2V (d : Dsk) (v : Value) (n t x : ByteArray) (w : World) (B : Nat) (hv : DiskV w B v d) (hf : Fits d) (hw : wtD d ≤ 1048576) (hB : B ≤ w.heap.size) (hn : n.size ≤ maxLen) (ht : t.size ≤ maxLen) (hx : x.size ≤ maxLen) (hok : diskOk d = true) :
    Calls Tryz.prog 6 #[v, .agg #[.int .i64 2, .string n, .string t, .string x]] w fun e w' => ∃ y, e = .returned (.tuple #[y, .int .i64 (doStepR d 2 n t x).2]) ∧ DiskO w' w.heap.size y (doStepR d 2 n t x).1 ∧ Below w.heap.size w w' := by
  have HV : Hid (DiskV w B v d) := hv
  have HB : Hid (B ≤ w.heap.size) := hB
  have HF : Hid (Fits d) := hf
  have HW : Hid (wtD d ≤ 1048576) := hw
  have HN : Hid (n.size ≤ maxLen) := hn
  have HT : Hid (t.size ≤ maxLen) := ht
  have HX : Hid (x.size ≤ maxLen) := hx
  obtain ⟨v1, v2, v3, rfl, h1, h2, h3⟩ := hv
  clear h1 h2 h3 hB hf hw hn ht hx
  go_enter Tryz.func6, Tryz.ntmps6
  go_wp2_with fail
  have hb0 : Below w.heap.size w (((w.alloc (.cells #[.int .i64 d.room, .int .i64 d.next, v1, v2, v3] 35)).alloc (.cells #[.int .i64 2, .string n, .string t, .string x] 39)).alloc (.cells #[.int .i64 0, .int .i64 0, .slice none 0 0, .slice none 0 0, .slice none 0 0] 35)) := (((Below.refl _ w).alloc (Nat.le_refl _) _).alloc (by simp only [World.size_alloc]; omega) _).alloc (by simp only [World.size_alloc]; omega) _
  have bA := ((Blk.new w #[.int .i64 d.room, .int .i64 d.next, v1, v2, v3] 35).alloc (.cells #[.int .i64 2, .string n, .string t, .string x] 39)).alloc (.cells #[.int .i64 0, .int .i64 0, .slice none 0 0, .slice none 0 0, .slice none 0 0] 35)
  have bJ := (Blk.new (w.alloc (.cells #[.int .i64 d.room, .int .i64 d.next, v1, v2, v3] 35)) #[.int .i64 2, .string n, .string t, .string x] 39).alloc (.cells #[.int .i64 0, .int .i64 0, .slice none 0 0, .slice none 0 0, .slice none 0 0] 35)
  have bR := Blk.new ((w.alloc (.cells #[.int .i64 d.room, .int .i64 d.next, v1, v2, v3] 35)).alloc (.cells #[.int .i64 2, .string n, .string t, .string x] 39)) #[.int .i64 0, .int .i64 0, .slice none 0 0, .slice none 0 0, .slice none 0 0] 35
  simp only [World.size_alloc] at bR bJ
  generalize (((w.alloc (.cells #[.int .i64 d.room, .int .i64 d.next, v1, v2, v3] 35)).alloc (.cells #[.int .i64 2, .string n, .string t, .string x] 39)).alloc (.cells #[.int .i64 0, .int .i64 0, .slice none 0 0, .slice none 0 0, .slice none 0 0] 35)) = W at *
  have BW : Hid (Below w.heap.size w W) := hb0
  have KW : Hid (Blk W w.heap.size #[.int .i64 d.room, .int .i64 d.next, v1, v2, v3] 35) := bA
  have JW : Hid (Blk W (w.heap.size + 1) #[.int .i64 2, .string n, .string t, .string x] 39) := bJ
  have RW : Hid (Blk W (w.heap.size + 1 + 1) #[.int .i64 0, .int .i64 0, .slice none 0 0, .slice none 0 0, .slice none 0 0] 35) := bR
  clear hb0 bA bJ bR
  refine (specOkV d _ W B (HV.out.on (BW.out.mono HB.out)) HF.out HW.out (Nat.le_trans HB.out BW.out.size)).mono ?_
  rintro e w1 ⟨rfl, hb1⟩
  have Bw1 : Hid (Below w.heap.size w w1) := BW.out.trans (hb1.mono BW.out.size)
  have Kw1 : Hid (Blk w1 w.heap.size #[.int .i64 d.room, .int .i64 d.next, v1, v2, v3] 35) := KW.out.on hb1 KW.out.lt
  have Jw1 : Hid (Blk w1 (w.heap.size + 1) #[.int .i64 2, .string n, .string t, .string x] 39) := JW.out.on hb1 JW.out.lt
  have Rw1 : Hid (Blk w1 (w.heap.size + 1 + 1) #[.int .i64 0, .int .i64 0, .slice none 0 0, .slice none 0 0, .slice none 0 0] 35) := RW.out.on hb1 RW.out.lt
  clear hb1
  clear BW KW JW RW
  rw [hok]
  have y0 := Kw1.out.cell 0 _ rfl
  have y1 := Kw1.out.cell 1 _ rfl
  have y2 := Kw1.out.cell 2 _ rfl
  have y3 := Kw1.out.cell 3 _ rfl
  have y4 := Kw1.out.cell 4 _ rfl
  have z0 := Jw1.out.cell 0 _ rfl
  have z1 := Jw1.out.cell 1 _ rfl
  have z2 := Jw1.out.cell 2 _ rfl
  have z3 := Jw1.out.cell 3 _ rfl
  have hRR0 : doStepR d 2 n t x = addR d n x := doStepR_2 d n t x
  have cC := specAddV d (.agg #[.int .i64 d.room, .int .i64 d.next, v1, v2, v3]) n x w1 B (HV.out.on (Bw1.out.mono HB.out)) HF.out HW.out (Nat.le_trans HB.out Bw1.out.size) HN.out HX.out
  clear hok
  go_wp2_with fail
  refine cC.mono ?_
  rintro e w3 ⟨y, rfl, hO3, hb3⟩
  have Bw3 : Hid (Below w.heap.size w w3) := Bw1.out.trans (hb3.mono Bw1.out.size)
  have Rw3 : Hid (Blk w3 (w.heap.size + 1 + 1) #[.int .i64 0, .int .i64 0, .slice none 0 0, .slice none 0 0, .slice none 0 0] 35) := Rw1.out.on hb3 Rw1.out.lt
  have HO : Hid (DiskO w3 w.heap.size y (addR d n x).1) := hO3.mono Bw1.out.size
  clear hO3 hb3 cC y0 y1 y2 y3 y4 z0 z1 z2 z3
  generalize hRR : addR d n x = RR at *
  obtain ⟨x1, x2, x3, rfl, o1, o2, o3⟩ := HO.out
  obtain ⟨A1, m1, k1, rfl⟩ := o1.shape
  obtain ⟨A2, m2, k2, rfl⟩ := o2.shape
  obtain ⟨A3, m3, k3, rfl⟩ := o3.shape
  have O1 : Hid (Owns w3 w.heap.size 76 3 (.slice A1 m1 k1) (nodR RR.1.nods)) := o1
  have O2 : Hid (Owns w3 w.heap.size 79 2 (.slice A2 m2 k2) (lnkR RR.1.dir)) := o2
  have O3 : Hid (Owns w3 w.heap.size 81 4 (.slice A3 m3 k3) (movR RR.1.movs)) := o3
  clear HO o1 o2 o3
  have g0 := Rw3.out.cell 0 _ rfl
  have f0 := Rw3.out.free 0
  have g1 := Rw3.out.cell 1 _ rfl
  have f1 := Rw3.out.free 1
  have g2 := Rw3.out.cell 2 _ rfl
  have f2 := Rw3.out.free 2
  have g3 := Rw3.out.cell 3 _ rfl
  have f3 := Rw3.out.free 3
  have g4 := Rw3.out.cell 4 _ rfl
  have f4 := Rw3.out.free 4
  go_wp2_with fail
  have hg : w.heap.size ≤ w.heap.size + 1 + 1 := by omega
  have hB := Bw3.out
  have FB := (((((hB.setCell hg (.int .i64 RR.1.room) (p := ⟨_, 0, none⟩)).setCell hg (.int .i64 RR.1.next) (p := ⟨_, 1, none⟩)).setCell hg (.slice A1 m1 k1) (p := ⟨_, 2, none⟩)).setCell hg (.slice A2 m2 k2) (p := ⟨_, 3, none⟩)).setCell hg (.slice A3 m3 k3) (p := ⟨_, 4, none⟩))
  have hF := (((((Rw3.out.set 0 (.int .i64 RR.1.room)).set 1 (.int .i64 RR.1.next)).set 2 (.slice A1 m1 k1)).set 3 (.slice A2 m2 k2)).set 4 (.slice A3 m3 k3))
  have mm0 := O1.out.notBlk Rw3.out (by decide)
  have F0 := (((((O1.out.other mm0 0 (.int .i64 RR.1.room)).other mm0 1 (.int .i64 RR.1.next)).other mm0 2 (.slice A1 m1 k1)).other mm0 3 (.slice A2 m2 k2)).other mm0 4 (.slice A3 m3 k3))
  have mm1 := O2.out.notBlk Rw3.out (by decide)
  have F1 := (((((O2.out.other mm1 0 (.int .i64 RR.1.room)).other mm1 1 (.int .i64 RR.1.next)).other mm1 2 (.slice A1 m1 k1)).other mm1 3 (.slice A2 m2 k2)).other mm1 4 (.slice A3 m3 k3))
  have mm2 := O3.out.notBlk Rw3.out (by decide)
  have F2 := (((((O3.out.other mm2 0 (.int .i64 RR.1.room)).other mm2 1 (.int .i64 RR.1.next)).other mm2 2 (.slice A1 m1 k1)).other mm2 3 (.slice A2 m2 k2)).other mm2 4 (.slice A3 m3 k3))
  clear g0 f0 g1 f1 g2 f2 g3 f3 g4 f4
  generalize (((((w3.setCell ⟨w.heap.size + 1 + 1, 0, none⟩ (.int .i64 RR.1.room)).setCell ⟨w.heap.size + 1 + 1, 1, none⟩ (.int .i64 RR.1.next)).setCell ⟨w.heap.size + 1 + 1, 2, none⟩ (.slice A1 m1 k1)).setCell ⟨w.heap.size + 1 + 1, 3, none⟩ (.slice A2 m2 k2)).setCell ⟨w.heap.size + 1 + 1, 4, none⟩ (.slice A3 m3 k3)) = WF at *
  have hG : Blk WF (w.heap.size + 1 + 1) #[.int .i64 RR.1.room, .int .i64 RR.1.next, .slice A1 m1 k1, .slice A2 m2 k2, .slice A3 m3 k3] 35 := hF
  have l0 := hG.cell 0 (.int .i64 RR.1.room) rfl
  have l1 := hG.cell 1 (.int .i64 RR.1.next) rfl
  have l2 := hG.cell 2 (.slice A1 m1 k1) rfl
  have l3 := hG.cell 3 (.slice A2 m2 k2) rfl
  have l4 := hG.cell 4 (.slice A3 m3 k3) rfl
  exact bodyPost_ret (v := .tuple #[.agg #[.int .i64 RR.1.room, .int .i64 RR.1.next, .slice A1 m1 k1, .slice A2 m2 k2, .slice A3 m3 k3], .int .i64 RR.2]) (by simp [results, go_sem, l0, l1, l2, l3, l4]) rfl (by rw [hRR0]; exact ⟨_, rfl, ⟨_, _, _, rfl, F0, F1, F2⟩, FB⟩)
end Go.Proofs.YtnnfnhpehacelaaGreat

/-
  A part of the contract of spec.DoStep.
-/
namespace Go.Proofs.YtnnfnhpehacelaaGreat
open Go.ChangeShapes Go.WideShapes Go.ChangeAt Go.RowKit Go.PlainAid
set_option linter.unusedVariables false

set_option maxRecDepth 20000 in
set_option maxHeartbeats 8000000 in
theorem specDo3V (d : Dsk) (v : Value) (n t x : ByteArray) (w : World) (B : Nat) (hv : DiskV w B v d) (hf : Fits d) (hw : wtD d ≤ 1048576) (hB : B ≤ w.heap.size) (hn : n.size ≤ maxLen) (ht : t.size ≤ maxLen) (hx : x.size ≤ maxLen) (hok : diskOk d = true) :
    Calls Tryz.prog 6 #[v, .agg #[.int .i64 3, .string n, .string t, .string x]] w fun e w' => ∃ y, e = .returned (.tuple #[y, .int .i64 (doStepR d 3 n t x).2]) ∧ DiskO w' w.heap.size y (doStepR d 3 n t x).1 ∧ Below w.heap.size w w' := by
  have HV : Hid (DiskV w B v d) := hv
  have HB : Hid (B ≤ w.heap.size) := hB
  have HF : Hid (Fits d) := hf
  have HW : Hid (wtD d ≤ 1048576) := hw
  have HN : Hid (n.size ≤ maxLen) := hn
  have HT : Hid (t.size ≤ maxLen) := ht
  have HX : Hid (x.size ≤ maxLen) := hx
  obtain ⟨v1, v2, v3, rfl, h1, h2, h3⟩ := hv
  clear h1 h2 h3 hB hf hw hn ht hx
  go_enter Tryz.func6, Tryz.ntmps6
  go_wp2_with fail
  have hb0 : Below w.heap.size w (((w.alloc (.cells #[.int .i64 d.room, .int .i64 d.next, v1, v2, v3] 35)).alloc (.cells #[.int .i64 3, .string n, .string t, .string x] 39)).alloc (.cells #[.int .i64 0, .int .i64 0, .slice none 0 0, .slice none 0 0, .slice none 0 0] 35)) := (((Below.refl _ w).alloc (Nat.le_refl _) _).alloc (by simp only [World.size_alloc]; omega) _).alloc (by simp only [World.size_alloc]; omega) _
  have bA := ((Blk.new w #[.int .i64 d.room, .int .i64 d.next, v1, v2, v3] 35).alloc (.cells #[.int .i64 3, .string n, .string t, .string x] 39)).alloc (.cells #[.int .i64 0, .int .i64 0, .slice none 0 0, .slice none 0 0, .slice none 0 0] 35)
  have bJ := (Blk.new (w.alloc (.cells #[.int .i64 d.room, .int .i64 d.next, v1, v2, v3] 35)) #[.int .i64 3, .string n, .string t, .string x] 39).alloc (.cells #[.int .i64 0, .int .i64 0, .slice none 0 0, .slice none 0 0, .slice none 0 0] 35)
  have bR := Blk.new ((w.alloc (.cells #[.int .i64 d.room, .int .i64 d.next, v1, v2, v3] 35)).alloc (.cells #[.int .i64 3, .string n, .string t, .string x] 39)) #[.int .i64 0, .int .i64 0, .slice none 0 0, .slice none 0 0, .slice none 0 0] 35
  simp only [World.size_alloc] at bR bJ
  generalize (((w.alloc (.cells #[.int .i64 d.room, .int .i64 d.next, v1, v2, v3] 35)).alloc (.cells #[.int .i64 3, .string n, .string t, .string x] 39)).alloc (.cells #[.int .i64 0, .int .i64 0, .slice none 0 0, .slice none 0 0, .slice none 0 0] 35)) = W at *
  have BW : Hid (Below w.heap.size w W) := hb0
  have KW : Hid (Blk W w.heap.size #[.int .i64 d.room, .int .i64 d.next, v1, v2, v3] 35) := bA
  have JW : Hid (Blk W (w.heap.size + 1) #[.int .i64 3, .string n, .string t, .string x] 39) := bJ
  have RW : Hid (Blk W (w.heap.size + 1 + 1) #[.int .i64 0, .int .i64 0, .slice none 0 0, .slice none 0 0, .slice none 0 0] 35) := bR
  clear hb0 bA bJ bR
  refine (specOkV d _ W B (HV.out.on (BW.out.mono HB.out)) HF.out HW.out (Nat.le_trans HB.out BW.out.size)).mono ?_
  rintro e w1 ⟨rfl, hb1⟩
  have Bw1 : Hid (Below w.heap.size w w1) := BW.out.trans (hb1.mono BW.out.size)
  have Kw1 : Hid (Blk w1 w.heap.size #[.int .i64 d.room, .int .i64 d.next, v1, v2, v3] 35) := KW.out.on hb1 KW.out.lt
  have Jw1 : Hid (Blk w1 (w.heap.size + 1) #[.int .i64 3, .string n, .string t, .string x] 39) := JW.out.on hb1 JW.out.lt
  have Rw1 : Hid (Blk w1 (w.heap.size + 1 + 1) #[.int .i64 0, .int .i64 0, .slice none 0 0, .slice none 0 0, .slice none 0 0] 35) := RW.out.on hb1 RW.out.lt
  clear hb1
  clear BW KW JW RW
  rw [hok]
  have y0 := Kw1.out.cell 0 _ rfl
  have y1 := Kw1.out.cell 1 _ rfl
  have y2 := Kw1.out.cell 2 _ rfl
  have y3 := Kw1.out.cell 3 _ rfl
  have y4 := Kw1.out.cell 4 _ rfl
  have z0 := Jw1.out.cell 0 _ rfl
  have z1 := Jw1.out.cell 1 _ rfl
  have z2 := Jw1.out.cell 2 _ rfl
  have z3 := Jw1.out.cell 3 _ rfl
  have hRR0 : doStepR d 3 n t x = syncR d n := doStepR_3 d n t x
  have cC := specSyncV d (.agg #[.int .i64 d.room, .int .i64 d.next, v1, v2, v3]) n w1 B (HV.out.on (Bw1.out.mono HB.out)) HF.out HW.out (Nat.le_trans HB.out Bw1.out.size) HN.out
  clear hok
  go_wp2_with fail
  refine cC.mono ?_
  rintro e w3 ⟨y, rfl, hO3, hb3⟩
  have Bw3 : Hid (Below w.heap.size w w3) := Bw1.out.trans (hb3.mono Bw1.out.size)
  have Rw3 : Hid (Blk w3 (w.heap.size + 1 + 1) #[.int .i64 0, .int .i64 0, .slice none 0 0, .slice none 0 0, .slice none 0 0] 35) := Rw1.out.on hb3 Rw1.out.lt
  have HO : Hid (DiskO w3 w.heap.size y (syncR d n).1) := hO3.mono Bw1.out.size
  clear hO3 hb3 cC y0 y1 y2 y3 y4 z0 z1 z2 z3
  generalize hRR : syncR d n = RR at *
  obtain ⟨x1, x2, x3, rfl, o1, o2, o3⟩ := HO.out
  obtain ⟨A1, m1, k1, rfl⟩ := o1.shape
  obtain ⟨A2, m2, k2, rfl⟩ := o2.shape
  obtain ⟨A3, m3, k3, rfl⟩ := o3.shape
  have O1 : Hid (Owns w3 w.heap.size 76 3 (.slice A1 m1 k1) (nodR RR.1.nods)) := o1
  have O2 : Hid (Owns w3 w.heap.size 79 2 (.slice A2 m2 k2) (lnkR RR.1.dir)) := o2
  have O3 : Hid (Owns w3 w.heap.size 81 4 (.slice A3 m3 k3) (movR RR.1.movs)) := o3
  clear HO o1 o2 o3
  have g0 := Rw3.out.cell 0 _ rfl
  have f0 := Rw3.out.free 0
  have g1 := Rw3.out.cell 1 _ rfl
  have f1 := Rw3.out.free 1
  have g2 := Rw3.out.cell 2 _ rfl
  have f2 := Rw3.out.free 2
  have g3 := Rw3.out.cell 3 _ rfl
  have f3 := Rw3.out.free 3
  have g4 := Rw3.out.cell 4 _ rfl
  have f4 := Rw3.out.free 4
  go_wp2_with fail
  have hg : w.heap.size ≤ w.heap.size + 1 + 1 := by omega
  have hB := Bw3.out
  have FB := (((((hB.setCell hg (.int .i64 RR.1.room) (p := ⟨_, 0, none⟩)).setCell hg (.int .i64 RR.1.next) (p := ⟨_, 1, none⟩)).setCell hg (.slice A1 m1 k1) (p := ⟨_, 2, none⟩)).setCell hg (.slice A2 m2 k2) (p := ⟨_, 3, none⟩)).setCell hg (.slice A3 m3 k3) (p := ⟨_, 4, none⟩))
  have hF := (((((Rw3.out.set 0 (.int .i64 RR.1.room)).set 1 (.int .i64 RR.1.next)).set 2 (.slice A1 m1 k1)).set 3 (.slice A2 m2 k2)).set 4 (.slice A3 m3 k3))
  have mm0 := O1.out.notBlk Rw3.out (by decide)
  have F0 := (((((O1.out.other mm0 0 (.int .i64 RR.1.room)).other mm0 1 (.int .i64 RR.1.next)).other mm0 2 (.slice A1 m1 k1)).other mm0 3 (.slice A2 m2 k2)).other mm0 4 (.slice A3 m3 k3))
  have mm1 := O2.out.notBlk Rw3.out (by decide)
  have F1 := (((((O2.out.other mm1 0 (.int .i64 RR.1.room)).other mm1 1 (.int .i64 RR.1.next)).other mm1 2 (.slice A1 m1 k1)).other mm1 3 (.slice A2 m2 k2)).other mm1 4 (.slice A3 m3 k3))
  have mm2 := O3.out.notBlk Rw3.out (by decide)
  have F2 := (((((O3.out.other mm2 0 (.int .i64 RR.1.room)).other mm2 1 (.int .i64 RR.1.next)).other mm2 2 (.slice A1 m1 k1)).other mm2 3 (.slice A2 m2 k2)).other mm2 4 (.slice A3 m3 k3))
  clear g0 f0 g1 f1 g2 f2 g3 f3 g4 f4
  generalize (((((w3.setCell ⟨w.heap.size + 1 + 1, 0, none⟩ (.int .i64 RR.1.room)).setCell ⟨w.heap.size + 1 + 1, 1, none⟩ (.int .i64 RR.1.next)).setCell ⟨w.heap.size + 1 + 1, 2, none⟩ (.slice A1 m1 k1)).setCell ⟨w.heap.size + 1 + 1, 3, none⟩ (.slice A2 m2 k2)).setCell ⟨w.heap.size + 1 + 1, 4, none⟩ (.slice A3 m3 k3)) = WF at *
  have hG : Blk WF (w.heap.size + 1 + 1) #[.int .i64 RR.1.room, .int .i64 RR.1.next, .slice A1 m1 k1, .slice A2 m2 k2, .slice A3 m3 k3] 35 := hF
  have l0 := hG.cell 0 (.int .i64 RR.1.room) rfl
  have l1 := hG.cell 1 (.int .i64 RR.1.next) rfl
  have l2 := hG.cell 2 (.slice A1 m1 k1) rfl
  have l3 := hG.cell 3 (.slice A2 m2 k2) rfl
  have l4 := hG.cell 4 (.slice A3 m3 k3) rfl
  exact bodyPost_ret (v := .tuple #[.agg #[.int .i64 RR.1.room, .int .i64 RR.1.next, .slice A1 m1 k1, .slice A2 m2 k2, .slice A3 m3 k3], .int .i64 RR.2]) (by simp [results, go_sem, l0, l1, l2, l3, l4]) rfl (by rw [hRR0]; exact ⟨_, rfl, ⟨_, _, _, rfl, F0, F1, F2⟩, FB⟩)
end Go.Proofs.YtnnfnhpehacelaaGreat

/-
  A part of the contract of spec.DoStep.
-/
namespace Go.Proofs.YtnnfnhpehacelaaGreat
open Go.ChangeShapes Go.WideShapes Go.ChangeAt Go.RowKit Go.PlainAid
set_option linter.unusedVariables false

set_option maxRecDepth 20000 in
set_option maxHeartbeats 8000000 in
theorem specDo4V (d : Dsk) (v : Value) (n t x : ByteArray) (w : World) (B : Nat) (hv : DiskV w B v d) (hf : Fits d) (hw : wtD d ≤ 1048576) (hB : B ≤ w.heap.size) (hn : n.size ≤ maxLen) (ht : t.size ≤ maxLen) (hx : x.size ≤ maxLen) (hok : diskOk d = true) :
    Calls Tryz.prog 6 #[v, .agg #[.int .i64 4, .string n, .string t, .string x]] w fun e w' => ∃ y, e = .returned (.tuple #[y, .int .i64 (doStepR d 4 n t x).2]) ∧ DiskO w' w.heap.size y (doStepR d 4 n t x).1 ∧ Below w.heap.size w w' := by
  have HV : Hid (DiskV w B v d) := hv
  have HB : Hid (B ≤ w.heap.size) := hB
  have HF : Hid (Fits d) := hf
  have HW : Hid (wtD d ≤ 1048576) := hw
  have HN : Hid (n.size ≤ maxLen) := hn
  have HT : Hid (t.size ≤ maxLen) := ht
  have HX : Hid (x.size ≤ maxLen) := hx
  obtain ⟨v1, v2, v3, rfl, h1, h2, h3⟩ := hv
  clear h1 h2 h3 hB hf hw hn ht hx
  go_enter Tryz.func6, Tryz.ntmps6
  go_wp2_with fail
  have hb0 : Below w.heap.size w (((w.alloc (.cells #[.int .i64 d.room, .int .i64 d.next, v1, v2, v3] 35)).alloc (.cells #[.int .i64 4, .string n, .string t, .string x] 39)).alloc (.cells #[.int .i64 0, .int .i64 0, .slice none 0 0, .slice none 0 0, .slice none 0 0] 35)) := (((Below.refl _ w).alloc (Nat.le_refl _) _).alloc (by simp only [World.size_alloc]; omega) _).alloc (by simp only [World.size_alloc]; omega) _
  have bA := ((Blk.new w #[.int .i64 d.room, .int .i64 d.next, v1, v2, v3] 35).alloc (.cells #[.int .i64 4, .string n, .string t, .string x] 39)).alloc (.cells #[.int .i64 0, .int .i64 0, .slice none 0 0, .slice none 0 0, .slice none 0 0] 35)
  have bJ := (Blk.new (w.alloc (.cells #[.int .i64 d.room, .int .i64 d.next, v1, v2, v3] 35)) #[.int .i64 4, .string n, .string t, .string x] 39).alloc (.cells #[.int .i64 0, .int .i64 0, .slice none 0 0, .slice none 0 0, .slice none 0 0] 35)
  have bR := Blk.new ((w.alloc (.cells #[.int .i64 d.room, .int .i64 d.next, v1, v2, v3] 35)).alloc (.cells #[.int .i64 4, .string n, .string t, .string x] 39)) #[.int .i64 0, .int .i64 0, .slice none 0 0, .slice none 0 0, .slice none 0 0] 35
  simp only [World.size_alloc] at bR bJ
  generalize (((w.alloc (.cells #[.int .i64 d.room, .int .i64 d.next, v1, v2, v3] 35)).alloc (.cells #[.int .i64 4, .string n, .string t, .string x] 39)).alloc (.cells #[.int .i64 0, .int .i64 0, .slice none 0 0, .slice none 0 0, .slice none 0 0] 35)) = W at *
  have BW : Hid (Below w.heap.size w W) := hb0
  have KW : Hid (Blk W w.heap.size #[.int .i64 d.room, .int .i64 d.next, v1, v2, v3] 35) := bA
  have JW : Hid (Blk W (w.heap.size + 1) #[.int .i64 4, .string n, .string t, .string x] 39) := bJ
  have RW : Hid (Blk W (w.heap.size + 1 + 1) #[.int .i64 0, .int .i64 0, .slice none 0 0, .slice none 0 0, .slice none 0 0] 35) := bR
  clear hb0 bA bJ bR
  refine (specOkV d _ W B (HV.out.on (BW.out.mono HB.out)) HF.out HW.out (Nat.le_trans HB.out BW.out.size)).mono ?_
  rintro e w1 ⟨rfl, hb1⟩
  have Bw1 : Hid (Below w.heap.size w w1) := BW.out.trans (hb1.mono BW.out.size)
  have Kw1 : Hid (Blk w1 w.heap.size #[.int .i64 d.room, .int .i64 d.next, v1, v2, v3] 35) := KW.out.on hb1 KW.out.lt
  have Jw1 : Hid (Blk w1 (w.heap.size + 1) #[.int .i64 4, .string n, .string t, .string x] 39) := JW.out.on hb1 JW.out.lt
  have Rw1 : Hid (Blk w1 (w.heap.size + 1 + 1) #[.int .i64 0, .int .i64 0, .slice none 0 0, .slice none 0 0, .slice none 0 0] 35) := RW.out.on hb1 RW.out.lt
  clear hb1
  clear BW KW JW RW
  rw [hok]
  have y0 := Kw1.out.cell 0 _ rfl
  have y1 := Kw1.out.cell 1 _ rfl
  have y2 := Kw1.out.cell 2 _ rfl
  have y3 := Kw1.out.cell 3 _ rfl
  have y4 := Kw1.out.cell 4 _ rfl
  have z0 := Jw1.out.cell 0 _ rfl
  have z1 := Jw1.out.cell 1 _ rfl
  have z2 := Jw1.out.cell 2 _ rfl
  have z3 := Jw1.out.cell 3 _ rfl
  have hRR0 : doStepR d 4 n t x = renameR d n t := doStepR_4 d n t x
  have cC := specRenameV d (.agg #[.int .i64 d.room, .int .i64 d.next, v1, v2, v3]) n t w1 B (HV.out.on (Bw1.out.mono HB.out)) HF.out HW.out (Nat.le_trans HB.out Bw1.out.size) HN.out HT.out
  clear hok
  go_wp2_with fail
  refine cC.mono ?_
  rintro e w3 ⟨y, rfl, hO3, hb3⟩
  have Bw3 : Hid (Below w.heap.size w w3) := Bw1.out.trans (hb3.mono Bw1.out.size)
  have Rw3 : Hid (Blk w3 (w.heap.size + 1 + 1) #[.int .i64 0, .int .i64 0, .slice none 0 0, .slice none 0 0, .slice none 0 0] 35) := Rw1.out.on hb3 Rw1.out.lt
  have HO : Hid (DiskO w3 w.heap.size y (renameR d n t).1) := hO3.mono Bw1.out.size
  clear hO3 hb3 cC y0 y1 y2 y3 y4 z0 z1 z2 z3
  generalize hRR : renameR d n t = RR at *
  obtain ⟨x1, x2, x3, rfl, o1, o2, o3⟩ := HO.out
  obtain ⟨A1, m1, k1, rfl⟩ := o1.shape
  obtain ⟨A2, m2, k2, rfl⟩ := o2.shape
  obtain ⟨A3, m3, k3, rfl⟩ := o3.shape
  have O1 : Hid (Owns w3 w.heap.size 76 3 (.slice A1 m1 k1) (nodR RR.1.nods)) := o1
  have O2 : Hid (Owns w3 w.heap.size 79 2 (.slice A2 m2 k2) (lnkR RR.1.dir)) := o2
  have O3 : Hid (Owns w3 w.heap.size 81 4 (.slice A3 m3 k3) (movR RR.1.movs)) := o3
  clear HO o1 o2 o3
  have g0 := Rw3.out.cell 0 _ rfl
  have f0 := Rw3.out.free 0
  have g1 := Rw3.out.cell 1 _ rfl
  have f1 := Rw3.out.free 1
  have g2 := Rw3.out.cell 2 _ rfl
  have f2 := Rw3.out.free 2
  have g3 := Rw3.out.cell 3 _ rfl
  have f3 := Rw3.out.free 3
  have g4 := Rw3.out.cell 4 _ rfl
  have f4 := Rw3.out.free 4
  go_wp2_with fail
  have hg : w.heap.size ≤ w.heap.size + 1 + 1 := by omega
  have hB := Bw3.out
  have FB := (((((hB.setCell hg (.int .i64 RR.1.room) (p := ⟨_, 0, none⟩)).setCell hg (.int .i64 RR.1.next) (p := ⟨_, 1, none⟩)).setCell hg (.slice A1 m1 k1) (p := ⟨_, 2, none⟩)).setCell hg (.slice A2 m2 k2) (p := ⟨_, 3, none⟩)).setCell hg (.slice A3 m3 k3) (p := ⟨_, 4, none⟩))
  have hF := (((((Rw3.out.set 0 (.int .i64 RR.1.room)).set 1 (.int .i64 RR.1.next)).set 2 (.slice A1 m1 k1)).set 3 (.slice A2 m2 k2)).set 4 (.slice A3 m3 k3))
  have mm0 := O1.out.notBlk Rw3.out (by decide)
  have F0 := (((((O1.out.other mm0 0 (.int .i64 RR.1.room)).other mm0 1 (.int .i64 RR.1.next)).other mm0 2 (.slice A1 m1 k1)).other mm0 3 (.slice A2 m2 k2)).other mm0 4 (.slice A3 m3 k3))
  have mm1 := O2.out.notBlk Rw3.out (by decide)
  have F1 := (((((O2.out.other mm1 0 (.int .i64 RR.1.room)).other mm1 1 (.int .i64 RR.1.next)).other mm1 2 (.slice A1 m1 k1)).other mm1 3 (.slice A2 m2 k2)).other mm1 4 (.slice A3 m3 k3))
  have mm2 := O3.out.notBlk Rw3.out (by decide)
  have F2 := (((((O3.out.other mm2 0 (.int .i64 RR.1.room)).other mm2 1 (.int .i64 RR.1.next)).other mm2 2 (.slice A1 m1 k1)).other mm2 3 (.slice A2 m2 k2)).other mm2 4 (.slice A3 m3 k3))
  clear g0 f0 g1 f1 g2 f2 g3 f3 g4 f4
  generalize (((((w3.setCell ⟨w.heap.size + 1 + 1, 0, none⟩ (.int .i64 RR.1.room)).setCell ⟨w.heap.size + 1 + 1, 1, none⟩ (.int .i64 RR.1.next)).setCell ⟨w.heap.size + 1 + 1, 2, none⟩ (.slice A1 m1 k1)).setCell ⟨w.heap.size + 1 + 1, 3, none⟩ (.slice A2 m2 k2)).setCell ⟨w.heap.size + 1 + 1, 4, none⟩ (.slice A3 m3 k3)) = WF at *
  have hG : Blk WF (w.heap.size + 1 + 1) #[.int .i64 RR.1.room, .int .i64 RR.1.next, .slice A1 m1 k1, .slice A2 m2 k2, .slice A3 m3 k3] 35 := hF
  have l0 := hG.cell 0 (.int .i64 RR.1.room) rfl
  have l1 := hG.cell 1 (.int .i64 RR.1.next) rfl
  have l2 := hG.cell 2 (.slice A1 m1 k1) rfl
  have l3 := hG.cell 3 (.slice A2 m2 k2) rfl
  have l4 := hG.cell 4 (.slice A3 m3 k3) rfl
  exact bodyPost_ret (v := .tuple #[.agg #[.int .i64 RR.1.room, .int .i64 RR.1.next, .slice A1 m1 k1, .slice A2 m2 k2, .slice A3 m3 k3], .int .i64 RR.2]) (by simp [results, go_sem, l0, l1, l2, l3, l4]) rfl (by rw [hRR0]; exact ⟨_, rfl, ⟨_, _, _, rfl, F0, F1, F2⟩, FB⟩)
end Go.Proofs.YtnnfnhpehacelaaGreat

/-
  A part of the contract of spec.DoStep.
-/
namespace Go.Proofs.YtnnfnhpehacelaaGreat
open Go.ChangeShapes Go.WideShapes Go.ChangeAt Go.RowKit Go.PlainAid
set_option linter.unusedVariables false

set_option maxRecDepth 20000 in
set_option maxHeartbeats 8000000 in
theorem specDo5V (d : Dsk) (v : Value) (n t x : ByteArray) (w : World) (B : Nat) (hv : DiskV w B v d) (hf : Fits d) (hw : wtD d ≤ 1048576) (hB : B ≤ w.heap.size) (hn : n.size ≤ maxLen) (ht : t.size ≤ maxLen) (hx : x.size ≤ maxLen) (hok : diskOk d = true) :
    Calls Tryz.prog 6 #[v, .agg #[.int .i64 5, .string n, .string t, .string x]] w fun e w' => ∃ y, e = .returned (.tuple #[y, .int .i64 (doStepR d 5 n t x).2]) ∧ DiskO w' w.heap.size y (doStepR d 5 n t x).1 ∧ Below w.heap.size w w' := by
  have HV : Hid (DiskV w B v d) := hv
  have HB : Hid (B ≤ w.heap.size) := hB
  have HF : Hid (Fits d) := hf
  have HW : Hid (wtD d ≤ 1048576) := hw
  have HN : Hid (n.size ≤ maxLen) := hn
  have HT : Hid (t.size ≤ maxLen) := ht
  have HX : Hid (x.size ≤ maxLen) := hx
  obtain ⟨v1, v2, v3, rfl, h1, h2, h3⟩ := hv
  clear h1 h2 h3 hB hf hw hn ht hx
  go_enter Tryz.func6, Tryz.ntmps6
  go_wp2_with fail
  have hb0 : Below w.heap.size w (((w.alloc (.cells #[.int .i64 d.room, .int .i64 d.next, v1, v2, v3] 35)).alloc (.cells #[.int .i64 5, .string n, .string t, .string x] 39)).alloc (.cells #[.int .i64 0, .int .i64 0, .slice none 0 0, .slice none 0 0, .slice none 0 0] 35)) := (((Below.refl _ w).alloc (Nat.le_refl _) _).alloc (by simp only [World.size_alloc]; omega) _).alloc (by simp only [World.size_alloc]; omega) _
  have bA := ((Blk.new w #[.int .i64 d.room, .int .i64 d.next, v1, v2, v3] 35).alloc (.cells #[.int .i64 5, .string n, .string t, .string x] 39)).alloc (.cells #[.int .i64 0, .int .i64 0, .slice none 0 0, .slice none 0 0, .slice none 0 0] 35)
  have bJ := (Blk.new (w.alloc (.cells #[.int .i64 d.room, .int .i64 d.next, v1, v2, v3] 35)) #[.int .i64 5, .string n, .string t, .string x] 39).alloc (.cells #[.int .i64 0, .int .i64 0, .slice none 0 0, .slice none 0 0, .slice none 0 0] 35)
  have bR := Blk.new ((w.alloc (.cells #[.int .i64 d.room, .int .i64 d.next, v1, v2, v3] 35)).alloc (.cells #[.int .i64 5, .string n, .string t, .string x] 39)) #[.int .i64 0, .int .i64 0, .slice none 0 0, .slice none 0 0, .slice none 0 0] 35
  simp only [World.size_alloc] at bR bJ
  generalize (((w.alloc (.cells #[.int .i64 d.room, .int .i64 d.next, v1, v2, v3] 35)).alloc (.cells #[.int .i64 5, .string n, .string t, .string x] 39)).alloc (.cells #[.int .i64 0, .int .i64 0, .slice none 0 0, .slice none 0 0, .slice none 0 0] 35)) = W at *
  have BW : Hid (Below w.heap.size w W) := hb0
  have KW : Hid (Blk W w.heap.size #[.int .i64 d.room, .int .i64 d.next, v1, v2, v3] 35) := bA
  have JW : Hid (Blk W (w.heap.size + 1) #[.int .i64 5, .string n, .string t, .string x] 39) := bJ
  have RW : Hid (Blk W (w.heap.size + 1 + 1) #[.int .i64 0, .int .i64 0, .slice none 0 0, .slice none 0 0, .slice none 0 0] 35) := bR
  clear hb0 bA bJ bR
  refine (specOkV d _ W B (HV.out.on (BW.out.mono HB.out)) HF.out HW.out (Nat.le_trans HB.out BW.out.size)).mono ?_
  rintro e w1 ⟨rfl, hb1⟩
  have Bw1 : Hid (Below w.heap.size w w1) := BW.out.trans (hb1.mono BW.out.size)
  have Kw1 : Hid (Blk w1 w.heap.size #[.int .i64 d.room, .int .i64 d.next, v1, v2, v3] 35) := KW.out.on hb1 KW.out.lt
  have Jw1 : Hid (Blk w1 (w.heap.size + 1) #[.int .i64 5, .string n, .string t, .string x] 39) := JW.out.on hb1 JW.out.lt
  have Rw1 : Hid (Blk w1 (w.heap.size + 1 + 1) #[.int .i64 0, .int .i64 0, .slice none 0 0, .slice none 0 0, .slice none 0 0] 35) := RW.out.on hb1 RW.out.lt
  clear hb1
  clear BW KW JW RW
  rw [hok]
  have y0 := Kw1.out.cell 0 _ rfl
  have y1 := Kw1.out.cell 1 _ rfl
  have y2 := Kw1.out.cell 2 _ rfl
  have y3 := Kw1.out.cell 3 _ rfl
  have y4 := Kw1.out.cell 4 _ rfl
  have z0 := Jw1.out.cell 0 _ rfl
  have z1 := Jw1.out.cell 1 _ rfl
  have z2 := Jw1.out.cell 2 _ rfl
  have z3 := Jw1.out.cell 3 _ rfl
  have hRR0 : doStepR d 5 n t x = dropR d n := doStepR_5 d n t x
  have cC := specDropV d (.agg #[.int .i64 d.room, .int .i64 d.next, v1, v2, v3]) n w1 B (HV.out.on (Bw1.out.mono HB.out)) HF.out HW.out (Nat.le_trans HB.out Bw1.out.size) HN.out
  clear hok
  go_wp2_with fail
  refine cC.mono ?_
  rintro e w3 ⟨y, rfl, hO3, hb3⟩
  have Bw3 : Hid (Below w.heap.size w w3) := Bw1.out.trans (hb3.mono Bw1.out.size)
  have Rw3 : Hid (Blk w3 (w.heap.size + 1 + 1) #[.int .i64 0, .int .i64 0, .slice none 0 0, .slice none 0 0, .slice none 0 0] 35) := Rw1.out.on hb3 Rw1.out.lt
  have HO : Hid (DiskO w3 w.heap.size y (dropR d n).1) := hO3.mono Bw1.out.size
  clear hO3 hb3 cC y0 y1 y2 y3 y4 z0 z1 z2 z3
  generalize hRR : dropR d n = RR at *
  obtain ⟨x1, x2, x3, rfl, o1, o2, o3⟩ := HO.out
  obtain ⟨A1, m1, k1, rfl⟩ := o1.shape
  obtain ⟨A2, m2, k2, rfl⟩ := o2.shape
  obtain ⟨A3, m3, k3, rfl⟩ := o3.shape
  have O1 : Hid (Owns w3 w.heap.size 76 3 (.slice A1 m1 k1) (nodR RR.1.nods)) := o1
  have O2 : Hid (Owns w3 w.heap.size 79 2 (.slice A2 m2 k2) (lnkR RR.1.dir)) := o2
  have O3 : Hid (Owns w3 w.heap.size 81 4 (.slice A3 m3 k3) (movR RR.1.movs)) := o3
  clear HO o1 o2 o3
  have g0 := Rw3.out.cell 0 _ rfl
  have f0 := Rw3.out.free 0
  have g1 := Rw3.out.cell 1 _ rfl
  have f1 := Rw3.out.free 1
  have g2 := Rw3.out.cell 2 _ rfl
  have f2 := Rw3.out.free 2
  have g3 := Rw3.out.cell 3 _ rfl
  have f3 := Rw3.out.free 3
  have g4 := Rw3.out.cell 4 _ rfl
  have f4 := Rw3.out.free 4
  go_wp2_with fail
  have hg : w.heap.size ≤ w.heap.size + 1 + 1 := by omega
  have hB := Bw3.out
  have FB := (((((hB.setCell hg (.int .i64 RR.1.room) (p := ⟨_, 0, none⟩)).setCell hg (.int .i64 RR.1.next) (p := ⟨_, 1, none⟩)).setCell hg (.slice A1 m1 k1) (p := ⟨_, 2, none⟩)).setCell hg (.slice A2 m2 k2) (p := ⟨_, 3, none⟩)).setCell hg (.slice A3 m3 k3) (p := ⟨_, 4, none⟩))
  have hF := (((((Rw3.out.set 0 (.int .i64 RR.1.room)).set 1 (.int .i64 RR.1.next)).set 2 (.slice A1 m1 k1)).set 3 (.slice A2 m2 k2)).set 4 (.slice A3 m3 k3))
  have mm0 := O1.out.notBlk Rw3.out (by decide)
  have F0 := (((((O1.out.other mm0 0 (.int .i64 RR.1.room)).other mm0 1 (.int .i64 RR.1.next)).other mm0 2 (.slice A1 m1 k1)).other mm0 3 (.slice A2 m2 k2)).other mm0 4 (.slice A3 m3 k3))
  have mm1 := O2.out.notBlk Rw3.out (by decide)
  have F1 := (((((O2.out.other mm1 0 (.int .i64 RR.1.room)).other mm1 1 (.int .i64 RR.1.next)).other mm1 2 (.slice A1 m1 k1)).other mm1 3 (.slice A2 m2 k2)).other mm1 4 (.slice A3 m3 k3))
  have mm2 := O3.out.notBlk Rw3.out (by decide)
  have F2 := (((((O3.out.other mm2 0 (.int .i64 RR.1.room)).other mm2 1 (.int .i64 RR.1.next)).other mm2 2 (.slice A1 m1 k1)).other mm2 3 (.slice A2 m2 k2)).other mm2 4 (.slice A3 m3 k3))
  clear g0 f0 g1 f1 g2 f2 g3 f3 g4 f4
  generalize (((((w3.setCell ⟨w.heap.size + 1 + 1, 0, none⟩ (.int .i64 RR.1.room)).setCell ⟨w.heap.size + 1 + 1, 1, none⟩ (.int .i64 RR.1.next)).setCell ⟨w.heap.size + 1 + 1, 2, none⟩ (.slice A1 m1 k1)).setCell ⟨w.heap.size + 1 + 1, 3, none⟩ (.slice A2 m2 k2)).setCell ⟨w.heap.size + 1 + 1, 4, none⟩ (.slice A3 m3 k3)) = WF at *
  have hG : Blk WF (w.heap.size + 1 + 1) #[.int .i64 RR.1.room, .int .i64 RR.1.next, .slice A1 m1 k1, .slice A2 m2 k2, .slice A3 m3 k3] 35 := hF
  have l0 := hG.cell 0 (.int .i64 RR.1.room) rfl
  have l1 := hG.cell 1 (.int .i64 RR.1.next) rfl
  have l2 := hG.cell 2 (.slice A1 m1 k1) rfl
  have l3 := hG.cell 3 (.slice A2 m2 k2) rfl
  have l4 := hG.cell 4 (.slice A3 m3 k3) rfl
  exact bodyPost_ret (v := .tuple #[.agg #[.int .i64 RR.1.room, .int .i64 RR.1.next, .slice A1 m1 k1, .slice A2 m2 k2, .slice A3 m3 k3], .int .i64 RR.2]) (by simp [results, go_sem, l0, l1, l2, l3, l4]) rfl (by rw [hRR0]; exact ⟨_, rfl, ⟨_, _, _, rfl, F0, F1, F2⟩, FB⟩)
end Go.Proofs.YtnnfnhpehacelaaGreat

/-
  A part of the contract of spec.DoStep.
-/
namespace Go.Proofs.YtnnfnhpehacelaaGreat
open Go.ChangeShapes Go.WideShapes Go.ChangeAt Go.RowKit Go.PlainAid
set_option linter.unusedVariables false

set_option maxRecDepth 20000 in
set_option maxHeartbeats 8000000 in
theorem specDo6V (d : Dsk) (v : Value) (n t x : ByteArray) (w : World) (B : Nat) (hv : DiskV w B v d) (hf : Fits d) (hw : wtD d ≤ 1048576) (hB : B ≤ w.heap.size) (hn : n.size ≤ maxLen) (ht : t.size ≤ maxLen) (hx : x.size ≤ maxLen) (hok : diskOk d = true) :
    Calls Tryz.prog 6 #[v, .agg #[.int .i64 6, .string n, .string t, .string x]] w fun e w' => ∃ y, e = .returned (.tuple #[y, .int .i64 (doStepR d 6 n t x).2]) ∧ DiskO w' w.heap.size y (doStepR d 6 n t x).1 ∧ Below w.heap.size w w' := by
  have HV : Hid (DiskV w B v d) := hv
  have HB : Hid (B ≤ w.heap.size) := hB
  have HF : Hid (Fits d) := hf
  have HW : Hid (wtD d ≤ 1048576) := hw
  have HN : Hid (n.size ≤ maxLen) := hn
  have HT : Hid (t.size ≤ maxLen) := ht
  have HX : Hid (x.size ≤ maxLen) := hx
  obtain ⟨v1, v2, v3, rfl, h1, h2, h3⟩ := hv
  clear h1 h2 h3 hB hf hw hn ht hx
  go_enter Tryz.func6, Tryz.ntmps6
  go_wp2_with fail
  have hb0 : Below w.heap.size w (((w.alloc (.cells #[.int .i64 d.room, .int .i64 d.next, v1, v2, v3] 35)).alloc (.cells #[.int .i64 6, .string n, .string t, .string x] 39)).alloc (.cells #[.int .i64 0, .int .i64 0, .slice none 0 0, .slice none 0 0, .slice none 0 0] 35)) := (((Below.refl _ w).alloc (Nat.le_refl _) _).alloc (by simp only [World.size_alloc]; omega) _).alloc (by simp only [World.size_alloc]; omega) _
  have bA := ((Blk.new w #[.int .i64 d.room, .int .i64 d.next, v1, v2, v3] 35).alloc (.cells #[.int .i64 6, .string n, .string t, .string x] 39)).alloc (.cells #[.int .i64 0, .int .i64 0, .slice none 0 0, .slice none 0 0, .slice none 0 0] 35)
  have bJ := (Blk.new (w.alloc (.cells #[.int .i64 d.room, .int .i64 d.next, v1, v2, v3] 35)) #[.int .i64 6, .string n, .string t, .string x] 39).alloc (.cells #[.int .i64 0, .int .i64 0, .slice none 0 0, .slice none 0 0, .slice none 0 0] 35)
  have bR := Blk.new ((w.alloc (.cells #[.int .i64 d.room, .int .i64 d.next, v1, v2, v3] 35)).alloc (.cells #[.int .i64 6, .string n, .string t, .string x] 39)) #[.int .i64 0, .int .i64 0, .slice none 0 0, .slice none 0 0, .slice none 0 0] 35
  simp only [World.size_alloc] at bR bJ
  generalize (((w.alloc (.cells #[.int .i64 d.room, .int .i64 d.next, v1, v2, v3] 35)).alloc (.cells #[.int .i64 6, .string n, .string t, .string x] 39)).alloc (.cells #[.int .i64 0, .int .i64 0, .slice none 0 0, .slice none 0 0, .slice none 0 0] 35)) = W at *
  have BW : Hid (Below w.heap.size w W) := hb0
  have KW : Hid (Blk W w.heap.size #[.int .i64 d.room, .int .i64 d.next, v1, v2, v3] 35) := bA
  have JW : Hid (Blk W (w.heap.size + 1) #[.int .i64 6, .string n, .string t, .string x] 39) := bJ
  have RW : Hid (Blk W (w.heap.size + 1 + 1) #[.int .i64 0, .int .i64 0, .slice none 0 0, .slice none 0 0, .slice none 0 0] 35) := bR
  clear hb0 bA bJ bR
  refine (specOkV d _ W B (HV.out.on (BW.out.mono HB.out)) HF.out HW.out (Nat.le_trans HB.out BW.out.size)).mono ?_
  rintro e w1 ⟨rfl, hb1⟩
  have Bw1 : Hid (Below w.heap.size w w1) := BW.out.trans (hb1.mono BW.out.size)
  have Kw1 : Hid (Blk w1 w.heap.size #[.int .i64 d.room, .int .i64 d.next, v1, v2, v3] 35) := KW.out.on hb1 KW.out.lt
  have Jw1 : Hid (Blk w1 (w.heap.size + 1) #[.int .i64 6, .string n, .string t, .string x] 39) := JW.out.on hb1 JW.out.lt
  have Rw1 : Hid (Blk w1 (w.heap.size + 1 + 1) #[.int .i64 0, .int .i64 0, .slice none 0 0, .slice none 0 0, .slice none 0 0] 35) := RW.out.on hb1 RW.out.lt
  clear hb1
  clear BW KW JW RW
  rw [hok]
  have y0 := Kw1.out.cell 0 _ rfl
  have y1 := Kw1.out.cell 1 _ rfl
  have y2 := Kw1.out.cell 2 _ rfl
  have y3 := Kw1.out.cell 3 _ rfl
  have y4 := Kw1.out.cell 4 _ rfl
  have z0 := Jw1.out.cell 0 _ rfl
  have z1 := Jw1.out.cell 1 _ rfl
  have z2 := Jw1.out.cell 2 _ rfl
  have z3 := Jw1.out.cell 3 _ rfl
  have hRR0 : doStepR d 6 n t x = syncDirR d := doStepR_6 d n t x
  have cC := specSyncDirV d (.agg #[.int .i64 d.room, .int .i64 d.next, v1, v2, v3])  w1 B (HV.out.on (Bw1.out.mono HB.out)) HF.out HW.out (Nat.le_trans HB.out Bw1.out.size) 
  clear hok
  go_wp2_with fail
  refine cC.mono ?_
  rintro e w3 ⟨y, rfl, hO3, hb3⟩
  have Bw3 : Hid (Below w.heap.size w w3) := Bw1.out.trans (hb3.mono Bw1.out.size)
  have Rw3 : Hid (Blk w3 (w.heap.size + 1 + 1) #[.int .i64 0, .int .i64 0, .slice none 0 0, .slice none 0 0, .slice none 0 0] 35) := Rw1.out.on hb3 Rw1.out.lt
  have HO : Hid (DiskO w3 w.heap.size y (syncDirR d).1) := hO3.mono Bw1.out.size
  clear hO3 hb3 cC y0 y1 y2 y3 y4 z0 z1 z2 z3
  generalize hRR : syncDirR d = RR at *
  obtain ⟨x1, x2, x3, rfl, o1, o2, o3⟩ := HO.out
  obtain ⟨A1, m1, k1, rfl⟩ := o1.shape
  obtain ⟨A2, m2, k2, rfl⟩ := o2.shape
  obtain ⟨A3, m3, k3, rfl⟩ := o3.shape
  have O1 : Hid (Owns w3 w.heap.size 76 3 (.slice A1 m1 k1) (nodR RR.1.nods)) := o1
  have O2 : Hid (Owns w3 w.heap.size 79 2 (.slice A2 m2 k2) (lnkR RR.1.dir)) := o2
  have O3 : Hid (Owns w3 w.heap.size 81 4 (.slice A3 m3 k3) (movR RR.1.movs)) := o3
  clear HO o1 o2 o3
  have g0 := Rw3.out.cell 0 _ rfl
  have f0 := Rw3.out.free 0
  have g1 := Rw3.out.cell 1 _ rfl
  have f1 := Rw3.out.free 1
  have g2 := Rw3.out.cell 2 _ rfl
  have f2 := Rw3.out.free 2
  have g3 := Rw3.out.cell 3 _ rfl
  have f3 := Rw3.out.free 3
  have g4 := Rw3.out.cell 4 _ rfl
  have f4 := Rw3.out.free 4
  go_wp2_with fail
  have hg : w.heap.size ≤ w.heap.size + 1 + 1 := by omega
  have hB := Bw3.out
  have FB := (((((hB.setCell hg (.int .i64 RR.1.room) (p := ⟨_, 0, none⟩)).setCell hg (.int .i64 RR.1.next) (p := ⟨_, 1, none⟩)).setCell hg (.slice A1 m1 k1) (p := ⟨_, 2, none⟩)).setCell hg (.slice A2 m2 k2) (p := ⟨_, 3, none⟩)).setCell hg (.slice A3 m3 k3) (p := ⟨_, 4, none⟩))
  have hF := (((((Rw3.out.set 0 (.int .i64 RR.1.room)).set 1 (.int .i64 RR.1.next)).set 2 (.slice A1 m1 k1)).set 3 (.slice A2 m2 k2)).set 4 (.slice A3 m3 k3))
  have mm0 := O1.out.notBlk Rw3.out (by decide)
  have F0 := (((((O1.out.other mm0 0 (.int .i64 RR.1.room)).other mm0 1 (.int .i64 RR.1.next)).other mm0 2 (.slice A1 m1 k1)).other mm0 3 (.slice A2 m2 k2)).other mm0 4 (.slice A3 m3 k3))
  have mm1 := O2.out.notBlk Rw3.out (by decide)
  have F1 := (((((O2.out.other mm1 0 (.int .i64 RR.1.room)).other mm1 1 (.int .i64 RR.1.next)).other mm1 2 (.slice A1 m1 k1)).other mm1 3 (.slice A2 m2 k2)).other mm1 4 (.slice A3 m3 k3))
  have mm2 := O3.out.notBlk Rw3.out (by decide)
  have F2 := (((((O3.out.other mm2 0 (.int .i64 RR.1.room)).other mm2 1 (.int .i64 RR.1.next)).other mm2 2 (.slice A1 m1 k1)).other mm2 3 (.slice A2 m2 k2)).other mm2 4 (.slice A3 m3 k3))
  clear g0 f0 g1 f1 g2 f2 g3 f3 g4 f4
  generalize (((((w3.setCell ⟨w.heap.size + 1 + 1, 0, none⟩ (.int .i64 RR.1.room)).setCell ⟨w.heap.size + 1 + 1, 1, none⟩ (.int .i64 RR.1.next)).setCell ⟨w.heap.size + 1 + 1, 2, none⟩ (.slice A1 m1 k1)).setCell ⟨w.heap.size + 1 + 1, 3, none⟩ (.slice A2 m2 k2)).setCell ⟨w.heap.size + 1 + 1, 4, none⟩ (.slice A3 m3 k3)) = WF at *
  have hG : Blk WF (w.heap.size + 1 + 1) #[.int .i64 RR.1.room, .int .i64 RR.1.next, .slice A1 m1 k1, .slice A2 m2 k2, .slice A3 m3 k3] 35 := hF
  have l0 := hG.cell 0 (.int .i64 RR.1.room) rfl
  have l1 := hG.cell 1 (.int .i64 RR.1.next) rfl
  have l2 := hG.cell 2 (.slice A1 m1 k1) rfl
  have l3 := hG.cell 3 (.slice A2 m2 k2) rfl
  have l4 := hG.cell 4 (.slice A3 m3 k3) rfl
  exact bodyPost_ret (v := .tuple #[.agg #[.int .i64 RR.1.room, .int .i64 RR.1.next, .slice A1 m1 k1, .slice A2 m2 k2, .slice A3 m3 k3], .int .i64 RR.2]) (by simp [results, go_sem, l0, l1, l2, l3, l4]) rfl (by rw [hRR0]; exact ⟨_, rfl, ⟨_, _, _, rfl, F0, F1, F2⟩, FB⟩)
end Go.Proofs.YtnnfnhpehacelaaGreat

/-
  A part of the contract of spec.DoStep.
-/
namespace Go.Proofs.YtnnfnhpehacelaaGreat
open Go.ChangeShapes Go.WideShapes Go.ChangeAt Go.RowKit Go.PlainAid
set_option linter.unusedVariables false

set_option maxRecDepth 20000 in
set_option maxHeartbeats 8000000 in
theorem specDonV (d : Dsk) (v : Value) (k : Int) (n t x : ByteArray) (w : World) (B : Nat) (hv : DiskV w B v d) (hf : Fits d) (hw : wtD d ≤ 1048576) (hB : B ≤ w.heap.size) (hn : n.size ≤ maxLen) (ht : t.size ≤ maxLen) (hx : x.size ≤ maxLen) (hok : diskOk d = false) :
    Calls Tryz.prog 6 #[v, .agg #[.int .i64 k, .string n, .string t, .string x]] w fun e w' => ∃ y, e = .returned (.tuple #[y, .int .i64 (doStepR d k n t x).2]) ∧ DiskO w' w.heap.size y (doStepR d k n t x).1 ∧ Below w.heap.size w w' := by
  have HV : Hid (DiskV w B v d) := hv
  have HB : Hid (B ≤ w.heap.size) := hB
  have HF : Hid (Fits d) := hf
  have HW : Hid (wtD d ≤ 1048576) := hw
  have HN : Hid (n.size ≤ maxLen) := hn
  have HT : Hid (t.size ≤ maxLen) := ht
  have HX : Hid (x.size ≤ maxLen) := hx
  obtain ⟨v1, v2, v3, rfl, h1, h2, h3⟩ := hv
  clear h1 h2 h3 hB hf hw hn ht hx
  go_enter Tryz.func6, Tryz.ntmps6
  go_wp2_with fail
  have hb0 : Below w.heap.size w (((w.alloc (.cells #[.int .i64 d.room, .int .i64 d.next, v1, v2, v3] 35)).alloc (.cells #[.int .i64 k, .string n, .string t, .string x] 39)).alloc (.cells #[.int .i64 0, .int .i64 0, .slice none 0 0, .slice none 0 0, .slice none 0 0] 35)) := (((Below.refl _ w).alloc (Nat.le_refl _) _).alloc (by simp only [World.size_alloc]; omega) _).alloc (by simp only [World.size_alloc]; omega) _
  have bA := ((Blk.new w #[.int .i64 d.room, .int .i64 d.next, v1, v2, v3] 35).alloc (.cells #[.int .i64 k, .string n, .string t, .string x] 39)).alloc (.cells #[.int .i64 0, .int .i64 0, .slice none 0 0, .slice none 0 0, .slice none 0 0] 35)
  have bJ := (Blk.new (w.alloc (.cells #[.int .i64 d.room, .int .i64 d.next, v1, v2, v3] 35)) #[.int .i64 k, .string n, .string t, .string x] 39).alloc (.cells #[.int .i64 0, .int .i64 0, .slice none 0 0, .slice none 0 0, .slice none 0 0] 35)
  have bR := Blk.new ((w.alloc (.cells #[.int .i64 d.room, .int .i64 d.next, v1, v2, v3] 35)).alloc (.cells #[.int .i64 k, .string n, .string t, .string x] 39)) #[.int .i64 0, .int .i64 0, .slice none 0 0, .slice none 0 0, .slice none 0 0] 35
  simp only [World.size_alloc] at bR bJ
  generalize (((w.alloc (.cells #[.int .i64 d.room, .int .i64 d.next, v1, v2, v3] 35)).alloc (.cells #[.int .i64 k, .string n, .string t, .string x] 39)).alloc (.cells #[.int .i64 0, .int .i64 0, .slice none 0 0, .slice none 0 0, .slice none 0 0] 35)) = W at *
  have BW : Hid (Below w.heap.size w W) := hb0
  have KW : Hid (Blk W w.heap.size #[.int .i64 d.room, .int .i64 d.next, v1, v2, v3] 35) := bA
  have JW : Hid (Blk W (w.heap.size + 1) #[.int .i64 k, .string n, .string t, .string x] 39) := bJ
  have RW : Hid (Blk W (w.heap.size + 1 + 1) #[.int .i64 0, .int .i64 0, .slice none 0 0, .slice none 0 0, .slice none 0 0] 35) := bR
  clear hb0 bA bJ bR
  refine (specOkV d _ W B (HV.out.on (BW.out.mono HB.out)) HF.out HW.out (Nat.le_trans HB.out BW.out.size)).mono ?_
  rintro e w1 ⟨rfl, hb1⟩
  have Bw1 : Hid (Below w.heap.size w w1) := BW.out.trans (hb1.mono BW.out.size)
  have Kw1 : Hid (Blk w1 w.heap.size #[.int .i64 d.room, .int .i64 d.next, v1, v2, v3] 35) := KW.out.on hb1 KW.out.lt
  have Jw1 : Hid (Blk w1 (w.heap.size + 1) #[.int .i64 k, .string n, .string t, .string x] 39) := JW.out.on hb1 JW.out.lt
  have Rw1 : Hid (Blk w1 (w.heap.size + 1 + 1) #[.int .i64 0, .int .i64 0, .slice none 0 0, .slice none 0 0, .slice none 0 0] 35) := RW.out.on hb1 RW.out.lt
  clear hb1
  clear BW KW JW RW
  rw [hok]
  have hRR : doStepR d k n t x = (zeroD, 1) := doStepR_no hok
  clear hok
  have g0 := Rw1.out.cell 0 _ rfl
  have f0 := Rw1.out.free 0
  have g1 := Rw1.out.cell 1 _ rfl
  have f1 := Rw1.out.free 1
  have g2 := Rw1.out.cell 2 _ rfl
  have f2 := Rw1.out.free 2
  have g3 := Rw1.out.cell 3 _ rfl
  have f3 := Rw1.out.free 3
  have g4 := Rw1.out.cell 4 _ rfl
  have f4 := Rw1.out.free 4
  go_wp2_with fail
  have hg : w.heap.size ≤ w.heap.size + 1 + 1 := by omega
  have hB := Bw1.out
  have FB := (((((hB.setCell hg (.int .i64 0) (p := ⟨_, 0, none⟩)).setCell hg (.int .i64 0) (p := ⟨_, 1, none⟩)).setCell hg (.slice none 0 0) (p := ⟨_, 2, none⟩)).setCell hg (.slice none 0 0) (p := ⟨_, 3, none⟩)).setCell hg (.slice none 0 0) (p := ⟨_, 4, none⟩))
  have hF := (((((Rw1.out.set 0 (.int .i64 0)).set 1 (.int .i64 0)).set 2 (.slice none 0 0)).set 3 (.slice none 0 0)).set 4 (.slice none 0 0))
  clear g0 f0 g1 f1 g2 f2 g3 f3 g4 f4
  generalize (((((w1.setCell ⟨w.heap.size + 1 + 1, 0, none⟩ (.int .i64 0)).setCell ⟨w.heap.size + 1 + 1, 1, none⟩ (.int .i64 0)).setCell ⟨w.heap.size + 1 + 1, 2, none⟩ (.slice none 0 0)).setCell ⟨w.heap.size + 1 + 1, 3, none⟩ (.slice none 0 0)).setCell ⟨w.heap.size + 1 + 1, 4, none⟩ (.slice none 0 0)) = WF at *
  have hG : Blk WF (w.heap.size + 1 + 1) #[.int .i64 0, .int .i64 0, .slice none 0 0, .slice none 0 0, .slice none 0 0] 35 := hF
  have l0 := hG.cell 0 (.int .i64 0) rfl
  have l1 := hG.cell 1 (.int .i64 0) rfl
  have l2 := hG.cell 2 (.slice none 0 0) rfl
  have l3 := hG.cell 3 (.slice none 0 0) rfl
  have l4 := hG.cell 4 (.slice none 0 0) rfl
  exact bodyPost_ret (v := .tuple #[.agg #[.int .i64 0, .int .i64 0, .slice none 0 0, .slice none 0 0, .slice none 0 0], .int .i64 1]) (by simp [results, go_sem, l0, l1, l2, l3, l4]) rfl (by rw [hRR]; exact ⟨_, rfl, ⟨_, _, _, rfl, Owns.nil _ _ _ _, Owns.nil _ _ _ _, Owns.nil _ _ _ _⟩, FB⟩)
end Go.Proofs.YtnnfnhpehacelaaGreat

/-
  The contract of spec.DoStep.
-/
namespace Go.Proofs.YtnnfnhpehacelaaGreat
open Go.ChangeShapes Go.WideShapes Go.ChangeAt Go.RowKit Go.PlainAid
set_option linter.unusedVariables false

theorem specDoStepV (d : Dsk) (v : Value) (k : Int) (n t x : ByteArray) (w : World) (B : Nat) (hv : DiskV w B v d) (hf : Fits d) (hw : wtD d ≤ 1048576) (hB : B ≤ w.heap.size) (hn : n.size ≤ maxLen) (ht : t.size ≤ maxLen) (hx : x.size ≤ maxLen) :
    Calls Tryz.prog 6 #[v, .agg #[.int .i64 k, .string n, .string t, .string x]] w fun e w' => ∃ y, e = .returned (.tuple #[y, .int .i64 (doStepR d k n t x).2]) ∧ DiskO w' w.heap.size y (doStepR d k n t x).1 ∧ Below w.heap.size w w' := by
  cases hok : diskOk d with
  | false => exact specDonV d v k n t x w B hv hf hw hB hn ht hx hok
  | true =>
    by_cases h1 : k = 1
    · subst h1
      exact specDo1V d v n t x w B hv hf hw hB hn ht hx hok
    by_cases h2 : k = 2
    · subst h2
      exact specDo2V d v n t x w B hv hf hw hB hn ht hx hok
    by_cases h3 : k = 3
    · subst h3
      exact specDo3V d v n t x w B hv hf hw hB hn ht hx hok
    by_cases h4 : k = 4
    · subst h4
      exact specDo4V d v n t x w B hv hf hw hB hn ht hx hok
    by_cases h5 : k = 5
    · subst h5
      exact specDo5V d v n t x w B hv hf hw hB hn ht hx hok
    by_cases h6 : k = 6
    · subst h6
      exact specDo6V d v n t x w B hv hf hw hB hn ht hx hok
    exact specDo0V d v k n t x w B hv hf hw hB hn ht hx hok h1 h2 h3 h4 h5 h6
end Go.Proofs.YtnnfnhpehacelaaGreat
