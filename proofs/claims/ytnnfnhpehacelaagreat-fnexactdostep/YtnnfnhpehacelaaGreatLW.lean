/-
  The contract of laws.eqDisk, at disks whose rows are few.
-/
import Derived.Test.YtnnfnhpehacelaaGreatRows
import Derived.Test.YtnnfnhpehacelaaGreatDkEq
import Derived.Test.YtnnfnhpehacelaaGreatDkArg
import Derived.Deep.Slices
import Derived.ChangeArms
import Derived.OpenShut
import Derived.Test.YtnnfnhpehacelaaGreatSP
import Derived.Test.YtnnfnhpehacelaaGreatAI
import Derived.Test.YtnnfnhpehacelaaGreatDkToD
import Derived.Test.YtnnfnhpehacelaaGreatDkMkD
import Derived.Deep.RegionHeld3
import Derived.Deep.CutRange
namespace Go.Proofs.YtnnfnhpehacelaaGreat
open Go.ChangeShapes Go.WideShapes Go.ChangeAt Go.RowKit Go.PlainAid
set_option linter.unusedVariables false

theorem DiskO.above {w w' : World} {base : Nat} {v : Value} {d : Dsk} (h : DiskO w base v d) (hk : ∀ g, base ≤ g → g < w.heap.size → w'.heap[g]? = w.heap[g]?) : DiskO w' base v d := by
  obtain ⟨v1, v2, v3, e, h1, h2, h3⟩ := h
  exact ⟨v1, v2, v3, e, h1.kept fun g hg ho => hk g (h1.lt g ho).1 hg, h2.kept fun g hg ho => hk g (h2.lt g ho).1 hg, h3.kept fun g hg ho => hk g (h3.lt g ho).1 hg⟩

set_option maxHeartbeats 1000000 in
theorem eqDiskL (d : Dsk) (va vb : Value) (w : World) (B : Nat) (ha : DiskV w B va d) (hb : DiskV w B vb d) (l1 : d.nods.length ≤ 1048576) (l2 : d.dir.length ≤ 1048576) (l3 : d.movs.length ≤ 1048576) (hB : B ≤ w.heap.size) :
    Calls Tryz.prog 10 #[va, vb] w fun e w' => e = .returned (.bool true) ∧ Below w.heap.size w w' := by
  obtain ⟨a1, a2, a3, rfl, an, al, am⟩ := ha
  obtain ⟨b1, b2, b3, rfl, bn, bl, bm⟩ := hb
  have HB : Hid (B ≤ w.heap.size) := hB
  have AN : Hid (Lies w B 3 a1 (nodR d.nods)) := an
  have AL : Hid (Lies w B 2 a2 (lnkR d.dir)) := al
  have AM : Hid (Lies w B 4 a3 (movR d.movs)) := am
  have BN : Hid (Lies w B 3 b1 (nodR d.nods)) := bn
  have BL : Hid (Lies w B 2 b2 (lnkR d.dir)) := bl
  have BM : Hid (Lies w B 4 b3 (movR d.movs)) := bm
  have L1 : Hid (d.nods.length ≤ 1048576) := l1
  have L2 : Hid (d.dir.length ≤ 1048576) := l2
  have L3 : Hid (d.movs.length ≤ 1048576) := l3
  clear an al am bn bl bm l1 l2 l3 hB
  go_enter Tryz.func10, Tryz.ntmps10
  go_wp2_with fail
  have hb0 := below_alloc2 w (.cells #[.int .i64 d.room, .int .i64 d.next, a1, a2, a3] 35) (.cells #[.int .i64 d.room, .int .i64 d.next, b1, b2, b3] 35)
  have kA := (Blk.new w #[.int .i64 d.room, .int .i64 d.next, a1, a2, a3] 35).alloc (.cells #[.int .i64 d.room, .int .i64 d.next, b1, b2, b3] 35)
  have kB := Blk.new (w.alloc (.cells #[.int .i64 d.room, .int .i64 d.next, a1, a2, a3] 35)) #[.int .i64 d.room, .int .i64 d.next, b1, b2, b3] 35
  simp only [World.size_alloc] at kB
  generalize (w.alloc (.cells #[.int .i64 d.room, .int .i64 d.next, a1, a2, a3] 35)).alloc (.cells #[.int .i64 d.room, .int .i64 d.next, b1, b2, b3] 35) = W at *
  have B0 : Hid (Below w.heap.size w W) := hb0
  have hlt := kB.lt
  clear hb0
  refine (eqInodeS d.nods a1 b1 W B (AN.out.on (B0.out.mono HB.out)) (BN.out.on (B0.out.mono HB.out)) L1.out (Nat.le_trans HB.out B0.out.size)).mono ?_
  rintro e w2 ⟨rfl, hb2⟩
  have B2 : Hid (Below w.heap.size w w2) := B0.out.trans (hb2.mono B0.out.size)
  have kA2 := kA.on hb2 (by omega)
  have kB2 := kB.on hb2 hlt
  clear kA kB hb2 hlt
  have e1 := kA2.cell 3 a2 rfl
  have e2 := kB2.cell 3 b2 rfl
  have hlt := kB2.lt
  have KA2 : Hid (Blk w2 w.heap.size _ _) := kA2
  have KB2 : Hid (Blk w2 (w.heap.size + 1) _ _) := kB2
  clear kA2 kB2
  go_wp2_with fail
  refine (eqLinkS d.dir a2 b2 w2 B (AL.out.on (B2.out.mono HB.out)) (BL.out.on (B2.out.mono HB.out)) L2.out (Nat.le_trans HB.out B2.out.size)).mono ?_
  rintro e w3 ⟨rfl, hb3⟩
  have B3 : Hid (Below w.heap.size w w3) := B2.out.trans (hb3.mono B2.out.size)
  have e3 := (KA2.out.on hb3 (by omega)).cell 4 a3 rfl
  have e4 := (KB2.out.on hb3 hlt).cell 4 b3 rfl
  clear e1 e2 hb3 hlt
  go_wp2_with fail
  refine (eqMoveS d.movs a3 b3 w3 B (AM.out.on (B3.out.mono HB.out)) (BM.out.on (B3.out.mono HB.out)) L3.out (Nat.le_trans HB.out B3.out.size)).mono ?_
  rintro e w4 ⟨rfl, hb4⟩
  have B4 : Hid (Below w.heap.size w w4) := B3.out.trans (hb4.mono B3.out.size)
  clear hb4
  go_wp2_with fail
  go_ret
  exact ⟨rfl, B4.out⟩
end Go.Proofs.YtnnfnhpehacelaaGreat

/-
  A step that came in as an argument: what is told of it.
-/
namespace Go.Proofs.YtnnfnhpehacelaaGreat
open Go.ChangeShapes Go.WideShapes Go.ChangeAt Go.RowKit Go.PlainAid
set_option linter.unusedVariables false

theorem cStep : Tryz.prog.cellsOf 28 = 4 := by kernel_rfl

section
variable {H : Type} {enc : TypeId × Value → H} {w : World} {base : Nat} {spare : Nat → Bool} {held : Bool}

set_option maxRecDepth 100000 in
theorem open_step {r : Reach} {b0 : Nat} {v : Value} {dd : DataW H} {ps : List MemPlace} (hval : Value.okWide Tryz.prog w r b0 28 v) (hd : DataW.Trod enc Tryz.prog w base spare held 28 v dd ps) : ∃ (k : Int) (n t x : ByteArray), v = .agg #[.int .i64 k, .string n, .string t, .string x] ∧ n.size ≤ maxLen ∧ t.size ≤ maxLen ∧ x.size ≤ maxLen := by
  obtain ⟨cs, rfl, hsz⟩ := okWide_struct Tryz.underlying28 hval
  rw [cStep] at hsz
  obtain ⟨fuel, hf0⟩ := hd
  obtain ⟨xs, m, _, _, _, hlen, hf⟩ := DataW.trod_struct Tryz.underlying28 hf0
  obtain ⟨l⟩ := cs
  obtain ⟨a, b, c, d, rfl⟩ := list4 (show l.length = 4 from hsz)
  obtain ⟨x0, x1, x2, x3, rfl⟩ := list4 (show xs.length = 4 from hlen)
  have f0 := hf 0 _ rfl
  have f1 := hf 1 _ rfl
  have f2 := hf 2 _ rfl
  have f3 := hf 3 _ rfl
  simp only [Value.cells, List.getElem?_cons_zero, List.getElem?_cons_succ] at f0 f1 f2 f3
  obtain ⟨i0, e0, _, w0⟩ := DataW.trod_int Tryz.underlying3 f0
  obtain ⟨s1, e1, _, u1⟩ := DataW.trod_string Tryz.underlying9 f1
  obtain ⟨s2, e2, _, u2⟩ := DataW.trod_string Tryz.underlying9 f2
  obtain ⟨s3, e3, _, u3⟩ := DataW.trod_string Tryz.underlying9 f3
  cases e0
  cases e1
  cases e2
  cases e3
  exact ⟨i0, s1, s2, s3, rfl, u1, u2, u3⟩
end
end Go.Proofs.YtnnfnhpehacelaaGreat

/-
  The walk of laws.FnExactDoStep.
-/
namespace Go.Proofs.YtnnfnhpehacelaaGreat
open Go.ChangeShapes Go.WideShapes Go.ChangeAt Go.RowKit Go.PlainAid
set_option linter.unusedVariables false

theorem put_disk {W : World} {b p : Nat} {R : Dsk} {Q1 Q2 Q3 : Option Addr} {m1 c1 m2 c2 m3 c3 : Nat} (h1 : Owns W b 76 3 (.slice Q1 m1 c1) (nodR R.nods)) (h2 : Owns W b 79 2 (.slice Q2 m2 c2) (lnkR R.dir)) (h3 : Owns W b 81 4 (.slice Q3 m3 c3) (movR R.movs)) (hz : Blk W p #[.int .i64 0, .int .i64 0, .slice none 0 0, .slice none 0 0, .slice none 0 0] 35) :
    DiskO (((((W.setCell ⟨p, 0, none⟩ (.int .i64 R.room)).setCell ⟨p, 1, none⟩ (.int .i64 R.next)).setCell ⟨p, 2, none⟩ (.slice Q1 m1 c1)).setCell ⟨p, 3, none⟩ (.slice Q2 m2 c2)).setCell ⟨p, 4, none⟩ (.slice Q3 m3 c3)) b (.agg #[.int .i64 R.room, .int .i64 R.next, .slice Q1 m1 c1, .slice Q2 m2 c2, .slice Q3 m3 c3]) R ∧ Blk (((((W.setCell ⟨p, 0, none⟩ (.int .i64 R.room)).setCell ⟨p, 1, none⟩ (.int .i64 R.next)).setCell ⟨p, 2, none⟩ (.slice Q1 m1 c1)).setCell ⟨p, 3, none⟩ (.slice Q2 m2 c2)).setCell ⟨p, 4, none⟩ (.slice Q3 m3 c3)) p #[.int .i64 R.room, .int .i64 R.next, .slice Q1 m1 c1, .slice Q2 m2 c2, .slice Q3 m3 c3] 35 := by
  have n1 := h1.notBlk hz (by decide)
  have n2 := h2.notBlk hz (by decide)
  have n3 := h3.notBlk hz (by decide)
  exact ⟨⟨_, _, _, rfl, ((((h1.other n1 0 _).other n1 1 _).other n1 2 _).other n1 3 _).other n1 4 _, ((((h2.other n2 0 _).other n2 1 _).other n2 2 _).other n2 3 _).other n2 4 _, ((((h3.other n3 0 _).other n3 1 _).other n3 2 _).other n3 3 _).other n3 4 _⟩, ((((hz.set 0 _).set 1 _).set 2 _).set 3 _).set 4 _⟩

set_option maxHeartbeats 2000000 in
theorem markDiskN (k base C : Nat) (a b : Int) (v1 v2 v3 : Value) (R1 R2 R3 : List (List Value)) (w : World) (h : Rows3 w base C v1 v2 v3 R1 R2 R3) (l1 : R1.length ≤ 1048576) (l2 : R2.length ≤ 1048576) (l3 : R3.length ≤ 1048576) (h1 : 1 ≤ k) (h2 : k ≤ 1000) (hbase : base ≤ w.heap.size) :
    Calls Tryz.prog 11 #[.agg #[.int .i64 a, .int .i64 b, v1, v2, v3], .int .i64 (k : Int)] w fun e w' => e = .returned (.int .i64 ((k + 3 * R1.length + 2 * R2.length + 4 * R3.length : Nat) : Int)) ∧
      Rows3 w' base C v1 v2 v3 (newR (mkNod k) R1.length) (newR (mkLnk (k + 3 * R1.length)) R2.length) (newR (mkMov (k + 3 * R1.length + 2 * R2.length)) R3.length) ∧ Below base w w' ∧ (∀ g, (v1.ownBlock ≠ some g ∧ v2.ownBlock ≠ some g ∧ v3.ownBlock ≠ some g) → g < w.heap.size → w'.heap[g]? = w.heap[g]?) := by
  have H : Hid (Rows3 w base C v1 v2 v3 R1 R2 R3) := h
  have HB : Hid (base ≤ w.heap.size) := hbase
  clear h hbase
  go_enter Tryz.func11, Tryz.ntmps11
  go_wp2_with fail
  have hb0 : Below w.heap.size w (w.alloc (.cells #[.int .i64 a, .int .i64 b, v1, v2, v3] 35)) := (Below.refl _ _).alloc (Nat.le_refl _) _
  have kA := Blk.new w #[.int .i64 a, .int .i64 b, v1, v2, v3] 35
  generalize w.alloc (.cells #[.int .i64 a, .int .i64 b, v1, v2, v3] 35) = W at *
  have B0 : Hid (Below w.heap.size w W) := hb0
  have K0 : Hid (Blk W w.heap.size #[.int .i64 a, .int .i64 b, v1, v2, v3] 35) := kA
  have H0 : Hid (Rows3 W base C v1 v2 v3 R1 R2 R3) := H.out.on hb0
  clear hb0 kA
  have N1 : ∀ v : Value, (∀ g, v.ownBlock = some g → g < w.heap.size) → v.ownBlock ≠ some w.heap.size := fun v hv e => by have := hv _ e; omega
  have Z1 : Hid (v1.ownBlock ≠ some w.heap.size) := N1 _ fun g e => (H.out.o1.lt g e).2
  have Z2 : Hid (v2.ownBlock ≠ some w.heap.size) := N1 _ fun g e => (H.out.o2.lt g e).2
  have Z3 : Hid (v3.ownBlock ≠ some w.heap.size) := N1 _ fun g e => (H.out.o3.lt g e).2
  clear N1
  refine (markInodeS k base v1 R1 W H0.out.o1 l1 h1 (by omega) (Nat.le_trans HB.out B0.out.size)).mono ?_
  rintro e w2 ⟨rfl, hO, hb, hk⟩
  have O1 : Hid (Owns w2 base 76 3 v1 (newR (mkNod k) R1.length)) := hO
  have O2 : Hid (Owns w2 base 79 2 v2 R2) := H0.out.o2.kept fun g hg e => hk g hg fun e1 => H0.out.o1.apart H0.out.o2 (by decide) g e1 e
  have O3 : Hid (Owns w2 base 81 4 v3 R3) := H0.out.o3.kept fun g hg e => hk g hg fun e1 => H0.out.o1.apart H0.out.o3 (by decide) g e1 e
  have K2 : Hid (Blk w2 w.heap.size #[.int .i64 a, .int .i64 b, v1, v2, v3] 35) := by unfold Hid Blk; rw [hk _ K0.out.lt Z1.out]; exact K0.out
  have B2 : Hid (Below base w w2) := (B0.out.mono HB.out).trans hb
  have C2 : Hid (∀ g, (v1.ownBlock ≠ some g ∧ v2.ownBlock ≠ some g ∧ v3.ownBlock ≠ some g) → g < w.heap.size → w2.heap[g]? = w.heap[g]?) := fun g hc hg => (hk g (Nat.lt_of_lt_of_le hg B0.out.size) hc.1).trans (B0.out.block g hg)
  have e2 := K2.out.cell 3 v2 rfl
  clear hO hb hk
  have q1 : ((k + 3 * R1.length : Nat) : Int) ≤ 10000000 := by omega
  have M1 : Hid (1 ≤ k + 3 * R1.length) := by unfold Hid; omega
  have M2 : Hid (k + 3 * R1.length ≤ 10000000) := by unfold Hid; omega
  have M3 : Hid (k + 3 * R1.length + 2 * R2.length ≤ 10000000) := by unfold Hid; omega
  generalize hk2 : k + 3 * R1.length = k2 at *
  go_wp2_with fail
  refine (markLinkS k2 base v2 R2 w2 O2.out l2 M1.out M2.out (Nat.le_trans HB.out B2.out.size)).mono ?_
  rintro e w3 ⟨rfl, hO, hb, hk⟩
  have P2 : Hid (Owns w3 base 79 2 v2 (newR (mkLnk k2) R2.length)) := hO
  have P1 : Hid (Owns w3 base 76 3 v1 (newR (mkNod k) R1.length)) := O1.out.kept fun g hg e => hk g hg fun e1 => O2.out.apart O1.out (by decide) g e1 e
  have P3 : Hid (Owns w3 base 81 4 v3 R3) := O3.out.kept fun g hg e => hk g hg fun e1 => O2.out.apart O3.out (by decide) g e1 e
  have K3 : Hid (Blk w3 w.heap.size #[.int .i64 a, .int .i64 b, v1, v2, v3] 35) := by unfold Hid Blk; rw [hk _ K2.out.lt Z2.out]; exact K2.out
  have B3 : Hid (Below base w w3) := B2.out.trans hb
  have C3 : Hid (∀ g, (v1.ownBlock ≠ some g ∧ v2.ownBlock ≠ some g ∧ v3.ownBlock ≠ some g) → g < w.heap.size → w3.heap[g]? = w.heap[g]?) := fun g hc hg => (hk g (Nat.lt_of_lt_of_le hg B2.out.size) hc.2.1).trans (C2.out g hc hg)
  have e3 := K3.out.cell 4 v3 rfl
  clear hO hb hk e2
  have q2 : ((k2 + 2 * R2.length : Nat) : Int) ≤ 10000000 := by have := M3.out; omega
  have M4 : Hid (1 ≤ k2 + 2 * R2.length) := by unfold Hid; have := M1.out; omega
  generalize hk3 : k2 + 2 * R2.length = k3 at *
  go_wp2_with fail
  refine (markMoveS k3 base v3 R3 w3 P3.out l3 M4.out M3.out (Nat.le_trans HB.out B3.out.size)).mono ?_
  rintro e w4 ⟨rfl, hO, hb, hk⟩
  have S3 : Hid (Owns w4 base 81 4 v3 (newR (mkMov k3) R3.length)) := hO
  have S1 : Hid (Owns w4 base 76 3 v1 (newR (mkNod k) R1.length)) := P1.out.kept fun g hg e => hk g hg fun e1 => P3.out.apart P1.out (by decide) g e1 e
  have S2 : Hid (Owns w4 base 79 2 v2 (newR (mkLnk k2) R2.length)) := P2.out.kept fun g hg e => hk g hg fun e1 => P3.out.apart P2.out (by decide) g e1 e
  have B4 : Hid (Below base w w4) := B3.out.trans hb
  have C4 : Hid (∀ g, (v1.ownBlock ≠ some g ∧ v2.ownBlock ≠ some g ∧ v3.ownBlock ≠ some g) → g < w.heap.size → w4.heap[g]? = w.heap[g]?) := fun g hc hg => (hk g (Nat.lt_of_lt_of_le hg B3.out.size) hc.2.2).trans (C3.out g hc hg)
  clear hO hb hk e3
  generalize hk4 : k3 + 4 * R3.length = k4 at *
  go_wp2_with fail
  go_ret
  rw [hk2, hk3, hk4]
  exact ⟨rfl, ⟨S1.out, S2.out, S3.out, H.out.c1, H.out.c2, H.out.c3⟩, B4.out, C4.out⟩

set_option maxRecDepth 20000 in
set_option maxHeartbeats 16000000 in
theorem law_fnExactDoStep (d : Dsk) (v : Value) (k : Int) (n t x : ByteArray) (w : World) (hv : DiskV w w.heap.size v d) (hf : Fits d) (hi : IntsOk d) (hn : n.size ≤ maxLen) (ht : t.size ≤ maxLen) (hx : x.size ≤ maxLen) :
    Calls Tryz.prog 3 #[v, .agg #[.int .i64 k, .string n, .string t, .string x]] w fun e w' => e = .returned (.bool true) ∧ Below w.heap.size w w' := by
  have HV : Hid (DiskV w w.heap.size v d) := hv
  have HF : Hid (Fits d) := hf
  have HI : Hid (IntsOk d) := hi
  have HN : Hid (n.size ≤ maxLen) := hn
  have HT : Hid (t.size ≤ maxLen) := ht
  have HX : Hid (x.size ≤ maxLen) := hx
  obtain ⟨v1, v2, v3, rfl, h1, h2, h3⟩ := hv
  have cS := fun wx hx hb => szDisk d (.agg #[.int .i64 d.room, .int .i64 d.next, v1, v2, v3]) wx w.heap.size 1048576 (by omega) (by omega) hx hf hb
  have cZ := fun left h0 h1 wx => szStep k n t x left wx h0 h1 hn ht hx
  have cTS := fun wx => toStep k n t x wx
  clear h1 h2 h3 hf hi hn ht hx
  go_enter Tryz.func3, Tryz.ntmps3
  go_wp2_with fail
  have k0 := (Blk.new w #[.int .i64 d.room, .int .i64 d.next, v1, v2, v3] 26).alloc (.cells #[.int .i64 k, .string n, .string t, .string x] 28)
  have j0 := Blk.new (w.alloc (.cells #[.int .i64 d.room, .int .i64 d.next, v1, v2, v3] 26)) #[.int .i64 k, .string n, .string t, .string x] 28
  simp only [World.size_alloc] at j0
  have hb0 : Below w.heap.size w ((w.alloc (.cells #[.int .i64 d.room, .int .i64 d.next, v1, v2, v3] 26)).alloc (.cells #[.int .i64 k, .string n, .string t, .string x] 28)) := ((Below.refl _ _).alloc (Nat.le_refl _) _).alloc (by simp only [World.size_alloc]; omega) _
  generalize ((w.alloc (.cells #[.int .i64 d.room, .int .i64 d.next, v1, v2, v3] 26)).alloc (.cells #[.int .i64 k, .string n, .string t, .string x] 28)) = W at *
  have B0 : Hid (Below w.heap.size w W) := hb0
  have K0 : Hid (Blk W w.heap.size #[.int .i64 d.room, .int .i64 d.next, v1, v2, v3] 26) := k0
  have J0 : Hid (Blk W (w.heap.size + 1) #[.int .i64 k, .string n, .string t, .string x] 28) := j0
  clear hb0 k0 j0
  refine (cS W (HV.out.on B0.out) B0.out.size).mono ?_
  rintro e w0 ⟨r, rfl, hr, hb1⟩
  have Bz : Hid (Below w.heap.size w w0) := B0.out.trans (hb1.mono B0.out.size)
  have Kz : Hid (Blk w0 w.heap.size #[.int .i64 d.room, .int .i64 d.next, v1, v2, v3] 26) := K0.out.on hb1 K0.out.lt
  have Jz : Hid (Blk w0 (w.heap.size + 1) #[.int .i64 k, .string n, .string t, .string x] 28) := J0.out.on hb1 J0.out.lt
  clear hb1 cS K0 J0 B0
  rcases hr with rfl | ⟨hr0, hr1⟩
  · go_wp2_with fail
    go_ret
    exact ⟨rfl, Bz.out⟩
  · have HW : Hid (wtD d ≤ 1048576) := by unfold Hid; omega
    have hr2 : decide (r < 0) = false := decide_eq_false (by omega)
    have cZ1 := cZ r hr0 (by omega) w0
    have z0 := Jz.out.cell 0 _ rfl
    have z1 := Jz.out.cell 1 _ rfl
    have z2 := Jz.out.cell 2 _ rfl
    have z3 := Jz.out.cell 3 _ rfl
    clear hr0 hr1 cZ
    go_wp2_with fail
    refine cZ1.mono ?_
    rintro e w1 ⟨⟨r2, rfl, hr4⟩, hb1⟩
    have B1 : Hid (Below w.heap.size w w1) := Bz.out.trans (hb1.mono Bz.out.size)
    have K1 : Hid (Blk w1 w.heap.size #[.int .i64 d.room, .int .i64 d.next, v1, v2, v3] 26) := Kz.out.on hb1 Kz.out.lt
    have J1 : Hid (Blk w1 (w.heap.size + 1) #[.int .i64 k, .string n, .string t, .string x] 28) := Jz.out.on hb1 Jz.out.lt
    clear hb1 cZ1 Kz Jz Bz z0 z1 z2 z3 hr2
    rcases hr4.out with rfl | hr5
    · go_wp2_with fail
      go_ret
      exact ⟨rfl, B1.out⟩
    have hr6 : decide (r2 < 0) = false := decide_eq_false (by omega)
    have cT := fun wx hx hb => toDisk d (.agg #[.int .i64 d.room, .int .i64 d.next, v1, v2, v3]) wx w.heap.size hx HW.out hb
    have cSp := fun wx u hx => specDoStepV d u k n t x wx wx.heap.size hx HF.out HW.out (Nat.le_refl _) HN.out HT.out HX.out
    have cG := fun wx u hx => implDoStepV d u k n t x wx wx.heap.size hx HF.out HI.out HW.out (Nat.le_refl _) HN.out HT.out HX.out
    have LR : Hid ((doStepR d k n t x).1.nods.length ≤ 1000 ∧ (doStepR d k n t x).1.dir.length ≤ 1000 ∧ (doStepR d k n t x).1.movs.length ≤ 1000) := doStepR_len d k n t x HF.out
    clear hr5 hr4
    generalize doStepR d k n t x = RR at *
    have n1 : (RR.2 != RR.2) = false := by simp
    go_wp2_with fail
    go_cut [6, 7] from 16 to 108 (fun sa sb wx => ∃ p Q1 qm1 qc1 Q2 qm2 qc2 Q3 qm3 qc3, sa = .pointer (some ⟨p, 0, none⟩) ∧ sb = .int .i64 RR.2 ∧ Below w1.heap.size w1 wx ∧ DiskO wx w1.heap.size (.agg #[.int .i64 RR.1.room, .int .i64 RR.1.next, .slice Q1 qm1 qc1, .slice Q2 qm2 qc2, .slice Q3 qm3 qc3]) RR.1 ∧ Blk wx p #[.int .i64 RR.1.room, .int .i64 RR.1.next, .slice Q1 qm1 qc1, .slice Q2 qm2 qc2, .slice Q3 qm3 qc3] 35 ∧ w1.heap.size ≤ p)
    case first =>
      refine wp_region_until (fun w' => w'.cell? ⟨w.heap.size, 0, none⟩ = some (.int .i64 d.room) ∧ w'.cell? ⟨w.heap.size, 1, none⟩ = some (.int .i64 d.next) ∧ w'.cell? ⟨w.heap.size, 2, none⟩ = some (v1) ∧ w'.cell? ⟨w.heap.size, 3, none⟩ = some (v2) ∧ w'.cell? ⟨w.heap.size, 4, none⟩ = some (v3) ∧ w'.cell? ⟨w.heap.size + 1, 0, none⟩ = some (.int .i64 k) ∧ w'.cell? ⟨w.heap.size + 1, 1, none⟩ = some (.string n) ∧ w'.cell? ⟨w.heap.size + 1, 2, none⟩ = some (.string t) ∧ w'.cell? ⟨w.heap.size + 1, 3, none⟩ = some (.string x)) (fun i => i == 9) 11 (by rfl) (by kernel_rfl) ?_
      have VraX : Hid (Below w1.heap.size w1 w1.drew) := (Below.refl _ _).drew
      generalize w1.drew = raX at *
      have S0 : Hid (raX.cell? ⟨w.heap.size, 0, none⟩ = some (.int .i64 d.room) ∧ raX.cell? ⟨w.heap.size, 1, none⟩ = some (.int .i64 d.next) ∧ raX.cell? ⟨w.heap.size, 2, none⟩ = some (v1) ∧ raX.cell? ⟨w.heap.size, 3, none⟩ = some (v2) ∧ raX.cell? ⟨w.heap.size, 4, none⟩ = some (v3) ∧ raX.cell? ⟨w.heap.size + 1, 0, none⟩ = some (.int .i64 k) ∧ raX.cell? ⟨w.heap.size + 1, 1, none⟩ = some (.string n) ∧ raX.cell? ⟨w.heap.size + 1, 2, none⟩ = some (.string t) ∧ raX.cell? ⟨w.heap.size + 1, 3, none⟩ = some (.string x)) := ⟨(K1.out.on VraX.out K1.out.lt).cell 0 _ rfl, (K1.out.on VraX.out K1.out.lt).cell 1 _ rfl, (K1.out.on VraX.out K1.out.lt).cell 2 _ rfl, (K1.out.on VraX.out K1.out.lt).cell 3 _ rfl, (K1.out.on VraX.out K1.out.lt).cell 4 _ rfl, (J1.out.on VraX.out J1.out.lt).cell 0 _ rfl, (J1.out.on VraX.out J1.out.lt).cell 1 _ rfl, (J1.out.on VraX.out J1.out.lt).cell 2 _ rfl, (J1.out.on VraX.out J1.out.lt).cell 3 _ rfl⟩
      refine until_take 0 (v := ?_) (by rfl) (by kernel_rfl) (by exact fun _ _ _ h => h) (by rfl) ?_ S0.out ?_
      rotate_left
      · intro w hSw
        try dsimp only at hSw
        go_simp
        try with_reducible rfl
      try simp only [Act.put, List.setIfInBounds_toArray, List.set_cons_zero, List.set_cons_succ]
      refine until_take 2 (v := ?_) (by rfl) (by kernel_rfl) (by exact fun _ _ _ h => h) (by rfl) ?_ S0.out ?_
      rotate_left
      · intro w hSw
        try dsimp only at hSw
        go_simp
        try with_reducible rfl
      try simp only [Act.put, List.setIfInBounds_toArray, List.set_cons_zero, List.set_cons_succ]
      refine until_two 1 8 (by rfl) (by rfl) (by kernel_rfl) (fun K hK => ?_) (fun K hK => ?_)
      · go_simp
        refine (cT raX (HV.out.on (B1.out.trans (VraX.out.mono B1.out.size))) (B1.out.trans (VraX.out.mono B1.out.size)).size).mono ?_
        rintro e ra1 ⟨ura, rfl, hO, hb⟩
        have Vra1 : Hid (Below w1.heap.size w1 ra1) := VraX.out.trans (hb.mono VraX.out.size)
        have Ura1 : Hid (DiskO ra1 raX.heap.size ura d) := hO
        clear hb hO
        go_wp2_with fail
        refine hK.out _ _ (fun _ _ => ⟨(K1.out.on Vra1.out K1.out.lt).cell 0 _ rfl, (K1.out.on Vra1.out K1.out.lt).cell 1 _ rfl, (K1.out.on Vra1.out K1.out.lt).cell 2 _ rfl, (K1.out.on Vra1.out K1.out.lt).cell 3 _ rfl, (K1.out.on Vra1.out K1.out.lt).cell 4 _ rfl, (J1.out.on Vra1.out J1.out.lt).cell 0 _ rfl, (J1.out.on Vra1.out J1.out.lt).cell 1 _ rfl, (J1.out.on Vra1.out J1.out.lt).cell 2 _ rfl, (J1.out.on Vra1.out J1.out.lt).cell 3 _ rfl⟩) ?_
        clear hK K
        try simp only [Act.put, List.setIfInBounds_toArray, List.set_cons_zero, List.set_cons_succ]
        refine until_two 3 8 (by rfl) (by rfl) (by kernel_rfl) (fun K hK => ?_) (fun K hK => ?_)
        · go_simp
          refine (cTS ra1).mono ?_
          rintro e ra2 ⟨rfl, hb⟩
          have Vra2 : Hid (Below w1.heap.size w1 ra2) := Vra1.out.trans (hb.mono Vra1.out.size)
          have Ura2 : Hid (DiskO ra2 raX.heap.size ura d) := Ura1.out.on hb
          clear hb
          go_wp2_with fail
          refine hK.out _ _ (fun _ _ => ⟨(K1.out.on Vra2.out K1.out.lt).cell 0 _ rfl, (K1.out.on Vra2.out K1.out.lt).cell 1 _ rfl, (K1.out.on Vra2.out K1.out.lt).cell 2 _ rfl, (K1.out.on Vra2.out K1.out.lt).cell 3 _ rfl, (K1.out.on Vra2.out K1.out.lt).cell 4 _ rfl, (J1.out.on Vra2.out J1.out.lt).cell 0 _ rfl, (J1.out.on Vra2.out J1.out.lt).cell 1 _ rfl, (J1.out.on Vra2.out J1.out.lt).cell 2 _ rfl, (J1.out.on Vra2.out J1.out.lt).cell 3 _ rfl⟩) ?_
          clear hK K
          try simp only [Act.put, List.setIfInBounds_toArray, List.set_cons_zero, List.set_cons_succ]
          refine until_two 4 8 (by rfl) (by rfl) (by kernel_rfl) (fun K hK => ?_) (fun K hK => ?_)
          · go_simp
            refine (cSp ra2 ura Ura2.out.look).mono ?_
            rintro e ra3 ⟨y, rfl, hO, hb⟩
            have Vra3 : Hid (Below w1.heap.size w1 ra3) := Vra2.out.trans (hb.mono Vra2.out.size)
            obtain ⟨s1, s2, s3, rfl, a1, a2, a3⟩ := hO.mono Vra2.out.size
            obtain ⟨Q1, qm1, qc1, rfl⟩ := a1.shape
            obtain ⟨Q2, qm2, qc2, rfl⟩ := a2.shape
            obtain ⟨Q3, qm3, qc3, rfl⟩ := a3.shape
            have O1ra3 : Hid (Owns ra3 w1.heap.size 76 3 (.slice Q1 qm1 qc1) (nodR RR.1.nods)) := a1
            have O2ra3 : Hid (Owns ra3 w1.heap.size 79 2 (.slice Q2 qm2 qc2) (lnkR RR.1.dir)) := a2
            have O3ra3 : Hid (Owns ra3 w1.heap.size 81 4 (.slice Q3 qm3 qc3) (movR RR.1.movs)) := a3
            clear hb hO a1 a2 a3
            go_wp2_with fail
            refine hK.out _ _ (fun _ _ => ⟨(K1.out.on Vra3.out K1.out.lt).cell 0 _ rfl, (K1.out.on Vra3.out K1.out.lt).cell 1 _ rfl, (K1.out.on Vra3.out K1.out.lt).cell 2 _ rfl, (K1.out.on Vra3.out K1.out.lt).cell 3 _ rfl, (K1.out.on Vra3.out K1.out.lt).cell 4 _ rfl, (J1.out.on Vra3.out J1.out.lt).cell 0 _ rfl, (J1.out.on Vra3.out J1.out.lt).cell 1 _ rfl, (J1.out.on Vra3.out J1.out.lt).cell 2 _ rfl, (J1.out.on Vra3.out J1.out.lt).cell 3 _ rfl⟩) ?_
            clear hK K
            try simp only [Act.put, List.setIfInBounds_toArray, List.set_cons_zero, List.set_cons_succ]
            refine until_pure 5 (v := ?_) (by rfl) (by kernel_rfl) (by exact fun _ _ _ h => h) (by rfl) ?_ ?_
            rotate_left
            · intro w
              go_simp
              try with_reducible rfl
            try simp only [Act.put, List.setIfInBounds_toArray, List.set_cons_zero, List.set_cons_succ]
            refine until_pure 6 (v := ?_) (by rfl) (by kernel_rfl) (by exact fun _ _ _ h => h) (by rfl) ?_ ?_
            rotate_left
            · intro w
              go_simp
              try with_reducible rfl
            try simp only [Act.put, List.setIfInBounds_toArray, List.set_cons_zero, List.set_cons_succ]
            refine until_pure 7 (v := ?_) (by rfl) (by kernel_rfl) (by exact fun _ _ _ h => h) (by rfl) ?_ ?_
            rotate_left
            · intro w
              go_simp
              try with_reducible rfl
            try simp only [Act.put, List.setIfInBounds_toArray, List.set_cons_zero, List.set_cons_succ]
            refine until_one 8 (by rfl) (by kernel_rfl) (fun K hK => ?_)
            go_simp
            have zk := Blk.new ra3 #[.int .i64 0, .int .i64 0, .slice none 0 0, .slice none 0 0, .slice none 0 0] 35
            have bz : Below ra3.heap.size ra3 (ra3.alloc (.cells #[.int .i64 0, .int .i64 0, .slice none 0 0, .slice none 0 0, .slice none 0 0] 35)) := (Below.refl _ _).alloc (Nat.le_refl _) _
            have pl : Hid (w1.heap.size ≤ ra3.heap.size) := Vra3.out.size
            generalize ra3.alloc (.cells #[.int .i64 0, .int .i64 0, .slice none 0 0, .slice none 0 0, .slice none 0 0] 35) = ra4 at *
            have Vra4 : Hid (Below w1.heap.size w1 ra4) := Vra3.out.trans (bz.mono Vra3.out.size)
            have O1ra4 : Hid (Owns ra4 w1.heap.size 76 3 (.slice Q1 qm1 qc1) (nodR RR.1.nods)) := O1ra3.out.on bz
            have O2ra4 : Hid (Owns ra4 w1.heap.size 79 2 (.slice Q2 qm2 qc2) (lnkR RR.1.dir)) := O2ra3.out.on bz
            have O3ra4 : Hid (Owns ra4 w1.heap.size 81 4 (.slice Q3 qm3 qc3) (movR RR.1.movs)) := O3ra3.out.on bz
            have Zra4 : Hid (Blk ra4 ra3.heap.size #[.int .i64 0, .int .i64 0, .slice none 0 0, .slice none 0 0, .slice none 0 0] 35) := zk
            clear zk bz
            refine hK.out _ _ (fun _ _ => ⟨(K1.out.on Vra4.out K1.out.lt).cell 0 _ rfl, (K1.out.on Vra4.out K1.out.lt).cell 1 _ rfl, (K1.out.on Vra4.out K1.out.lt).cell 2 _ rfl, (K1.out.on Vra4.out K1.out.lt).cell 3 _ rfl, (K1.out.on Vra4.out K1.out.lt).cell 4 _ rfl, (J1.out.on Vra4.out J1.out.lt).cell 0 _ rfl, (J1.out.on Vra4.out J1.out.lt).cell 1 _ rfl, (J1.out.on Vra4.out J1.out.lt).cell 2 _ rfl, (J1.out.on Vra4.out J1.out.lt).cell 3 _ rfl⟩) ?_
            clear hK K
            try simp only [Act.put, List.setIfInBounds_toArray, List.set_cons_zero, List.set_cons_succ]
            have hp := put_disk O1ra4.out O2ra4.out O3ra4.out Zra4.out
            have hv := (((((Vra4.out.setCell pl.out (.int .i64 RR.1.room) (p := ⟨_, 0, none⟩)).setCell pl.out (.int .i64 RR.1.next) (p := ⟨_, 1, none⟩)).setCell pl.out (.slice Q1 qm1 qc1) (p := ⟨_, 2, none⟩)).setCell pl.out (.slice Q2 qm2 qc2) (p := ⟨_, 3, none⟩)).setCell pl.out (.slice Q3 qm3 qc3) (p := ⟨_, 4, none⟩))
            have r0 := Zra4.out.cell 0 _ rfl
            have f0 := Zra4.out.free 0
            have r1 := Zra4.out.cell 1 _ rfl
            have f1 := Zra4.out.free 1
            have r2 := Zra4.out.cell 2 _ rfl
            have f2 := Zra4.out.free 2
            have r3 := Zra4.out.cell 3 _ rfl
            have f3 := Zra4.out.free 3
            have r4 := Zra4.out.cell 4 _ rfl
            have f4 := Zra4.out.free 4
            refine until_one 9 (by rfl) (by kernel_rfl) (fun K hK => ?_)
            go_simp
            try go_wp2_with fail
            clear r0 f0 r1 f1 r2 f2 r3 f3 r4 f4
            generalize (((((ra4.setCell ⟨ra3.heap.size, 0, none⟩ (.int .i64 RR.1.room)).setCell ⟨ra3.heap.size, 1, none⟩ (.int .i64 RR.1.next)).setCell ⟨ra3.heap.size, 2, none⟩ (.slice Q1 qm1 qc1)).setCell ⟨ra3.heap.size, 3, none⟩ (.slice Q2 qm2 qc2)).setCell ⟨ra3.heap.size, 4, none⟩ (.slice Q3 qm3 qc3)) = WF at *
            refine hK.out _ _ (fun h => by cases h) ?_
            clear hK K
            try simp only [Act.put, List.setIfInBounds_toArray, List.set_cons_zero, List.set_cons_succ]
            refine until_pure 10 (v := ?_) (by rfl) (by kernel_rfl) (by exact fun _ _ _ h => h) (by rfl) ?_ ?_
            rotate_left
            · intro w
              go_simp
              try with_reducible rfl
            try simp only [Act.put, List.setIfInBounds_toArray, List.set_cons_zero, List.set_cons_succ]
            refine until_done (by kernel_rfl) ?_ _
            try go_wp2_with fail
            go_meet
            case rel =>
              exact ⟨ra3.heap.size, _, _, _, _, _, _, _, _, _, rfl, rfl, hv, hp.1, hp.2, pl.out⟩
          · go_simp
            have zk := Blk.new ra2 #[.int .i64 0, .int .i64 0, .slice none 0 0, .slice none 0 0, .slice none 0 0] 35
            have bz : Below ra2.heap.size ra2 (ra2.alloc (.cells #[.int .i64 0, .int .i64 0, .slice none 0 0, .slice none 0 0, .slice none 0 0] 35)) := (Below.refl _ _).alloc (Nat.le_refl _) _
            have pl : Hid (w1.heap.size ≤ ra2.heap.size) := Vra2.out.size
            generalize ra2.alloc (.cells #[.int .i64 0, .int .i64 0, .slice none 0 0, .slice none 0 0, .slice none 0 0] 35) = ra5 at *
            have Vra5 : Hid (Below w1.heap.size w1 ra5) := Vra2.out.trans (bz.mono Vra2.out.size)
            have Ura5 : Hid (DiskO ra5 raX.heap.size ura d) := Ura2.out.on bz
            have Zra5 : Hid (Blk ra5 ra2.heap.size #[.int .i64 0, .int .i64 0, .slice none 0 0, .slice none 0 0, .slice none 0 0] 35) := zk
            clear zk bz
            refine hK.out _ _ (fun _ _ => ⟨(K1.out.on Vra5.out K1.out.lt).cell 0 _ rfl, (K1.out.on Vra5.out K1.out.lt).cell 1 _ rfl, (K1.out.on Vra5.out K1.out.lt).cell 2 _ rfl, (K1.out.on Vra5.out K1.out.lt).cell 3 _ rfl, (K1.out.on Vra5.out K1.out.lt).cell 4 _ rfl, (J1.out.on Vra5.out J1.out.lt).cell 0 _ rfl, (J1.out.on Vra5.out J1.out.lt).cell 1 _ rfl, (J1.out.on Vra5.out J1.out.lt).cell 2 _ rfl, (J1.out.on Vra5.out J1.out.lt).cell 3 _ rfl⟩) ?_
            clear hK K
            try simp only [Act.put, List.setIfInBounds_toArray, List.set_cons_zero, List.set_cons_succ]
            refine until_one 4 (by rfl) (by kernel_rfl) (fun K hK => ?_)
            go_simp
            refine (cSp ra5 ura Ura5.out.look).mono ?_
            rintro e ra6 ⟨y, rfl, hO, hb⟩
            have Vra6 : Hid (Below w1.heap.size w1 ra6) := Vra5.out.trans (hb.mono Vra5.out.size)
            have Zra6 : Hid (Blk ra6 ra2.heap.size #[.int .i64 0, .int .i64 0, .slice none 0 0, .slice none 0 0, .slice none 0 0] 35) := Zra5.out.on hb Zra5.out.lt
            obtain ⟨s1, s2, s3, rfl, a1, a2, a3⟩ := hO.mono Vra5.out.size
            obtain ⟨Q1, qm1, qc1, rfl⟩ := a1.shape
            obtain ⟨Q2, qm2, qc2, rfl⟩ := a2.shape
            obtain ⟨Q3, qm3, qc3, rfl⟩ := a3.shape
            have O1ra6 : Hid (Owns ra6 w1.heap.size 76 3 (.slice Q1 qm1 qc1) (nodR RR.1.nods)) := a1
            have O2ra6 : Hid (Owns ra6 w1.heap.size 79 2 (.slice Q2 qm2 qc2) (lnkR RR.1.dir)) := a2
            have O3ra6 : Hid (Owns ra6 w1.heap.size 81 4 (.slice Q3 qm3 qc3) (movR RR.1.movs)) := a3
            clear hb hO a1 a2 a3
            go_wp2_with fail
            refine hK.out _ _ (fun _ _ => ⟨(K1.out.on Vra6.out K1.out.lt).cell 0 _ rfl, (K1.out.on Vra6.out K1.out.lt).cell 1 _ rfl, (K1.out.on Vra6.out K1.out.lt).cell 2 _ rfl, (K1.out.on Vra6.out K1.out.lt).cell 3 _ rfl, (K1.out.on Vra6.out K1.out.lt).cell 4 _ rfl, (J1.out.on Vra6.out J1.out.lt).cell 0 _ rfl, (J1.out.on Vra6.out J1.out.lt).cell 1 _ rfl, (J1.out.on Vra6.out J1.out.lt).cell 2 _ rfl, (J1.out.on Vra6.out J1.out.lt).cell 3 _ rfl⟩) ?_
            clear hK K
            try simp only [Act.put, List.setIfInBounds_toArray, List.set_cons_zero, List.set_cons_succ]
            refine until_pure 5 (v := ?_) (by rfl) (by kernel_rfl) (by exact fun _ _ _ h => h) (by rfl) ?_ ?_
            rotate_left
            · intro w
              go_simp
              try with_reducible rfl
            try simp only [Act.put, List.setIfInBounds_toArray, List.set_cons_zero, List.set_cons_succ]
            refine until_pure 6 (v := ?_) (by rfl) (by kernel_rfl) (by exact fun _ _ _ h => h) (by rfl) ?_ ?_
            rotate_left
            · intro w
              go_simp
              try with_reducible rfl
            try simp only [Act.put, List.setIfInBounds_toArray, List.set_cons_zero, List.set_cons_succ]
            refine until_pure 7 (v := ?_) (by rfl) (by kernel_rfl) (by exact fun _ _ _ h => h) (by rfl) ?_ ?_
            rotate_left
            · intro w
              go_simp
              try with_reducible rfl
            try simp only [Act.put, List.setIfInBounds_toArray, List.set_cons_zero, List.set_cons_succ]
            have hp := put_disk O1ra6.out O2ra6.out O3ra6.out Zra6.out
            have hv := (((((Vra6.out.setCell pl.out (.int .i64 RR.1.room) (p := ⟨_, 0, none⟩)).setCell pl.out (.int .i64 RR.1.next) (p := ⟨_, 1, none⟩)).setCell pl.out (.slice Q1 qm1 qc1) (p := ⟨_, 2, none⟩)).setCell pl.out (.slice Q2 qm2 qc2) (p := ⟨_, 3, none⟩)).setCell pl.out (.slice Q3 qm3 qc3) (p := ⟨_, 4, none⟩))
            have r0 := Zra6.out.cell 0 _ rfl
            have f0 := Zra6.out.free 0
            have r1 := Zra6.out.cell 1 _ rfl
            have f1 := Zra6.out.free 1
            have r2 := Zra6.out.cell 2 _ rfl
            have f2 := Zra6.out.free 2
            have r3 := Zra6.out.cell 3 _ rfl
            have f3 := Zra6.out.free 3
            have r4 := Zra6.out.cell 4 _ rfl
            have f4 := Zra6.out.free 4
            refine until_one 9 (by rfl) (by kernel_rfl) (fun K hK => ?_)
            go_simp
            try go_wp2_with fail
            clear r0 f0 r1 f1 r2 f2 r3 f3 r4 f4
            generalize (((((ra6.setCell ⟨ra2.heap.size, 0, none⟩ (.int .i64 RR.1.room)).setCell ⟨ra2.heap.size, 1, none⟩ (.int .i64 RR.1.next)).setCell ⟨ra2.heap.size, 2, none⟩ (.slice Q1 qm1 qc1)).setCell ⟨ra2.heap.size, 3, none⟩ (.slice Q2 qm2 qc2)).setCell ⟨ra2.heap.size, 4, none⟩ (.slice Q3 qm3 qc3)) = WF at *
            refine hK.out _ _ (fun h => by cases h) ?_
            clear hK K
            try simp only [Act.put, List.setIfInBounds_toArray, List.set_cons_zero, List.set_cons_succ]
            refine until_pure 10 (v := ?_) (by rfl) (by kernel_rfl) (by exact fun _ _ _ h => h) (by rfl) ?_ ?_
            rotate_left
            · intro w
              go_simp
              try with_reducible rfl
            try simp only [Act.put, List.setIfInBounds_toArray, List.set_cons_zero, List.set_cons_succ]
            refine until_done (by kernel_rfl) ?_ _
            try go_wp2_with fail
            go_meet
            case rel =>
              exact ⟨ra2.heap.size, _, _, _, _, _, _, _, _, _, rfl, rfl, hv, hp.1, hp.2, pl.out⟩
        · go_simp
          have zk := Blk.new ra1 #[.int .i64 0, .int .i64 0, .slice none 0 0, .slice none 0 0, .slice none 0 0] 35
          have bz : Below ra1.heap.size ra1 (ra1.alloc (.cells #[.int .i64 0, .int .i64 0, .slice none 0 0, .slice none 0 0, .slice none 0 0] 35)) := (Below.refl _ _).alloc (Nat.le_refl _) _
          have pl : Hid (w1.heap.size ≤ ra1.heap.size) := Vra1.out.size
          generalize ra1.alloc (.cells #[.int .i64 0, .int .i64 0, .slice none 0 0, .slice none 0 0, .slice none 0 0] 35) = ra7 at *
          have Vra7 : Hid (Below w1.heap.size w1 ra7) := Vra1.out.trans (bz.mono Vra1.out.size)
          have Ura7 : Hid (DiskO ra7 raX.heap.size ura d) := Ura1.out.on bz
          have Zra7 : Hid (Blk ra7 ra1.heap.size #[.int .i64 0, .int .i64 0, .slice none 0 0, .slice none 0 0, .slice none 0 0] 35) := zk
          clear zk bz
          refine hK.out _ _ (fun _ _ => ⟨(K1.out.on Vra7.out K1.out.lt).cell 0 _ rfl, (K1.out.on Vra7.out K1.out.lt).cell 1 _ rfl, (K1.out.on Vra7.out K1.out.lt).cell 2 _ rfl, (K1.out.on Vra7.out K1.out.lt).cell 3 _ rfl, (K1.out.on Vra7.out K1.out.lt).cell 4 _ rfl, (J1.out.on Vra7.out J1.out.lt).cell 0 _ rfl, (J1.out.on Vra7.out J1.out.lt).cell 1 _ rfl, (J1.out.on Vra7.out J1.out.lt).cell 2 _ rfl, (J1.out.on Vra7.out J1.out.lt).cell 3 _ rfl⟩) ?_
          clear hK K
          try simp only [Act.put, List.setIfInBounds_toArray, List.set_cons_zero, List.set_cons_succ]
          refine until_one 3 (by rfl) (by kernel_rfl) (fun K hK => ?_)
          go_simp
          refine (cTS ra7).mono ?_
          rintro e ra8 ⟨rfl, hb⟩
          have Vra8 : Hid (Below w1.heap.size w1 ra8) := Vra7.out.trans (hb.mono Vra7.out.size)
          have Ura8 : Hid (DiskO ra8 raX.heap.size ura d) := Ura7.out.on hb
          have Zra8 : Hid (Blk ra8 ra1.heap.size #[.int .i64 0, .int .i64 0, .slice none 0 0, .slice none 0 0, .slice none 0 0] 35) := Zra7.out.on hb Zra7.out.lt
          clear hb
          go_wp2_with fail
          refine hK.out _ _ (fun _ _ => ⟨(K1.out.on Vra8.out K1.out.lt).cell 0 _ rfl, (K1.out.on Vra8.out K1.out.lt).cell 1 _ rfl, (K1.out.on Vra8.out K1.out.lt).cell 2 _ rfl, (K1.out.on Vra8.out K1.out.lt).cell 3 _ rfl, (K1.out.on Vra8.out K1.out.lt).cell 4 _ rfl, (J1.out.on Vra8.out J1.out.lt).cell 0 _ rfl, (J1.out.on Vra8.out J1.out.lt).cell 1 _ rfl, (J1.out.on Vra8.out J1.out.lt).cell 2 _ rfl, (J1.out.on Vra8.out J1.out.lt).cell 3 _ rfl⟩) ?_
          clear hK K
          try simp only [Act.put, List.setIfInBounds_toArray, List.set_cons_zero, List.set_cons_succ]
          refine until_one 4 (by rfl) (by kernel_rfl) (fun K hK => ?_)
          go_simp
          refine (cSp ra8 ura Ura8.out.look).mono ?_
          rintro e ra9 ⟨y, rfl, hO, hb⟩
          have Vra9 : Hid (Below w1.heap.size w1 ra9) := Vra8.out.trans (hb.mono Vra8.out.size)
          have Zra9 : Hid (Blk ra9 ra1.heap.size #[.int .i64 0, .int .i64 0, .slice none 0 0, .slice none 0 0, .slice none 0 0] 35) := Zra8.out.on hb Zra8.out.lt
          obtain ⟨s1, s2, s3, rfl, a1, a2, a3⟩ := hO.mono Vra8.out.size
          obtain ⟨Q1, qm1, qc1, rfl⟩ := a1.shape
          obtain ⟨Q2, qm2, qc2, rfl⟩ := a2.shape
          obtain ⟨Q3, qm3, qc3, rfl⟩ := a3.shape
          have O1ra9 : Hid (Owns ra9 w1.heap.size 76 3 (.slice Q1 qm1 qc1) (nodR RR.1.nods)) := a1
          have O2ra9 : Hid (Owns ra9 w1.heap.size 79 2 (.slice Q2 qm2 qc2) (lnkR RR.1.dir)) := a2
          have O3ra9 : Hid (Owns ra9 w1.heap.size 81 4 (.slice Q3 qm3 qc3) (movR RR.1.movs)) := a3
          clear hb hO a1 a2 a3
          go_wp2_with fail
          refine hK.out _ _ (fun _ _ => ⟨(K1.out.on Vra9.out K1.out.lt).cell 0 _ rfl, (K1.out.on Vra9.out K1.out.lt).cell 1 _ rfl, (K1.out.on Vra9.out K1.out.lt).cell 2 _ rfl, (K1.out.on Vra9.out K1.out.lt).cell 3 _ rfl, (K1.out.on Vra9.out K1.out.lt).cell 4 _ rfl, (J1.out.on Vra9.out J1.out.lt).cell 0 _ rfl, (J1.out.on Vra9.out J1.out.lt).cell 1 _ rfl, (J1.out.on Vra9.out J1.out.lt).cell 2 _ rfl, (J1.out.on Vra9.out J1.out.lt).cell 3 _ rfl⟩) ?_
          clear hK K
          try simp only [Act.put, List.setIfInBounds_toArray, List.set_cons_zero, List.set_cons_succ]
          refine until_pure 5 (v := ?_) (by rfl) (by kernel_rfl) (by exact fun _ _ _ h => h) (by rfl) ?_ ?_
          rotate_left
          · intro w
            go_simp
            try with_reducible rfl
          try simp only [Act.put, List.setIfInBounds_toArray, List.set_cons_zero, List.set_cons_succ]
          refine until_pure 6 (v := ?_) (by rfl) (by kernel_rfl) (by exact fun _ _ _ h => h) (by rfl) ?_ ?_
          rotate_left
          · intro w
            go_simp
            try with_reducible rfl
          try simp only [Act.put, List.setIfInBounds_toArray, List.set_cons_zero, List.set_cons_succ]
          refine until_pure 7 (v := ?_) (by rfl) (by kernel_rfl) (by exact fun _ _ _ h => h) (by rfl) ?_ ?_
          rotate_left
          · intro w
            go_simp
            try with_reducible rfl
          try simp only [Act.put, List.setIfInBounds_toArray, List.set_cons_zero, List.set_cons_succ]
          have hp := put_disk O1ra9.out O2ra9.out O3ra9.out Zra9.out
          have hv := (((((Vra9.out.setCell pl.out (.int .i64 RR.1.room) (p := ⟨_, 0, none⟩)).setCell pl.out (.int .i64 RR.1.next) (p := ⟨_, 1, none⟩)).setCell pl.out (.slice Q1 qm1 qc1) (p := ⟨_, 2, none⟩)).setCell pl.out (.slice Q2 qm2 qc2) (p := ⟨_, 3, none⟩)).setCell pl.out (.slice Q3 qm3 qc3) (p := ⟨_, 4, none⟩))
          have r0 := Zra9.out.cell 0 _ rfl
          have f0 := Zra9.out.free 0
          have r1 := Zra9.out.cell 1 _ rfl
          have f1 := Zra9.out.free 1
          have r2 := Zra9.out.cell 2 _ rfl
          have f2 := Zra9.out.free 2
          have r3 := Zra9.out.cell 3 _ rfl
          have f3 := Zra9.out.free 3
          have r4 := Zra9.out.cell 4 _ rfl
          have f4 := Zra9.out.free 4
          refine until_one 9 (by rfl) (by kernel_rfl) (fun K hK => ?_)
          go_simp
          try go_wp2_with fail
          clear r0 f0 r1 f1 r2 f2 r3 f3 r4 f4
          generalize (((((ra9.setCell ⟨ra1.heap.size, 0, none⟩ (.int .i64 RR.1.room)).setCell ⟨ra1.heap.size, 1, none⟩ (.int .i64 RR.1.next)).setCell ⟨ra1.heap.size, 2, none⟩ (.slice Q1 qm1 qc1)).setCell ⟨ra1.heap.size, 3, none⟩ (.slice Q2 qm2 qc2)).setCell ⟨ra1.heap.size, 4, none⟩ (.slice Q3 qm3 qc3)) = WF at *
          refine hK.out _ _ (fun h => by cases h) ?_
          clear hK K
          try simp only [Act.put, List.setIfInBounds_toArray, List.set_cons_zero, List.set_cons_succ]
          refine until_pure 10 (v := ?_) (by rfl) (by kernel_rfl) (by exact fun _ _ _ h => h) (by rfl) ?_ ?_
          rotate_left
          · intro w
            go_simp
            try with_reducible rfl
          try simp only [Act.put, List.setIfInBounds_toArray, List.set_cons_zero, List.set_cons_succ]
          refine until_done (by kernel_rfl) ?_ _
          try go_wp2_with fail
          go_meet
          case rel =>
            exact ⟨ra1.heap.size, _, _, _, _, _, _, _, _, _, rfl, rfl, hv, hp.1, hp.2, pl.out⟩
      · go_simp
        have zk := Blk.new raX #[.int .i64 0, .int .i64 0, .slice none 0 0, .slice none 0 0, .slice none 0 0] 35
        have bz : Below raX.heap.size raX (raX.alloc (.cells #[.int .i64 0, .int .i64 0, .slice none 0 0, .slice none 0 0, .slice none 0 0] 35)) := (Below.refl _ _).alloc (Nat.le_refl _) _
        have pl : Hid (w1.heap.size ≤ raX.heap.size) := VraX.out.size
        generalize raX.alloc (.cells #[.int .i64 0, .int .i64 0, .slice none 0 0, .slice none 0 0, .slice none 0 0] 35) = ra10 at *
        have Vra10 : Hid (Below w1.heap.size w1 ra10) := VraX.out.trans (bz.mono VraX.out.size)
        have Zra10 : Hid (Blk ra10 raX.heap.size #[.int .i64 0, .int .i64 0, .slice none 0 0, .slice none 0 0, .slice none 0 0] 35) := zk
        clear zk bz
        refine hK.out _ _ (fun _ _ => ⟨(K1.out.on Vra10.out K1.out.lt).cell 0 _ rfl, (K1.out.on Vra10.out K1.out.lt).cell 1 _ rfl, (K1.out.on Vra10.out K1.out.lt).cell 2 _ rfl, (K1.out.on Vra10.out K1.out.lt).cell 3 _ rfl, (K1.out.on Vra10.out K1.out.lt).cell 4 _ rfl, (J1.out.on Vra10.out J1.out.lt).cell 0 _ rfl, (J1.out.on Vra10.out J1.out.lt).cell 1 _ rfl, (J1.out.on Vra10.out J1.out.lt).cell 2 _ rfl, (J1.out.on Vra10.out J1.out.lt).cell 3 _ rfl⟩) ?_
        clear hK K
        try simp only [Act.put, List.setIfInBounds_toArray, List.set_cons_zero, List.set_cons_succ]
        refine until_one 1 (by rfl) (by kernel_rfl) (fun K hK => ?_)
        go_simp
        refine (cT ra10 (HV.out.on (B1.out.trans (Vra10.out.mono B1.out.size))) (B1.out.trans (Vra10.out.mono B1.out.size)).size).mono ?_
        rintro e ra11 ⟨ura, rfl, hO, hb⟩
        have Vra11 : Hid (Below w1.heap.size w1 ra11) := Vra10.out.trans (hb.mono Vra10.out.size)
        have Zra11 : Hid (Blk ra11 raX.heap.size #[.int .i64 0, .int .i64 0, .slice none 0 0, .slice none 0 0, .slice none 0 0] 35) := Zra10.out.on hb Zra10.out.lt
        have Ura11 : Hid (DiskO ra11 ra10.heap.size ura d) := hO
        clear hb hO
        go_wp2_with fail
        refine hK.out _ _ (fun _ _ => ⟨(K1.out.on Vra11.out K1.out.lt).cell 0 _ rfl, (K1.out.on Vra11.out K1.out.lt).cell 1 _ rfl, (K1.out.on Vra11.out K1.out.lt).cell 2 _ rfl, (K1.out.on Vra11.out K1.out.lt).cell 3 _ rfl, (K1.out.on Vra11.out K1.out.lt).cell 4 _ rfl, (J1.out.on Vra11.out J1.out.lt).cell 0 _ rfl, (J1.out.on Vra11.out J1.out.lt).cell 1 _ rfl, (J1.out.on Vra11.out J1.out.lt).cell 2 _ rfl, (J1.out.on Vra11.out J1.out.lt).cell 3 _ rfl⟩) ?_
        clear hK K
        try simp only [Act.put, List.setIfInBounds_toArray, List.set_cons_zero, List.set_cons_succ]
        refine until_one 3 (by rfl) (by kernel_rfl) (fun K hK => ?_)
        go_simp
        refine (cTS ra11).mono ?_
        rintro e ra12 ⟨rfl, hb⟩
        have Vra12 : Hid (Below w1.heap.size w1 ra12) := Vra11.out.trans (hb.mono Vra11.out.size)
        have Ura12 : Hid (DiskO ra12 ra10.heap.size ura d) := Ura11.out.on hb
        have Zra12 : Hid (Blk ra12 raX.heap.size #[.int .i64 0, .int .i64 0, .slice none 0 0, .slice none 0 0, .slice none 0 0] 35) := Zra11.out.on hb Zra11.out.lt
        clear hb
        go_wp2_with fail
        refine hK.out _ _ (fun _ _ => ⟨(K1.out.on Vra12.out K1.out.lt).cell 0 _ rfl, (K1.out.on Vra12.out K1.out.lt).cell 1 _ rfl, (K1.out.on Vra12.out K1.out.lt).cell 2 _ rfl, (K1.out.on Vra12.out K1.out.lt).cell 3 _ rfl, (K1.out.on Vra12.out K1.out.lt).cell 4 _ rfl, (J1.out.on Vra12.out J1.out.lt).cell 0 _ rfl, (J1.out.on Vra12.out J1.out.lt).cell 1 _ rfl, (J1.out.on Vra12.out J1.out.lt).cell 2 _ rfl, (J1.out.on Vra12.out J1.out.lt).cell 3 _ rfl⟩) ?_
        clear hK K
        try simp only [Act.put, List.setIfInBounds_toArray, List.set_cons_zero, List.set_cons_succ]
        refine until_one 4 (by rfl) (by kernel_rfl) (fun K hK => ?_)
        go_simp
        refine (cSp ra12 ura Ura12.out.look).mono ?_
        rintro e ra13 ⟨y, rfl, hO, hb⟩
        have Vra13 : Hid (Below w1.heap.size w1 ra13) := Vra12.out.trans (hb.mono Vra12.out.size)
        have Zra13 : Hid (Blk ra13 raX.heap.size #[.int .i64 0, .int .i64 0, .slice none 0 0, .slice none 0 0, .slice none 0 0] 35) := Zra12.out.on hb Zra12.out.lt
        obtain ⟨s1, s2, s3, rfl, a1, a2, a3⟩ := hO.mono Vra12.out.size
        obtain ⟨Q1, qm1, qc1, rfl⟩ := a1.shape
        obtain ⟨Q2, qm2, qc2, rfl⟩ := a2.shape
        obtain ⟨Q3, qm3, qc3, rfl⟩ := a3.shape
        have O1ra13 : Hid (Owns ra13 w1.heap.size 76 3 (.slice Q1 qm1 qc1) (nodR RR.1.nods)) := a1
        have O2ra13 : Hid (Owns ra13 w1.heap.size 79 2 (.slice Q2 qm2 qc2) (lnkR RR.1.dir)) := a2
        have O3ra13 : Hid (Owns ra13 w1.heap.size 81 4 (.slice Q3 qm3 qc3) (movR RR.1.movs)) := a3
        clear hb hO a1 a2 a3
        go_wp2_with fail
        refine hK.out _ _ (fun _ _ => ⟨(K1.out.on Vra13.out K1.out.lt).cell 0 _ rfl, (K1.out.on Vra13.out K1.out.lt).cell 1 _ rfl, (K1.out.on Vra13.out K1.out.lt).cell 2 _ rfl, (K1.out.on Vra13.out K1.out.lt).cell 3 _ rfl, (K1.out.on Vra13.out K1.out.lt).cell 4 _ rfl, (J1.out.on Vra13.out J1.out.lt).cell 0 _ rfl, (J1.out.on Vra13.out J1.out.lt).cell 1 _ rfl, (J1.out.on Vra13.out J1.out.lt).cell 2 _ rfl, (J1.out.on Vra13.out J1.out.lt).cell 3 _ rfl⟩) ?_
        clear hK K
        try simp only [Act.put, List.setIfInBounds_toArray, List.set_cons_zero, List.set_cons_succ]
        refine until_pure 5 (v := ?_) (by rfl) (by kernel_rfl) (by exact fun _ _ _ h => h) (by rfl) ?_ ?_
        rotate_left
        · intro w
          go_simp
          try with_reducible rfl
        try simp only [Act.put, List.setIfInBounds_toArray, List.set_cons_zero, List.set_cons_succ]
        refine until_pure 6 (v := ?_) (by rfl) (by kernel_rfl) (by exact fun _ _ _ h => h) (by rfl) ?_ ?_
        rotate_left
        · intro w
          go_simp
          try with_reducible rfl
        try simp only [Act.put, List.setIfInBounds_toArray, List.set_cons_zero, List.set_cons_succ]
        refine until_pure 7 (v := ?_) (by rfl) (by kernel_rfl) (by exact fun _ _ _ h => h) (by rfl) ?_ ?_
        rotate_left
        · intro w
          go_simp
          try with_reducible rfl
        try simp only [Act.put, List.setIfInBounds_toArray, List.set_cons_zero, List.set_cons_succ]
        have hp := put_disk O1ra13.out O2ra13.out O3ra13.out Zra13.out
        have hv := (((((Vra13.out.setCell pl.out (.int .i64 RR.1.room) (p := ⟨_, 0, none⟩)).setCell pl.out (.int .i64 RR.1.next) (p := ⟨_, 1, none⟩)).setCell pl.out (.slice Q1 qm1 qc1) (p := ⟨_, 2, none⟩)).setCell pl.out (.slice Q2 qm2 qc2) (p := ⟨_, 3, none⟩)).setCell pl.out (.slice Q3 qm3 qc3) (p := ⟨_, 4, none⟩))
        have r0 := Zra13.out.cell 0 _ rfl
        have f0 := Zra13.out.free 0
        have r1 := Zra13.out.cell 1 _ rfl
        have f1 := Zra13.out.free 1
        have r2 := Zra13.out.cell 2 _ rfl
        have f2 := Zra13.out.free 2
        have r3 := Zra13.out.cell 3 _ rfl
        have f3 := Zra13.out.free 3
        have r4 := Zra13.out.cell 4 _ rfl
        have f4 := Zra13.out.free 4
        refine until_one 9 (by rfl) (by kernel_rfl) (fun K hK => ?_)
        go_simp
        try go_wp2_with fail
        clear r0 f0 r1 f1 r2 f2 r3 f3 r4 f4
        generalize (((((ra13.setCell ⟨raX.heap.size, 0, none⟩ (.int .i64 RR.1.room)).setCell ⟨raX.heap.size, 1, none⟩ (.int .i64 RR.1.next)).setCell ⟨raX.heap.size, 2, none⟩ (.slice Q1 qm1 qc1)).setCell ⟨raX.heap.size, 3, none⟩ (.slice Q2 qm2 qc2)).setCell ⟨raX.heap.size, 4, none⟩ (.slice Q3 qm3 qc3)) = WF at *
        refine hK.out _ _ (fun h => by cases h) ?_
        clear hK K
        try simp only [Act.put, List.setIfInBounds_toArray, List.set_cons_zero, List.set_cons_succ]
        refine until_pure 10 (v := ?_) (by rfl) (by kernel_rfl) (by exact fun _ _ _ h => h) (by rfl) ?_ ?_
        rotate_left
        · intro w
          go_simp
          try with_reducible rfl
        try simp only [Act.put, List.setIfInBounds_toArray, List.set_cons_zero, List.set_cons_succ]
        refine until_done (by kernel_rfl) ?_ _
        try go_wp2_with fail
        go_meet
        case rel =>
          exact ⟨raX.heap.size, _, _, _, _, _, _, _, _, _, rfl, rfl, hv, hp.1, hp.2, pl.out⟩
    case rest =>
    obtain ⟨p6, E1, em1, ec1, E2, em2, ec2, E3, em3, ec3, rfl, rfl, hbc, hDc, hPc, hLc⟩ := hcut
    generalize wc = W3 at *
    have BW3 : Hid (Below w.heap.size w W3) := B1.out.trans (hbc.mono B1.out.size)
    have K3a : Hid (Blk W3 w.heap.size #[.int .i64 d.room, .int .i64 d.next, v1, v2, v3] 26) := K1.out.on hbc K1.out.lt
    have J3a : Hid (Blk W3 (w.heap.size + 1) #[.int .i64 k, .string n, .string t, .string x] 28) := J1.out.on hbc J1.out.lt
    have TW3 : Hid (DiskO W3 w1.heap.size (.agg #[.int .i64 RR.1.room, .int .i64 RR.1.next, .slice E1 em1 ec1, .slice E2 em2 ec2, .slice E3 em3 ec3]) RR.1) := hDc
    have P6a : Hid (Blk W3 p6 #[.int .i64 RR.1.room, .int .i64 RR.1.next, .slice E1 em1 ec1, .slice E2 em2 ec2, .slice E3 em3 ec3] 35) := hPc
    clear hbc hDc hPc hLc K1 J1 cSp
    generalize w1.heap.size = b2 at *
    have y0 := K3a.out.cell 0 _ rfl
    have y1 := K3a.out.cell 1 _ rfl
    have y2 := K3a.out.cell 2 _ rfl
    have y3 := K3a.out.cell 3 _ rfl
    have y4 := K3a.out.cell 4 _ rfl
    go_wp2_with fail
    clear y0 y1 y2 y3 y4
    refine (cT W3 (HV.out.on BW3.out) BW3.out.size).mono ?_
    rintro e w4 ⟨xq, rfl, hO4, hb4⟩
    have B4 : Hid (Below w.heap.size w w4) := BW3.out.trans (hb4.mono BW3.out.size)
    have K4 : Hid (Blk w4 w.heap.size #[.int .i64 d.room, .int .i64 d.next, v1, v2, v3] 26) := K3a.out.on hb4 K3a.out.lt
    have J4 : Hid (Blk w4 (w.heap.size + 1) #[.int .i64 k, .string n, .string t, .string x] 28) := J3a.out.on hb4 J3a.out.lt
    have O4 : Hid (DiskO w4 W3.heap.size xq d) := hO4
    have T4 : Hid (Below W3.heap.size W3 w4) := hb4
    obtain ⟨x1, x2, x3, rfl, q1, q2, q3⟩ := hO4
    have XR1 : Hid (∀ g, x1.ownBlock = some g → g < w4.heap.size) := fun g hg => (q1.lt g hg).2
    have XR2 : Hid (∀ g, x2.ownBlock = some g → g < w4.heap.size) := fun g hg => (q2.lt g hg).2
    have XR3 : Hid (∀ g, x3.ownBlock = some g → g < w4.heap.size) := fun g hg => (q3.lt g hg).2
    obtain ⟨A1, m1, c1, rfl⟩ := q1.shape
    obtain ⟨A2, m2, c2, rfl⟩ := q2.shape
    obtain ⟨A3, m3, c3, rfl⟩ := q3.shape
    have KL30 : Hid (w.heap.size < W3.heap.size) := K3a.out.lt
    have JL3 : Hid (w.heap.size + 1 < W3.heap.size) := J3a.out.lt
    clear hb4 K3a J3a q1 q2 q3
    go_wp2_with fail
    have k5 := Blk.new w4 #[.int .i64 d.room, .int .i64 d.next, .slice A1 m1 c1, .slice A2 m2 c2, .slice A3 m3 c3] 35
    have hb5 : Below w4.heap.size w4 (w4.alloc (.cells #[.int .i64 d.room, .int .i64 d.next, .slice A1 m1 c1, .slice A2 m2 c2, .slice A3 m3 c3] 35)) := (Below.refl _ _).alloc (Nat.le_refl _) _
    generalize w4.alloc (.cells #[.int .i64 d.room, .int .i64 d.next, .slice A1 m1 c1, .slice A2 m2 c2, .slice A3 m3 c3] 35) = W5 at *
    have B5 : Hid (Below w.heap.size w W5) := B4.out.trans (hb5.mono B4.out.size)
    have K5 : Hid (Blk W5 w.heap.size #[.int .i64 d.room, .int .i64 d.next, v1, v2, v3] 26) := K4.out.on hb5 K4.out.lt
    have J5 : Hid (Blk W5 (w.heap.size + 1) #[.int .i64 k, .string n, .string t, .string x] 28) := J4.out.on hb5 J4.out.lt
    have O5 : Hid (DiskO W5 W3.heap.size (.agg #[.int .i64 d.room, .int .i64 d.next, .slice A1 m1 c1, .slice A2 m2 c2, .slice A3 m3 c3]) d) := O4.out.on hb5
    have T5 : Hid (Below W3.heap.size W3 W5) := T4.out.trans (hb5.mono T4.out.size)
    have X5 : Hid (Blk W5 w4.heap.size #[.int .i64 d.room, .int .i64 d.next, .slice A1 m1 c1, .slice A2 m2 c2, .slice A3 m3 c3] 35) := k5
    have XL : Hid (W3.heap.size ≤ w4.heap.size) := T4.out.size
    clear hb5 k5 K4 O4 T4
    generalize w4.heap.size = px at *
    have PX : Hid (px < W5.heap.size) := X5.out.lt
    go_cut [9, 10] from 16 to 108 (fun sa sb wx => ∃ p Q1 qm1 qc1 Q2 qm2 qc2 Q3 qm3 qc3, sa = .pointer (some ⟨p, 0, none⟩) ∧ sb = .int .i64 RR.2 ∧ Below W5.heap.size W5 wx ∧ DiskO wx W5.heap.size (.agg #[.int .i64 RR.1.room, .int .i64 RR.1.next, .slice Q1 qm1 qc1, .slice Q2 qm2 qc2, .slice Q3 qm3 qc3]) RR.1 ∧ Blk wx p #[.int .i64 RR.1.room, .int .i64 RR.1.next, .slice Q1 qm1 qc1, .slice Q2 qm2 qc2, .slice Q3 qm3 qc3] 35 ∧ W5.heap.size ≤ p)
    case first =>
      refine wp_region_until (fun w' => w'.cell? ⟨px, 0, none⟩ = some (.int .i64 d.room) ∧ w'.cell? ⟨px, 1, none⟩ = some (.int .i64 d.next) ∧ w'.cell? ⟨px, 2, none⟩ = some (.slice A1 m1 c1) ∧ w'.cell? ⟨px, 3, none⟩ = some (.slice A2 m2 c2) ∧ w'.cell? ⟨px, 4, none⟩ = some (.slice A3 m3 c3) ∧ w'.cell? ⟨w.heap.size + 1, 0, none⟩ = some (.int .i64 k) ∧ w'.cell? ⟨w.heap.size + 1, 1, none⟩ = some (.string n) ∧ w'.cell? ⟨w.heap.size + 1, 2, none⟩ = some (.string t) ∧ w'.cell? ⟨w.heap.size + 1, 3, none⟩ = some (.string x)) (fun i => i == 8) 10 (by rfl) (by kernel_rfl) ?_
      have VrbX : Hid (Below W5.heap.size W5 W5.drew) := (Below.refl _ _).drew
      generalize W5.drew = rbX at *
      have S0 : Hid (rbX.cell? ⟨px, 0, none⟩ = some (.int .i64 d.room) ∧ rbX.cell? ⟨px, 1, none⟩ = some (.int .i64 d.next) ∧ rbX.cell? ⟨px, 2, none⟩ = some (.slice A1 m1 c1) ∧ rbX.cell? ⟨px, 3, none⟩ = some (.slice A2 m2 c2) ∧ rbX.cell? ⟨px, 4, none⟩ = some (.slice A3 m3 c3) ∧ rbX.cell? ⟨w.heap.size + 1, 0, none⟩ = some (.int .i64 k) ∧ rbX.cell? ⟨w.heap.size + 1, 1, none⟩ = some (.string n) ∧ rbX.cell? ⟨w.heap.size + 1, 2, none⟩ = some (.string t) ∧ rbX.cell? ⟨w.heap.size + 1, 3, none⟩ = some (.string x)) := ⟨(X5.out.on VrbX.out X5.out.lt).cell 0 _ rfl, (X5.out.on VrbX.out X5.out.lt).cell 1 _ rfl, (X5.out.on VrbX.out X5.out.lt).cell 2 _ rfl, (X5.out.on VrbX.out X5.out.lt).cell 3 _ rfl, (X5.out.on VrbX.out X5.out.lt).cell 4 _ rfl, (J5.out.on VrbX.out J5.out.lt).cell 0 _ rfl, (J5.out.on VrbX.out J5.out.lt).cell 1 _ rfl, (J5.out.on VrbX.out J5.out.lt).cell 2 _ rfl, (J5.out.on VrbX.out J5.out.lt).cell 3 _ rfl⟩
      refine until_take 0 (v := ?_) (by rfl) (by kernel_rfl) (by exact fun _ _ _ h => h) (by rfl) ?_ S0.out ?_
      rotate_left
      · intro w hSw
        try dsimp only at hSw
        go_simp
        try with_reducible rfl
      try simp only [Act.put, List.setIfInBounds_toArray, List.set_cons_zero, List.set_cons_succ]
      refine until_take 1 (v := ?_) (by rfl) (by kernel_rfl) (by exact fun _ _ _ h => h) (by rfl) ?_ S0.out ?_
      rotate_left
      · intro w hSw
        try dsimp only at hSw
        go_simp
        try with_reducible rfl
      try simp only [Act.put, List.setIfInBounds_toArray, List.set_cons_zero, List.set_cons_succ]
      refine until_two 2 7 (by rfl) (by rfl) (by kernel_rfl) (fun K hK => ?_) (fun K hK => ?_)
      · go_simp
        refine (cTS rbX).mono ?_
        rintro e rb14 ⟨rfl, hb⟩
        have Vrb14 : Hid (Below W5.heap.size W5 rb14) := VrbX.out.trans (hb.mono VrbX.out.size)
        clear hb
        go_wp2_with fail
        refine hK.out _ _ (fun _ _ => ⟨(X5.out.on Vrb14.out X5.out.lt).cell 0 _ rfl, (X5.out.on Vrb14.out X5.out.lt).cell 1 _ rfl, (X5.out.on Vrb14.out X5.out.lt).cell 2 _ rfl, (X5.out.on Vrb14.out X5.out.lt).cell 3 _ rfl, (X5.out.on Vrb14.out X5.out.lt).cell 4 _ rfl, (J5.out.on Vrb14.out J5.out.lt).cell 0 _ rfl, (J5.out.on Vrb14.out J5.out.lt).cell 1 _ rfl, (J5.out.on Vrb14.out J5.out.lt).cell 2 _ rfl, (J5.out.on Vrb14.out J5.out.lt).cell 3 _ rfl⟩) ?_
        clear hK K
        try simp only [Act.put, List.setIfInBounds_toArray, List.set_cons_zero, List.set_cons_succ]
        refine until_two 3 7 (by rfl) (by rfl) (by kernel_rfl) (fun K hK => ?_) (fun K hK => ?_)
        · go_simp
          refine (cG rb14 (.agg #[.int .i64 d.room, .int .i64 d.next, .slice A1 m1 c1, .slice A2 m2 c2, .slice A3 m3 c3]) (O5.out.on Vrb14.out).look).mono ?_
          rintro e rb15 ⟨y, rfl, hO, hb⟩
          have Vrb15 : Hid (Below W5.heap.size W5 rb15) := Vrb14.out.trans (hb.mono Vrb14.out.size)
          obtain ⟨s1, s2, s3, rfl, a1, a2, a3⟩ := hO.mono Vrb14.out.size
          obtain ⟨Q1, qm1, qc1, rfl⟩ := a1.shape
          obtain ⟨Q2, qm2, qc2, rfl⟩ := a2.shape
          obtain ⟨Q3, qm3, qc3, rfl⟩ := a3.shape
          have O1rb15 : Hid (Owns rb15 W5.heap.size 76 3 (.slice Q1 qm1 qc1) (nodR RR.1.nods)) := a1
          have O2rb15 : Hid (Owns rb15 W5.heap.size 79 2 (.slice Q2 qm2 qc2) (lnkR RR.1.dir)) := a2
          have O3rb15 : Hid (Owns rb15 W5.heap.size 81 4 (.slice Q3 qm3 qc3) (movR RR.1.movs)) := a3
          clear hb hO a1 a2 a3
          go_wp2_with fail
          refine hK.out _ _ (fun _ _ => ⟨(X5.out.on Vrb15.out X5.out.lt).cell 0 _ rfl, (X5.out.on Vrb15.out X5.out.lt).cell 1 _ rfl, (X5.out.on Vrb15.out X5.out.lt).cell 2 _ rfl, (X5.out.on Vrb15.out X5.out.lt).cell 3 _ rfl, (X5.out.on Vrb15.out X5.out.lt).cell 4 _ rfl, (J5.out.on Vrb15.out J5.out.lt).cell 0 _ rfl, (J5.out.on Vrb15.out J5.out.lt).cell 1 _ rfl, (J5.out.on Vrb15.out J5.out.lt).cell 2 _ rfl, (J5.out.on Vrb15.out J5.out.lt).cell 3 _ rfl⟩) ?_
          clear hK K
          try simp only [Act.put, List.setIfInBounds_toArray, List.set_cons_zero, List.set_cons_succ]
          refine until_pure 4 (v := ?_) (by rfl) (by kernel_rfl) (by exact fun _ _ _ h => h) (by rfl) ?_ ?_
          rotate_left
          · intro w
            go_simp
            try with_reducible rfl
          try simp only [Act.put, List.setIfInBounds_toArray, List.set_cons_zero, List.set_cons_succ]
          refine until_pure 5 (v := ?_) (by rfl) (by kernel_rfl) (by exact fun _ _ _ h => h) (by rfl) ?_ ?_
          rotate_left
          · intro w
            go_simp
            try with_reducible rfl
          try simp only [Act.put, List.setIfInBounds_toArray, List.set_cons_zero, List.set_cons_succ]
          refine until_pure 6 (v := ?_) (by rfl) (by kernel_rfl) (by exact fun _ _ _ h => h) (by rfl) ?_ ?_
          rotate_left
          · intro w
            go_simp
            try with_reducible rfl
          try simp only [Act.put, List.setIfInBounds_toArray, List.set_cons_zero, List.set_cons_succ]
          refine until_one 7 (by rfl) (by kernel_rfl) (fun K hK => ?_)
          go_simp
          have zk := Blk.new rb15 #[.int .i64 0, .int .i64 0, .slice none 0 0, .slice none 0 0, .slice none 0 0] 35
          have bz : Below rb15.heap.size rb15 (rb15.alloc (.cells #[.int .i64 0, .int .i64 0, .slice none 0 0, .slice none 0 0, .slice none 0 0] 35)) := (Below.refl _ _).alloc (Nat.le_refl _) _
          have pl : Hid (W5.heap.size ≤ rb15.heap.size) := Vrb15.out.size
          generalize rb15.alloc (.cells #[.int .i64 0, .int .i64 0, .slice none 0 0, .slice none 0 0, .slice none 0 0] 35) = rb16 at *
          have Vrb16 : Hid (Below W5.heap.size W5 rb16) := Vrb15.out.trans (bz.mono Vrb15.out.size)
          have O1rb16 : Hid (Owns rb16 W5.heap.size 76 3 (.slice Q1 qm1 qc1) (nodR RR.1.nods)) := O1rb15.out.on bz
          have O2rb16 : Hid (Owns rb16 W5.heap.size 79 2 (.slice Q2 qm2 qc2) (lnkR RR.1.dir)) := O2rb15.out.on bz
          have O3rb16 : Hid (Owns rb16 W5.heap.size 81 4 (.slice Q3 qm3 qc3) (movR RR.1.movs)) := O3rb15.out.on bz
          have Zrb16 : Hid (Blk rb16 rb15.heap.size #[.int .i64 0, .int .i64 0, .slice none 0 0, .slice none 0 0, .slice none 0 0] 35) := zk
          clear zk bz
          refine hK.out _ _ (fun _ _ => ⟨(X5.out.on Vrb16.out X5.out.lt).cell 0 _ rfl, (X5.out.on Vrb16.out X5.out.lt).cell 1 _ rfl, (X5.out.on Vrb16.out X5.out.lt).cell 2 _ rfl, (X5.out.on Vrb16.out X5.out.lt).cell 3 _ rfl, (X5.out.on Vrb16.out X5.out.lt).cell 4 _ rfl, (J5.out.on Vrb16.out J5.out.lt).cell 0 _ rfl, (J5.out.on Vrb16.out J5.out.lt).cell 1 _ rfl, (J5.out.on Vrb16.out J5.out.lt).cell 2 _ rfl, (J5.out.on Vrb16.out J5.out.lt).cell 3 _ rfl⟩) ?_
          clear hK K
          try simp only [Act.put, List.setIfInBounds_toArray, List.set_cons_zero, List.set_cons_succ]
          have hp := put_disk O1rb16.out O2rb16.out O3rb16.out Zrb16.out
          have hv := (((((Vrb16.out.setCell pl.out (.int .i64 RR.1.room) (p := ⟨_, 0, none⟩)).setCell pl.out (.int .i64 RR.1.next) (p := ⟨_, 1, none⟩)).setCell pl.out (.slice Q1 qm1 qc1) (p := ⟨_, 2, none⟩)).setCell pl.out (.slice Q2 qm2 qc2) (p := ⟨_, 3, none⟩)).setCell pl.out (.slice Q3 qm3 qc3) (p := ⟨_, 4, none⟩))
          have r0 := Zrb16.out.cell 0 _ rfl
          have f0 := Zrb16.out.free 0
          have r1 := Zrb16.out.cell 1 _ rfl
          have f1 := Zrb16.out.free 1
          have r2 := Zrb16.out.cell 2 _ rfl
          have f2 := Zrb16.out.free 2
          have r3 := Zrb16.out.cell 3 _ rfl
          have f3 := Zrb16.out.free 3
          have r4 := Zrb16.out.cell 4 _ rfl
          have f4 := Zrb16.out.free 4
          refine until_one 8 (by rfl) (by kernel_rfl) (fun K hK => ?_)
          go_simp
          try go_wp2_with fail
          clear r0 f0 r1 f1 r2 f2 r3 f3 r4 f4
          generalize (((((rb16.setCell ⟨rb15.heap.size, 0, none⟩ (.int .i64 RR.1.room)).setCell ⟨rb15.heap.size, 1, none⟩ (.int .i64 RR.1.next)).setCell ⟨rb15.heap.size, 2, none⟩ (.slice Q1 qm1 qc1)).setCell ⟨rb15.heap.size, 3, none⟩ (.slice Q2 qm2 qc2)).setCell ⟨rb15.heap.size, 4, none⟩ (.slice Q3 qm3 qc3)) = WF at *
          refine hK.out _ _ (fun h => by cases h) ?_
          clear hK K
          try simp only [Act.put, List.setIfInBounds_toArray, List.set_cons_zero, List.set_cons_succ]
          refine until_pure 9 (v := ?_) (by rfl) (by kernel_rfl) (by exact fun _ _ _ h => h) (by rfl) ?_ ?_
          rotate_left
          · intro w
            go_simp
            try with_reducible rfl
          try simp only [Act.put, List.setIfInBounds_toArray, List.set_cons_zero, List.set_cons_succ]
          refine until_done (by kernel_rfl) ?_ _
          try go_wp2_with fail
          go_meet
          case rel =>
            exact ⟨rb15.heap.size, _, _, _, _, _, _, _, _, _, rfl, rfl, hv, hp.1, hp.2, pl.out⟩
        · go_simp
          have zk := Blk.new rb14 #[.int .i64 0, .int .i64 0, .slice none 0 0, .slice none 0 0, .slice none 0 0] 35
          have bz : Below rb14.heap.size rb14 (rb14.alloc (.cells #[.int .i64 0, .int .i64 0, .slice none 0 0, .slice none 0 0, .slice none 0 0] 35)) := (Below.refl _ _).alloc (Nat.le_refl _) _
          have pl : Hid (W5.heap.size ≤ rb14.heap.size) := Vrb14.out.size
          generalize rb14.alloc (.cells #[.int .i64 0, .int .i64 0, .slice none 0 0, .slice none 0 0, .slice none 0 0] 35) = rb17 at *
          have Vrb17 : Hid (Below W5.heap.size W5 rb17) := Vrb14.out.trans (bz.mono Vrb14.out.size)
          have Zrb17 : Hid (Blk rb17 rb14.heap.size #[.int .i64 0, .int .i64 0, .slice none 0 0, .slice none 0 0, .slice none 0 0] 35) := zk
          clear zk bz
          refine hK.out _ _ (fun _ _ => ⟨(X5.out.on Vrb17.out X5.out.lt).cell 0 _ rfl, (X5.out.on Vrb17.out X5.out.lt).cell 1 _ rfl, (X5.out.on Vrb17.out X5.out.lt).cell 2 _ rfl, (X5.out.on Vrb17.out X5.out.lt).cell 3 _ rfl, (X5.out.on Vrb17.out X5.out.lt).cell 4 _ rfl, (J5.out.on Vrb17.out J5.out.lt).cell 0 _ rfl, (J5.out.on Vrb17.out J5.out.lt).cell 1 _ rfl, (J5.out.on Vrb17.out J5.out.lt).cell 2 _ rfl, (J5.out.on Vrb17.out J5.out.lt).cell 3 _ rfl⟩) ?_
          clear hK K
          try simp only [Act.put, List.setIfInBounds_toArray, List.set_cons_zero, List.set_cons_succ]
          refine until_one 3 (by rfl) (by kernel_rfl) (fun K hK => ?_)
          go_simp
          refine (cG rb17 (.agg #[.int .i64 d.room, .int .i64 d.next, .slice A1 m1 c1, .slice A2 m2 c2, .slice A3 m3 c3]) (O5.out.on Vrb17.out).look).mono ?_
          rintro e rb18 ⟨y, rfl, hO, hb⟩
          have Vrb18 : Hid (Below W5.heap.size W5 rb18) := Vrb17.out.trans (hb.mono Vrb17.out.size)
          have Zrb18 : Hid (Blk rb18 rb14.heap.size #[.int .i64 0, .int .i64 0, .slice none 0 0, .slice none 0 0, .slice none 0 0] 35) := Zrb17.out.on hb Zrb17.out.lt
          obtain ⟨s1, s2, s3, rfl, a1, a2, a3⟩ := hO.mono Vrb17.out.size
          obtain ⟨Q1, qm1, qc1, rfl⟩ := a1.shape
          obtain ⟨Q2, qm2, qc2, rfl⟩ := a2.shape
          obtain ⟨Q3, qm3, qc3, rfl⟩ := a3.shape
          have O1rb18 : Hid (Owns rb18 W5.heap.size 76 3 (.slice Q1 qm1 qc1) (nodR RR.1.nods)) := a1
          have O2rb18 : Hid (Owns rb18 W5.heap.size 79 2 (.slice Q2 qm2 qc2) (lnkR RR.1.dir)) := a2
          have O3rb18 : Hid (Owns rb18 W5.heap.size 81 4 (.slice Q3 qm3 qc3) (movR RR.1.movs)) := a3
          clear hb hO a1 a2 a3
          go_wp2_with fail
          refine hK.out _ _ (fun _ _ => ⟨(X5.out.on Vrb18.out X5.out.lt).cell 0 _ rfl, (X5.out.on Vrb18.out X5.out.lt).cell 1 _ rfl, (X5.out.on Vrb18.out X5.out.lt).cell 2 _ rfl, (X5.out.on Vrb18.out X5.out.lt).cell 3 _ rfl, (X5.out.on Vrb18.out X5.out.lt).cell 4 _ rfl, (J5.out.on Vrb18.out J5.out.lt).cell 0 _ rfl, (J5.out.on Vrb18.out J5.out.lt).cell 1 _ rfl, (J5.out.on Vrb18.out J5.out.lt).cell 2 _ rfl, (J5.out.on Vrb18.out J5.out.lt).cell 3 _ rfl⟩) ?_
          clear hK K
          try simp only [Act.put, List.setIfInBounds_toArray, List.set_cons_zero, List.set_cons_succ]
          refine until_pure 4 (v := ?_) (by rfl) (by kernel_rfl) (by exact fun _ _ _ h => h) (by rfl) ?_ ?_
          rotate_left
          · intro w
            go_simp
            try with_reducible rfl
          try simp only [Act.put, List.setIfInBounds_toArray, List.set_cons_zero, List.set_cons_succ]
          refine until_pure 5 (v := ?_) (by rfl) (by kernel_rfl) (by exact fun _ _ _ h => h) (by rfl) ?_ ?_
          rotate_left
          · intro w
            go_simp
            try with_reducible rfl
          try simp only [Act.put, List.setIfInBounds_toArray, List.set_cons_zero, List.set_cons_succ]
          refine until_pure 6 (v := ?_) (by rfl) (by kernel_rfl) (by exact fun _ _ _ h => h) (by rfl) ?_ ?_
          rotate_left
          · intro w
            go_simp
            try with_reducible rfl
          try simp only [Act.put, List.setIfInBounds_toArray, List.set_cons_zero, List.set_cons_succ]
          have hp := put_disk O1rb18.out O2rb18.out O3rb18.out Zrb18.out
          have hv := (((((Vrb18.out.setCell pl.out (.int .i64 RR.1.room) (p := ⟨_, 0, none⟩)).setCell pl.out (.int .i64 RR.1.next) (p := ⟨_, 1, none⟩)).setCell pl.out (.slice Q1 qm1 qc1) (p := ⟨_, 2, none⟩)).setCell pl.out (.slice Q2 qm2 qc2) (p := ⟨_, 3, none⟩)).setCell pl.out (.slice Q3 qm3 qc3) (p := ⟨_, 4, none⟩))
          have r0 := Zrb18.out.cell 0 _ rfl
          have f0 := Zrb18.out.free 0
          have r1 := Zrb18.out.cell 1 _ rfl
          have f1 := Zrb18.out.free 1
          have r2 := Zrb18.out.cell 2 _ rfl
          have f2 := Zrb18.out.free 2
          have r3 := Zrb18.out.cell 3 _ rfl
          have f3 := Zrb18.out.free 3
          have r4 := Zrb18.out.cell 4 _ rfl
          have f4 := Zrb18.out.free 4
          refine until_one 8 (by rfl) (by kernel_rfl) (fun K hK => ?_)
          go_simp
          try go_wp2_with fail
          clear r0 f0 r1 f1 r2 f2 r3 f3 r4 f4
          generalize (((((rb18.setCell ⟨rb14.heap.size, 0, none⟩ (.int .i64 RR.1.room)).setCell ⟨rb14.heap.size, 1, none⟩ (.int .i64 RR.1.next)).setCell ⟨rb14.heap.size, 2, none⟩ (.slice Q1 qm1 qc1)).setCell ⟨rb14.heap.size, 3, none⟩ (.slice Q2 qm2 qc2)).setCell ⟨rb14.heap.size, 4, none⟩ (.slice Q3 qm3 qc3)) = WF at *
          refine hK.out _ _ (fun h => by cases h) ?_
          clear hK K
          try simp only [Act.put, List.setIfInBounds_toArray, List.set_cons_zero, List.set_cons_succ]
          refine until_pure 9 (v := ?_) (by rfl) (by kernel_rfl) (by exact fun _ _ _ h => h) (by rfl) ?_ ?_
          rotate_left
          · intro w
            go_simp
            try with_reducible rfl
          try simp only [Act.put, List.setIfInBounds_toArray, List.set_cons_zero, List.set_cons_succ]
          refine until_done (by kernel_rfl) ?_ _
          try go_wp2_with fail
          go_meet
          case rel =>
            exact ⟨rb14.heap.size, _, _, _, _, _, _, _, _, _, rfl, rfl, hv, hp.1, hp.2, pl.out⟩
      · go_simp
        have zk := Blk.new rbX #[.int .i64 0, .int .i64 0, .slice none 0 0, .slice none 0 0, .slice none 0 0] 35
        have bz : Below rbX.heap.size rbX (rbX.alloc (.cells #[.int .i64 0, .int .i64 0, .slice none 0 0, .slice none 0 0, .slice none 0 0] 35)) := (Below.refl _ _).alloc (Nat.le_refl _) _
        have pl : Hid (W5.heap.size ≤ rbX.heap.size) := VrbX.out.size
        generalize rbX.alloc (.cells #[.int .i64 0, .int .i64 0, .slice none 0 0, .slice none 0 0, .slice none 0 0] 35) = rb19 at *
        have Vrb19 : Hid (Below W5.heap.size W5 rb19) := VrbX.out.trans (bz.mono VrbX.out.size)
        have Zrb19 : Hid (Blk rb19 rbX.heap.size #[.int .i64 0, .int .i64 0, .slice none 0 0, .slice none 0 0, .slice none 0 0] 35) := zk
        clear zk bz
        refine hK.out _ _ (fun _ _ => ⟨(X5.out.on Vrb19.out X5.out.lt).cell 0 _ rfl, (X5.out.on Vrb19.out X5.out.lt).cell 1 _ rfl, (X5.out.on Vrb19.out X5.out.lt).cell 2 _ rfl, (X5.out.on Vrb19.out X5.out.lt).cell 3 _ rfl, (X5.out.on Vrb19.out X5.out.lt).cell 4 _ rfl, (J5.out.on Vrb19.out J5.out.lt).cell 0 _ rfl, (J5.out.on Vrb19.out J5.out.lt).cell 1 _ rfl, (J5.out.on Vrb19.out J5.out.lt).cell 2 _ rfl, (J5.out.on Vrb19.out J5.out.lt).cell 3 _ rfl⟩) ?_
        clear hK K
        try simp only [Act.put, List.setIfInBounds_toArray, List.set_cons_zero, List.set_cons_succ]
        refine until_one 2 (by rfl) (by kernel_rfl) (fun K hK => ?_)
        go_simp
        refine (cTS rb19).mono ?_
        rintro e rb20 ⟨rfl, hb⟩
        have Vrb20 : Hid (Below W5.heap.size W5 rb20) := Vrb19.out.trans (hb.mono Vrb19.out.size)
        have Zrb20 : Hid (Blk rb20 rbX.heap.size #[.int .i64 0, .int .i64 0, .slice none 0 0, .slice none 0 0, .slice none 0 0] 35) := Zrb19.out.on hb Zrb19.out.lt
        clear hb
        go_wp2_with fail
        refine hK.out _ _ (fun _ _ => ⟨(X5.out.on Vrb20.out X5.out.lt).cell 0 _ rfl, (X5.out.on Vrb20.out X5.out.lt).cell 1 _ rfl, (X5.out.on Vrb20.out X5.out.lt).cell 2 _ rfl, (X5.out.on Vrb20.out X5.out.lt).cell 3 _ rfl, (X5.out.on Vrb20.out X5.out.lt).cell 4 _ rfl, (J5.out.on Vrb20.out J5.out.lt).cell 0 _ rfl, (J5.out.on Vrb20.out J5.out.lt).cell 1 _ rfl, (J5.out.on Vrb20.out J5.out.lt).cell 2 _ rfl, (J5.out.on Vrb20.out J5.out.lt).cell 3 _ rfl⟩) ?_
        clear hK K
        try simp only [Act.put, List.setIfInBounds_toArray, List.set_cons_zero, List.set_cons_succ]
        refine until_one 3 (by rfl) (by kernel_rfl) (fun K hK => ?_)
        go_simp
        refine (cG rb20 (.agg #[.int .i64 d.room, .int .i64 d.next, .slice A1 m1 c1, .slice A2 m2 c2, .slice A3 m3 c3]) (O5.out.on Vrb20.out).look).mono ?_
        rintro e rb21 ⟨y, rfl, hO, hb⟩
        have Vrb21 : Hid (Below W5.heap.size W5 rb21) := Vrb20.out.trans (hb.mono Vrb20.out.size)
        have Zrb21 : Hid (Blk rb21 rbX.heap.size #[.int .i64 0, .int .i64 0, .slice none 0 0, .slice none 0 0, .slice none 0 0] 35) := Zrb20.out.on hb Zrb20.out.lt
        obtain ⟨s1, s2, s3, rfl, a1, a2, a3⟩ := hO.mono Vrb20.out.size
        obtain ⟨Q1, qm1, qc1, rfl⟩ := a1.shape
        obtain ⟨Q2, qm2, qc2, rfl⟩ := a2.shape
        obtain ⟨Q3, qm3, qc3, rfl⟩ := a3.shape
        have O1rb21 : Hid (Owns rb21 W5.heap.size 76 3 (.slice Q1 qm1 qc1) (nodR RR.1.nods)) := a1
        have O2rb21 : Hid (Owns rb21 W5.heap.size 79 2 (.slice Q2 qm2 qc2) (lnkR RR.1.dir)) := a2
        have O3rb21 : Hid (Owns rb21 W5.heap.size 81 4 (.slice Q3 qm3 qc3) (movR RR.1.movs)) := a3
        clear hb hO a1 a2 a3
        go_wp2_with fail
        refine hK.out _ _ (fun _ _ => ⟨(X5.out.on Vrb21.out X5.out.lt).cell 0 _ rfl, (X5.out.on Vrb21.out X5.out.lt).cell 1 _ rfl, (X5.out.on Vrb21.out X5.out.lt).cell 2 _ rfl, (X5.out.on Vrb21.out X5.out.lt).cell 3 _ rfl, (X5.out.on Vrb21.out X5.out.lt).cell 4 _ rfl, (J5.out.on Vrb21.out J5.out.lt).cell 0 _ rfl, (J5.out.on Vrb21.out J5.out.lt).cell 1 _ rfl, (J5.out.on Vrb21.out J5.out.lt).cell 2 _ rfl, (J5.out.on Vrb21.out J5.out.lt).cell 3 _ rfl⟩) ?_
        clear hK K
        try simp only [Act.put, List.setIfInBounds_toArray, List.set_cons_zero, List.set_cons_succ]
        refine until_pure 4 (v := ?_) (by rfl) (by kernel_rfl) (by exact fun _ _ _ h => h) (by rfl) ?_ ?_
        rotate_left
        · intro w
          go_simp
          try with_reducible rfl
        try simp only [Act.put, List.setIfInBounds_toArray, List.set_cons_zero, List.set_cons_succ]
        refine until_pure 5 (v := ?_) (by rfl) (by kernel_rfl) (by exact fun _ _ _ h => h) (by rfl) ?_ ?_
        rotate_left
        · intro w
          go_simp
          try with_reducible rfl
        try simp only [Act.put, List.setIfInBounds_toArray, List.set_cons_zero, List.set_cons_succ]
        refine until_pure 6 (v := ?_) (by rfl) (by kernel_rfl) (by exact fun _ _ _ h => h) (by rfl) ?_ ?_
        rotate_left
        · intro w
          go_simp
          try with_reducible rfl
        try simp only [Act.put, List.setIfInBounds_toArray, List.set_cons_zero, List.set_cons_succ]
        have hp := put_disk O1rb21.out O2rb21.out O3rb21.out Zrb21.out
        have hv := (((((Vrb21.out.setCell pl.out (.int .i64 RR.1.room) (p := ⟨_, 0, none⟩)).setCell pl.out (.int .i64 RR.1.next) (p := ⟨_, 1, none⟩)).setCell pl.out (.slice Q1 qm1 qc1) (p := ⟨_, 2, none⟩)).setCell pl.out (.slice Q2 qm2 qc2) (p := ⟨_, 3, none⟩)).setCell pl.out (.slice Q3 qm3 qc3) (p := ⟨_, 4, none⟩))
        have r0 := Zrb21.out.cell 0 _ rfl
        have f0 := Zrb21.out.free 0
        have r1 := Zrb21.out.cell 1 _ rfl
        have f1 := Zrb21.out.free 1
        have r2 := Zrb21.out.cell 2 _ rfl
        have f2 := Zrb21.out.free 2
        have r3 := Zrb21.out.cell 3 _ rfl
        have f3 := Zrb21.out.free 3
        have r4 := Zrb21.out.cell 4 _ rfl
        have f4 := Zrb21.out.free 4
        refine until_one 8 (by rfl) (by kernel_rfl) (fun K hK => ?_)
        go_simp
        try go_wp2_with fail
        clear r0 f0 r1 f1 r2 f2 r3 f3 r4 f4
        generalize (((((rb21.setCell ⟨rbX.heap.size, 0, none⟩ (.int .i64 RR.1.room)).setCell ⟨rbX.heap.size, 1, none⟩ (.int .i64 RR.1.next)).setCell ⟨rbX.heap.size, 2, none⟩ (.slice Q1 qm1 qc1)).setCell ⟨rbX.heap.size, 3, none⟩ (.slice Q2 qm2 qc2)).setCell ⟨rbX.heap.size, 4, none⟩ (.slice Q3 qm3 qc3)) = WF at *
        refine hK.out _ _ (fun h => by cases h) ?_
        clear hK K
        try simp only [Act.put, List.setIfInBounds_toArray, List.set_cons_zero, List.set_cons_succ]
        refine until_pure 9 (v := ?_) (by rfl) (by kernel_rfl) (by exact fun _ _ _ h => h) (by rfl) ?_ ?_
        rotate_left
        · intro w
          go_simp
          try with_reducible rfl
        try simp only [Act.put, List.setIfInBounds_toArray, List.set_cons_zero, List.set_cons_succ]
        refine until_done (by kernel_rfl) ?_ _
        try go_wp2_with fail
        go_meet
        case rel =>
          exact ⟨rbX.heap.size, _, _, _, _, _, _, _, _, _, rfl, rfl, hv, hp.1, hp.2, pl.out⟩
    case rest =>
    obtain ⟨p9, G1, gm1, gc1, G2, gm2, gc2, G3, gm3, gc3, rfl, rfl, hbc, hDc, hPc, hLc⟩ := hcut
    generalize wc = W6 at *
    have BW6 : Hid (Below w.heap.size w W6) := B5.out.trans (hbc.mono B5.out.size)
    have TW6 : Hid (Below W5.heap.size W5 W6) := hbc
    have GW6 : Hid (DiskO W6 W5.heap.size (.agg #[.int .i64 RR.1.room, .int .i64 RR.1.next, .slice G1 gm1 gc1, .slice G2 gm2 gc2, .slice G3 gm3 gc3]) RR.1) := hDc
    have P9a : Hid (Blk W6 p9 #[.int .i64 RR.1.room, .int .i64 RR.1.next, .slice G1 gm1 gc1, .slice G2 gm2 gc2, .slice G3 gm3 gc3] 35) := hPc
    have GL : Hid (W5.heap.size ≤ p9) := hLc
    have P6b : Hid (Blk W6 p6 #[.int .i64 RR.1.room, .int .i64 RR.1.next, .slice E1 em1 ec1, .slice E2 em2 ec2, .slice E3 em3 ec3] 35) := (P6a.out.on T5.out P6a.out.lt).on hbc (P6a.out.on T5.out P6a.out.lt).lt
    obtain ⟨cz, hcz⟩ : ∃ c, c = W6.heap.size := ⟨_, rfl⟩
    obtain ⟨g1', g2', g3', e', q1, q2, q3⟩ := hDc
    cases e'
    have GR1 : Hid (∀ g, (Value.slice G1 gm1 gc1).ownBlock = some g → g < cz) := fun g hg => by rw [hcz]; exact (q1.lt g hg).2
    have GR2 : Hid (∀ g, (Value.slice G2 gm2 gc2).ownBlock = some g → g < cz) := fun g hg => by rw [hcz]; exact (q2.lt g hg).2
    have GR3 : Hid (∀ g, (Value.slice G3 gm3 gc3).ownBlock = some g → g < cz) := fun g hg => by rw [hcz]; exact (q3.lt g hg).2
    clear hbc hPc hLc q1 q2 q3 hcz
    have z0 := P9a.out.cell 0 _ rfl
    have s0 := P6b.out.cell 0 _ rfl
    have z1 := P9a.out.cell 1 _ rfl
    have s1 := P6b.out.cell 1 _ rfl
    have z2 := P9a.out.cell 2 _ rfl
    have s2 := P6b.out.cell 2 _ rfl
    have z3 := P9a.out.cell 3 _ rfl
    have s3 := P6b.out.cell 3 _ rfl
    have z4 := P9a.out.cell 4 _ rfl
    have s4 := P6b.out.cell 4 _ rfl
    go_wp2_with fail
    clear z0 s0 z1 s1 z2 s2 z3 s3 z4 s4
    have TT6 : Hid (Below W3.heap.size W3 W6) := T5.out.trans (TW6.out.mono T5.out.size)
    have TO6 : Hid (DiskO W6 b2 (.agg #[.int .i64 RR.1.room, .int .i64 RR.1.next, .slice E1 em1 ec1, .slice E2 em2 ec2, .slice E3 em3 ec3]) RR.1) := (TW3.out.on T5.out).on (TW6.out)
    refine (eqDiskL RR.1 _ _ W6 W6.heap.size GW6.out.look TO6.out.look (by have := LR.out; omega) (by have := LR.out; omega) (by have := LR.out; omega) (Nat.le_refl _)).mono ?_
    rintro e w7 ⟨rfl, hb7⟩
    have hb7x : Hid (Below W6.heap.size W6 w7) := hb7
    have B7 : Hid (Below w.heap.size w w7) := BW6.out.trans (hb7.mono BW6.out.size)
    have K7 : Hid (Blk w7 w.heap.size #[.int .i64 d.room, .int .i64 d.next, v1, v2, v3] 26) := ((K5.out.on TW6.out K5.out.lt)).on hb7 (K5.out.on TW6.out K5.out.lt).lt
    have J7 : Hid (Blk w7 (w.heap.size + 1) #[.int .i64 k, .string n, .string t, .string x] 28) := ((J5.out.on TW6.out J5.out.lt)).on hb7 (J5.out.on TW6.out J5.out.lt).lt
    have X7 : Hid (Blk w7 px #[.int .i64 d.room, .int .i64 d.next, .slice A1 m1 c1, .slice A2 m2 c2, .slice A3 m3 c3] 35) := (X5.out.on TW6.out X5.out.lt).on hb7 (X5.out.on TW6.out X5.out.lt).lt
    have O7 : Hid (DiskO w7 W3.heap.size (.agg #[.int .i64 d.room, .int .i64 d.next, .slice A1 m1 c1, .slice A2 m2 c2, .slice A3 m3 c3]) d) := (O5.out.on TW6.out).on hb7
    have G7 : Hid (DiskO w7 W5.heap.size (.agg #[.int .i64 RR.1.room, .int .i64 RR.1.next, .slice G1 gm1 gc1, .slice G2 gm2 gc2, .slice G3 gm3 gc3]) RR.1) := GW6.out.on hb7
    have T7 : Hid (DiskO w7 b2 (.agg #[.int .i64 RR.1.room, .int .i64 RR.1.next, .slice E1 em1 ec1, .slice E2 em2 ec2, .slice E3 em3 ec3]) RR.1) := TO6.out.on hb7
    have P97 : Hid (Blk w7 p9 #[.int .i64 RR.1.room, .int .i64 RR.1.next, .slice G1 gm1 gc1, .slice G2 gm2 gc2, .slice G3 gm3 gc3] 35) := P9a.out.on hb7 P9a.out.lt
    have P67 : Hid (Blk w7 p6 #[.int .i64 RR.1.room, .int .i64 RR.1.next, .slice E1 em1 ec1, .slice E2 em2 ec2, .slice E3 em3 ec3] 35) := P6b.out.on hb7 P6b.out.lt
    clear hb7 K5 X5 O5 GW6 TO6 P9a P6b
    have TB7 : Hid (Below W3.heap.size W3 w7) := TT6.out.trans (hb7x.out.mono TT6.out.size)
    have S0 : Hid (w7.drew.cell? ⟨px, 0, none⟩ = some (.int .i64 d.room) ∧ w7.drew.cell? ⟨px, 1, none⟩ = some (.int .i64 d.next) ∧ w7.drew.cell? ⟨px, 2, none⟩ = some (.slice A1 m1 c1) ∧ w7.drew.cell? ⟨px, 3, none⟩ = some (.slice A2 m2 c2) ∧ w7.drew.cell? ⟨px, 4, none⟩ = some (.slice A3 m3 c3) ∧ w7.drew.cell? ⟨w.heap.size, 0, none⟩ = some (.int .i64 d.room) ∧ w7.drew.cell? ⟨w.heap.size, 1, none⟩ = some (.int .i64 d.next) ∧ w7.drew.cell? ⟨w.heap.size, 2, none⟩ = some v1 ∧ w7.drew.cell? ⟨w.heap.size, 3, none⟩ = some v2 ∧ w7.drew.cell? ⟨w.heap.size, 4, none⟩ = some v3) := ⟨X7.out.cell 0 _ rfl, X7.out.cell 1 _ rfl, X7.out.cell 2 _ rfl, X7.out.cell 3 _ rfl, X7.out.cell 4 _ rfl, K7.out.cell 0 _ rfl, K7.out.cell 1 _ rfl, K7.out.cell 2 _ rfl, K7.out.cell 3 _ rfl, K7.out.cell 4 _ rfl⟩
    have B7d : Hid (Below w.heap.size w w7.drew) := B7.out.drew
    have cT7 := cT w7.drew (HV.out.on B7d.out) B7d.out.size
    go_wp2_with fail
    go_region_held3 (fun w' => w'.cell? ⟨px, 0, none⟩ = some (.int .i64 d.room) ∧ w'.cell? ⟨px, 1, none⟩ = some (.int .i64 d.next) ∧ w'.cell? ⟨px, 2, none⟩ = some (.slice A1 m1 c1) ∧ w'.cell? ⟨px, 3, none⟩ = some (.slice A2 m2 c2) ∧ w'.cell? ⟨px, 4, none⟩ = some (.slice A3 m3 c3) ∧ w'.cell? ⟨w.heap.size, 0, none⟩ = some (.int .i64 d.room) ∧ w'.cell? ⟨w.heap.size, 1, none⟩ = some (.int .i64 d.next) ∧ w'.cell? ⟨w.heap.size, 2, none⟩ = some v1 ∧ w'.cell? ⟨w.heap.size, 3, none⟩ = some v2 ∧ w'.cell? ⟨w.heap.size, 4, none⟩ = some v3) (first | exact S0.out | exact S2.out | exact S3'.out)
      ((first | (go_at_call 7; refine cT7.mono ?_; rintro e w8 ⟨y, rfl, hO8, hb8⟩; have S2 : Hid (w8.cell? ⟨px, 0, none⟩ = some (.int .i64 d.room) ∧ w8.cell? ⟨px, 1, none⟩ = some (.int .i64 d.next) ∧ w8.cell? ⟨px, 2, none⟩ = some (.slice A1 m1 c1) ∧ w8.cell? ⟨px, 3, none⟩ = some (.slice A2 m2 c2) ∧ w8.cell? ⟨px, 4, none⟩ = some (.slice A3 m3 c3) ∧ w8.cell? ⟨w.heap.size, 0, none⟩ = some (.int .i64 d.room) ∧ w8.cell? ⟨w.heap.size, 1, none⟩ = some (.int .i64 d.next) ∧ w8.cell? ⟨w.heap.size, 2, none⟩ = some v1 ∧ w8.cell? ⟨w.heap.size, 3, none⟩ = some v2 ∧ w8.cell? ⟨w.heap.size, 4, none⟩ = some v3) := ⟨(Blk.on (w := w7.drew) X7.out hb8 X7.out.lt).cell 0 _ rfl, (Blk.on (w := w7.drew) X7.out hb8 X7.out.lt).cell 1 _ rfl, (Blk.on (w := w7.drew) X7.out hb8 X7.out.lt).cell 2 _ rfl, (Blk.on (w := w7.drew) X7.out hb8 X7.out.lt).cell 3 _ rfl, (Blk.on (w := w7.drew) X7.out hb8 X7.out.lt).cell 4 _ rfl, (Blk.on (w := w7.drew) K7.out hb8 K7.out.lt).cell 0 _ rfl, (Blk.on (w := w7.drew) K7.out hb8 K7.out.lt).cell 1 _ rfl, (Blk.on (w := w7.drew) K7.out hb8 K7.out.lt).cell 2 _ rfl, (Blk.on (w := w7.drew) K7.out hb8 K7.out.lt).cell 3 _ rfl, (Blk.on (w := w7.drew) K7.out hb8 K7.out.lt).cell 4 _ rfl⟩; have O8 : Hid (DiskO w8 w7.heap.size y d) := hO8; have BX8 : Hid (Below w7.heap.size w7 w8) := (Below.refl _ w7).drew.trans hb8; clear hO8) | (go_at_call 10; refine (eqDisk d _ _ w8 w8.heap.size (O7.out.on BX8.out).look O8.out.look HW.out (Nat.le_refl _)).mono ?_; rintro e w9 ⟨rfl, hb9⟩; have S3' : Hid (w9.cell? ⟨px, 0, none⟩ = some (.int .i64 d.room) ∧ w9.cell? ⟨px, 1, none⟩ = some (.int .i64 d.next) ∧ w9.cell? ⟨px, 2, none⟩ = some (.slice A1 m1 c1) ∧ w9.cell? ⟨px, 3, none⟩ = some (.slice A2 m2 c2) ∧ w9.cell? ⟨px, 4, none⟩ = some (.slice A3 m3 c3) ∧ w9.cell? ⟨w.heap.size, 0, none⟩ = some (.int .i64 d.room) ∧ w9.cell? ⟨w.heap.size, 1, none⟩ = some (.int .i64 d.next) ∧ w9.cell? ⟨w.heap.size, 2, none⟩ = some v1 ∧ w9.cell? ⟨w.heap.size, 3, none⟩ = some v2 ∧ w9.cell? ⟨w.heap.size, 4, none⟩ = some v3) := ⟨((X7.out.on BX8.out X7.out.lt).on hb9 (X7.out.on BX8.out X7.out.lt).lt).cell 0 _ rfl, ((X7.out.on BX8.out X7.out.lt).on hb9 (X7.out.on BX8.out X7.out.lt).lt).cell 1 _ rfl, ((X7.out.on BX8.out X7.out.lt).on hb9 (X7.out.on BX8.out X7.out.lt).lt).cell 2 _ rfl, ((X7.out.on BX8.out X7.out.lt).on hb9 (X7.out.on BX8.out X7.out.lt).lt).cell 3 _ rfl, ((X7.out.on BX8.out X7.out.lt).on hb9 (X7.out.on BX8.out X7.out.lt).lt).cell 4 _ rfl, ((K7.out.on BX8.out K7.out.lt).on hb9 (K7.out.on BX8.out K7.out.lt).lt).cell 0 _ rfl, ((K7.out.on BX8.out K7.out.lt).on hb9 (K7.out.on BX8.out K7.out.lt).lt).cell 1 _ rfl, ((K7.out.on BX8.out K7.out.lt).on hb9 (K7.out.on BX8.out K7.out.lt).lt).cell 2 _ rfl, ((K7.out.on BX8.out K7.out.lt).on hb9 (K7.out.on BX8.out K7.out.lt).lt).cell 3 _ rfl, ((K7.out.on BX8.out K7.out.lt).on hb9 (K7.out.on BX8.out K7.out.lt).lt).cell 4 _ rfl⟩)))
    have hb97 : Below w7.heap.size w7 w9 := BX8.out.trans (hb9.mono BX8.out.size)
    have B9 : Hid (Below w.heap.size w w9) := B7.out.trans (hb97.mono B7.out.size)
    have K9 : Hid (Blk w9 w.heap.size #[.int .i64 d.room, .int .i64 d.next, v1, v2, v3] 26) := K7.out.on hb97 K7.out.lt
    have J9 : Hid (Blk w9 (w.heap.size + 1) #[.int .i64 k, .string n, .string t, .string x] 28) := J7.out.on hb97 J7.out.lt
    have X9 : Hid (Blk w9 px #[.int .i64 d.room, .int .i64 d.next, .slice A1 m1 c1, .slice A2 m2 c2, .slice A3 m3 c3] 35) := X7.out.on hb97 X7.out.lt
    have O9 := O7.out.on hb97
    have G9 : Hid (DiskO w9 W5.heap.size (.agg #[.int .i64 RR.1.room, .int .i64 RR.1.next, .slice G1 gm1 gc1, .slice G2 gm2 gc2, .slice G3 gm3 gc3]) RR.1) := G7.out.on hb97
    have P99 : Hid (Blk w9 p9 #[.int .i64 RR.1.room, .int .i64 RR.1.next, .slice G1 gm1 gc1, .slice G2 gm2 gc2, .slice G3 gm3 gc3] 35) := P97.out.on hb97 P97.out.lt
    have P69 : Hid (Blk w9 p6 #[.int .i64 RR.1.room, .int .i64 RR.1.next, .slice E1 em1 ec1, .slice E2 em2 ec2, .slice E3 em3 ec3] 35) := P67.out.on hb97 P67.out.lt
    have TB9 : Hid (Below W3.heap.size W3 w9) := TB7.out.trans (hb97.mono TB7.out.size)
    have Z59 : Hid (W5.heap.size ≤ w9.heap.size) := Nat.le_trans TW6.out.size (Nat.le_trans hb7x.out.size hb97.size)
    have WT : Hid (d.nods.length ≤ 1048576 ∧ d.dir.length ≤ 1048576 ∧ d.movs.length ≤ 1048576) := by
      have := HW.out
      unfold wtD at this
      unfold Hid
      omega
    have KL3 : Hid (w.heap.size < W3.heap.size) := KL30.out
    have PL6 : Hid (p6 < W3.heap.size) := P6a.out.lt
    have W35 : Hid (W3.heap.size ≤ W5.heap.size) := T5.out.size
    obtain ⟨y1', y2', y3', e', o1, o2, o3⟩ := O9
    cases e'
    have cM := markDisk 1 W3.heap.size px d.room d.next _ _ _ (nodR d.nods) (lnkR d.dir) (movR d.movs) w9 ⟨o1, o2, o3, XR1.out, XR2.out, XR3.out⟩ (by rw [nodR_length]; exact WT.out.1) (by rw [lnkR_length]; exact WT.out.2.1) (by rw [movR_length]; exact WT.out.2.2) (Nat.le_refl _) (by omega) (Nat.le_trans W35.out Z59.out)
    generalize hKK : (1 + 3 * (nodR d.nods).length + 2 * (lnkR d.dir).length + 4 * (movR d.movs).length : Nat) = KK at *
    have qK : (KK : Int) ≤ 10000000 := by
      rw [nodR_length, lnkR_length, movR_length] at hKK
      have := WT.out
      omega
    have qK0 : decide ((KK : Int) < 0) = false := decide_eq_false (by omega)
    clear S0 S2 S3' hb9 hb97 O8 BX8 K7 X7 G7 P97 P67 T7 O7 o1 o2 o3 B7d cT7 hKK
    have x0 := X9.out.cell 0 _ rfl
    have x1 := X9.out.cell 1 _ rfl
    have x2 := X9.out.cell 2 _ rfl
    have x3 := X9.out.cell 3 _ rfl
    have x4 := X9.out.cell 4 _ rfl
    go_wp2_with fail
    refine cM.mono ?_
    rintro e w10 ⟨rfl, _, hb10, hk10⟩
    have B10 : Hid (Below w.heap.size w w10) := B9.out.trans (hb10.mono (Nat.le_of_lt KL3.out))
    have K10 : Hid (Blk w10 w.heap.size #[.int .i64 d.room, .int .i64 d.next, v1, v2, v3] 26) := K9.out.on hb10 KL3.out
    have J10 : Hid (Blk w10 (w.heap.size + 1) #[.int .i64 k, .string n, .string t, .string x] 28) := J9.out.on hb10 JL3.out
    have P610 : Hid (Blk w10 p6 #[.int .i64 RR.1.room, .int .i64 RR.1.next, .slice E1 em1 ec1, .slice E2 em2 ec2, .slice E3 em3 ec3] 35) := P69.out.on hb10 PL6.out
    have TB10 : Hid (Below W3.heap.size W3 w10) := TB9.out.trans hb10
    have T10 : Hid (DiskO w10 b2 (.agg #[.int .i64 RR.1.room, .int .i64 RR.1.next, .slice E1 em1 ec1, .slice E2 em2 ec2, .slice E3 em3 ec3]) RR.1) := TW3.out.on TB10.out
    have G10 : Hid (DiskO w10 W5.heap.size (.agg #[.int .i64 RR.1.room, .int .i64 RR.1.next, .slice G1 gm1 gc1, .slice G2 gm2 gc2, .slice G3 gm3 gc3]) RR.1) := G9.out.above fun g h1 h2 => hk10 g (by have := PX.out; omega) h2
    have P910 : Hid (Blk w10 p9 #[.int .i64 RR.1.room, .int .i64 RR.1.next, .slice G1 gm1 gc1, .slice G2 gm2 gc2, .slice G3 gm3 gc3] 35) := by
      have h1 := hk10 p9 (by have := PX.out; have := GL.out; omega) P99.out.lt
      unfold Hid Blk
      rw [h1]
      exact P99.out
    have Z510 : Hid (W5.heap.size ≤ w10.heap.size) := Nat.le_trans Z59.out hb10.size
    clear cM hb10 hk10 x0 x1 x2 x3 x4 B9 K9 X9 G9 P99 P69 TB9
    have g0 := P910.out.cell 0 _ rfl
    have g1 := P910.out.cell 1 _ rfl
    have g2 := P910.out.cell 2 _ rfl
    have g3 := P910.out.cell 3 _ rfl
    have g4 := P910.out.cell 4 _ rfl
    have s0 := P610.out.cell 0 _ rfl
    have s1 := P610.out.cell 1 _ rfl
    have s2 := P610.out.cell 2 _ rfl
    have s3 := P610.out.cell 3 _ rfl
    have s4 := P610.out.cell 4 _ rfl
    have cE := eqDiskL RR.1 _ _ w10 w10.heap.size G10.out.look T10.out.look (by have := LR.out; omega) (by have := LR.out; omega) (by have := LR.out; omega) (Nat.le_refl _)
    go_wp2_with fail
    refine cE.mono ?_
    rintro e w11 ⟨rfl, hb11⟩
    have B11 : Hid (Below w.heap.size w w11) := B10.out.trans (hb11.mono B10.out.size)
    have K11 : Hid (Blk w11 w.heap.size #[.int .i64 d.room, .int .i64 d.next, v1, v2, v3] 26) := K10.out.on hb11 K10.out.lt
    have J11 : Hid (Blk w11 (w.heap.size + 1) #[.int .i64 k, .string n, .string t, .string x] 28) := J10.out.on hb11 J10.out.lt
    have P611 : Hid (Blk w11 p6 #[.int .i64 RR.1.room, .int .i64 RR.1.next, .slice E1 em1 ec1, .slice E2 em2 ec2, .slice E3 em3 ec3] 35) := P610.out.on hb11 P610.out.lt
    have TB11 : Hid (Below W3.heap.size W3 w11) := TB10.out.trans (hb11.mono TB10.out.size)
    have G11 := G10.out.on hb11
    have P911 : Hid (Blk w11 p9 #[.int .i64 RR.1.room, .int .i64 RR.1.next, .slice G1 gm1 gc1, .slice G2 gm2 gc2, .slice G3 gm3 gc3] 35) := P910.out.on hb11 P910.out.lt
    have Z511 : Hid (W5.heap.size ≤ w11.heap.size) := Nat.le_trans Z510.out hb11.size
    obtain ⟨y1', y2', y3', e', o1, o2, o3⟩ := G11
    cases e'
    have NB : Hid ((Value.slice G1 gm1 gc1).ownBlock ≠ some p9 ∧ (Value.slice G2 gm2 gc2).ownBlock ≠ some p9 ∧ (Value.slice G3 gm3 gc3).ownBlock ≠ some p9) := ⟨o1.notBlk P911.out (by decide), o2.notBlk P911.out (by decide), o3.notBlk P911.out (by decide)⟩
    have cM := markDiskN 1 W5.heap.size cz RR.1.room RR.1.next _ _ _ (nodR RR.1.nods) (lnkR RR.1.dir) (movR RR.1.movs) w11 ⟨o1, o2, o3, GR1.out, GR2.out, GR3.out⟩ (by rw [nodR_length]; have := LR.out; omega) (by rw [lnkR_length]; have := LR.out; omega) (by rw [movR_length]; have := LR.out; omega) (Nat.le_refl _) (by omega) Z511.out
    have cH := fun wx h1 h2 h3 => heldDisk 1 (nodR RR.1.nods).length (lnkR RR.1.dir).length (movR RR.1.movs).length RR.1.room RR.1.next (.slice G1 gm1 gc1) (.slice G2 gm2 gc2) (.slice G3 gm3 gc3) wx wx.heap.size h1 h2 h3 (by rw [nodR_length]; have := LR.out; omega) (by rw [lnkR_length]; have := LR.out; omega) (by rw [movR_length]; have := LR.out; omega) (Nat.le_refl _) (by omega) (Nat.le_refl _)
    generalize hMM : (1 + 3 * (nodR RR.1.nods).length + 2 * (lnkR RR.1.dir).length + 4 * (movR RR.1.movs).length : Nat) = MM at *
    have qM : (MM : Int) ≤ 10000000 := by
      rw [nodR_length, lnkR_length, movR_length] at hMM
      have := LR.out
      omega
    have qM0 : decide ((MM : Int) < 0) = false := decide_eq_false (by omega)
    have nM : ((MM : Int) != (MM : Int)) = false := by simp
    clear cE hb11 o1 o2 o3 hMM B10 K10 P610 TB10 T10 G10 P910 g0 g1 g2 g3 g4 s0 s1 s2 s3 s4
    have g0 := P911.out.cell 0 _ rfl
    have g1 := P911.out.cell 1 _ rfl
    have g2 := P911.out.cell 2 _ rfl
    have g3 := P911.out.cell 3 _ rfl
    have g4 := P911.out.cell 4 _ rfl
    go_wp2_with fail
    refine cM.mono ?_
    rintro e w12 ⟨rfl, hR12, hb12, hk12⟩
    have B12 : Hid (Below w.heap.size w w12) := B11.out.trans (hb12.mono (Nat.le_trans (Nat.le_of_lt KL3.out) W35.out))
    have K12 : Hid (Blk w12 w.heap.size #[.int .i64 d.room, .int .i64 d.next, v1, v2, v3] 26) := K11.out.on hb12 (Nat.lt_of_lt_of_le KL3.out W35.out)
    have J12 : Hid (Blk w12 (w.heap.size + 1) #[.int .i64 k, .string n, .string t, .string x] 28) := J11.out.on hb12 (Nat.lt_of_lt_of_le JL3.out W35.out)
    have P612 : Hid (Blk w12 p6 #[.int .i64 RR.1.room, .int .i64 RR.1.next, .slice E1 em1 ec1, .slice E2 em2 ec2, .slice E3 em3 ec3] 35) := P611.out.on hb12 (Nat.lt_of_lt_of_le PL6.out W35.out)
    have TB12 : Hid (Below W3.heap.size W3 w12) := TB11.out.trans (hb12.mono W35.out)
    have P912 : Hid (Blk w12 p9 #[.int .i64 RR.1.room, .int .i64 RR.1.next, .slice G1 gm1 gc1, .slice G2 gm2 gc2, .slice G3 gm3 gc3] 35) := by
      have h1 := hk12 p9 NB.out P911.out.lt
      unfold Hid Blk
      rw [h1]
      exact P911.out
    have R12 := hR12
    generalize newR (mkNod 1) (nodR RR.1.nods).length = N1 at *
    generalize newR (mkLnk (1 + 3 * (nodR RR.1.nods).length)) (lnkR RR.1.dir).length = N2 at *
    generalize newR (mkMov (1 + 3 * (nodR RR.1.nods).length + 2 * (lnkR RR.1.dir).length)) (movR RR.1.movs).length = N3 at *
    have HR12 : Hid (Rows3 w12 W5.heap.size cz (.slice G1 gm1 gc1) (.slice G2 gm2 gc2) (.slice G3 gm3 gc3) N1 N2 N3) := R12
    clear cM hb12 hk12 R12 hR12 B11 K11 P611 TB11 P911 g0 g1 g2 g3 g4
    have g0 := P912.out.cell 0 _ rfl
    have g1 := P912.out.cell 1 _ rfl
    have g2 := P912.out.cell 2 _ rfl
    have g3 := P912.out.cell 3 _ rfl
    have g4 := P912.out.cell 4 _ rfl
    go_wp2_with fail
    refine (cH w12 HR12.out.o1.lies HR12.out.o2.lies HR12.out.o3.lies).mono ?_
    rintro e w13 ⟨rfl, hb13⟩
    have B13 : Hid (Below w.heap.size w w13) := B12.out.trans (hb13.mono B12.out.size)
    have K13 : Hid (Blk w13 w.heap.size #[.int .i64 d.room, .int .i64 d.next, v1, v2, v3] 26) := K12.out.on hb13 K12.out.lt
    have J13 : Hid (Blk w13 (w.heap.size + 1) #[.int .i64 k, .string n, .string t, .string x] 28) := J12.out.on hb13 J12.out.lt
    have P613 : Hid (Blk w13 p6 #[.int .i64 RR.1.room, .int .i64 RR.1.next, .slice E1 em1 ec1, .slice E2 em2 ec2, .slice E3 em3 ec3] 35) := P612.out.on hb13 P612.out.lt
    have TB13 : Hid (Below W3.heap.size W3 w13) := TB12.out.trans (hb13.mono TB12.out.size)
    have P913 : Hid (Blk w13 p9 #[.int .i64 RR.1.room, .int .i64 RR.1.next, .slice G1 gm1 gc1, .slice G2 gm2 gc2, .slice G3 gm3 gc3] 35) := P912.out.on hb13 P912.out.lt
    have HR13 : Hid (Rows3 w13 W5.heap.size cz (.slice G1 gm1 gc1) (.slice G2 gm2 gc2) (.slice G3 gm3 gc3) N1 N2 N3) := HR12.out.on hb13
    clear hb13 B12 K12 P612 TB12 P912 HR12 g0 g1 g2 g3 g4
    go_wp2_with fail
    go_cut [14, 15] from 16 to 108 (fun sa sb wx => ∃ p Q1 qm1 qc1 Q2 qm2 qc2 Q3 qm3 qc3, sa = .pointer (some ⟨p, 0, none⟩) ∧ sb = .int .i64 RR.2 ∧ Below w13.heap.size w13 wx ∧ DiskO wx w13.heap.size (.agg #[.int .i64 RR.1.room, .int .i64 RR.1.next, .slice Q1 qm1 qc1, .slice Q2 qm2 qc2, .slice Q3 qm3 qc3]) RR.1 ∧ Blk wx p #[.int .i64 RR.1.room, .int .i64 RR.1.next, .slice Q1 qm1 qc1, .slice Q2 qm2 qc2, .slice Q3 qm3 qc3] 35 ∧ w13.heap.size ≤ p)
    case first =>
      refine wp_region_until (fun w' => w'.cell? ⟨w.heap.size, 0, none⟩ = some (.int .i64 d.room) ∧ w'.cell? ⟨w.heap.size, 1, none⟩ = some (.int .i64 d.next) ∧ w'.cell? ⟨w.heap.size, 2, none⟩ = some (v1) ∧ w'.cell? ⟨w.heap.size, 3, none⟩ = some (v2) ∧ w'.cell? ⟨w.heap.size, 4, none⟩ = some (v3) ∧ w'.cell? ⟨w.heap.size + 1, 0, none⟩ = some (.int .i64 k) ∧ w'.cell? ⟨w.heap.size + 1, 1, none⟩ = some (.string n) ∧ w'.cell? ⟨w.heap.size + 1, 2, none⟩ = some (.string t) ∧ w'.cell? ⟨w.heap.size + 1, 3, none⟩ = some (.string x)) (fun i => i == 9) 11 (by rfl) (by kernel_rfl) ?_
      have VrcX : Hid (Below w13.heap.size w13 w13.drew) := (Below.refl _ _).drew
      generalize w13.drew = rcX at *
      have S0 : Hid (rcX.cell? ⟨w.heap.size, 0, none⟩ = some (.int .i64 d.room) ∧ rcX.cell? ⟨w.heap.size, 1, none⟩ = some (.int .i64 d.next) ∧ rcX.cell? ⟨w.heap.size, 2, none⟩ = some (v1) ∧ rcX.cell? ⟨w.heap.size, 3, none⟩ = some (v2) ∧ rcX.cell? ⟨w.heap.size, 4, none⟩ = some (v3) ∧ rcX.cell? ⟨w.heap.size + 1, 0, none⟩ = some (.int .i64 k) ∧ rcX.cell? ⟨w.heap.size + 1, 1, none⟩ = some (.string n) ∧ rcX.cell? ⟨w.heap.size + 1, 2, none⟩ = some (.string t) ∧ rcX.cell? ⟨w.heap.size + 1, 3, none⟩ = some (.string x)) := ⟨(K13.out.on VrcX.out K13.out.lt).cell 0 _ rfl, (K13.out.on VrcX.out K13.out.lt).cell 1 _ rfl, (K13.out.on VrcX.out K13.out.lt).cell 2 _ rfl, (K13.out.on VrcX.out K13.out.lt).cell 3 _ rfl, (K13.out.on VrcX.out K13.out.lt).cell 4 _ rfl, (J13.out.on VrcX.out J13.out.lt).cell 0 _ rfl, (J13.out.on VrcX.out J13.out.lt).cell 1 _ rfl, (J13.out.on VrcX.out J13.out.lt).cell 2 _ rfl, (J13.out.on VrcX.out J13.out.lt).cell 3 _ rfl⟩
      refine until_take 0 (v := ?_) (by rfl) (by kernel_rfl) (by exact fun _ _ _ h => h) (by rfl) ?_ S0.out ?_
      rotate_left
      · intro w hSw
        try dsimp only at hSw
        go_simp
        try with_reducible rfl
      try simp only [Act.put, List.setIfInBounds_toArray, List.set_cons_zero, List.set_cons_succ]
      refine until_take 2 (v := ?_) (by rfl) (by kernel_rfl) (by exact fun _ _ _ h => h) (by rfl) ?_ S0.out ?_
      rotate_left
      · intro w hSw
        try dsimp only at hSw
        go_simp
        try with_reducible rfl
      try simp only [Act.put, List.setIfInBounds_toArray, List.set_cons_zero, List.set_cons_succ]
      refine until_two 1 8 (by rfl) (by rfl) (by kernel_rfl) (fun K hK => ?_) (fun K hK => ?_)
      · go_simp
        refine (cT rcX (HV.out.on (B13.out.trans (VrcX.out.mono B13.out.size))) (B13.out.trans (VrcX.out.mono B13.out.size)).size).mono ?_
        rintro e rc22 ⟨urc, rfl, hO, hb⟩
        have Vrc22 : Hid (Below w13.heap.size w13 rc22) := VrcX.out.trans (hb.mono VrcX.out.size)
        have Urc22 : Hid (DiskO rc22 rcX.heap.size urc d) := hO
        clear hb hO
        go_wp2_with fail
        refine hK.out _ _ (fun _ _ => ⟨(K13.out.on Vrc22.out K13.out.lt).cell 0 _ rfl, (K13.out.on Vrc22.out K13.out.lt).cell 1 _ rfl, (K13.out.on Vrc22.out K13.out.lt).cell 2 _ rfl, (K13.out.on Vrc22.out K13.out.lt).cell 3 _ rfl, (K13.out.on Vrc22.out K13.out.lt).cell 4 _ rfl, (J13.out.on Vrc22.out J13.out.lt).cell 0 _ rfl, (J13.out.on Vrc22.out J13.out.lt).cell 1 _ rfl, (J13.out.on Vrc22.out J13.out.lt).cell 2 _ rfl, (J13.out.on Vrc22.out J13.out.lt).cell 3 _ rfl⟩) ?_
        clear hK K
        try simp only [Act.put, List.setIfInBounds_toArray, List.set_cons_zero, List.set_cons_succ]
        refine until_two 3 8 (by rfl) (by rfl) (by kernel_rfl) (fun K hK => ?_) (fun K hK => ?_)
        · go_simp
          refine (cTS rc22).mono ?_
          rintro e rc23 ⟨rfl, hb⟩
          have Vrc23 : Hid (Below w13.heap.size w13 rc23) := Vrc22.out.trans (hb.mono Vrc22.out.size)
          have Urc23 : Hid (DiskO rc23 rcX.heap.size urc d) := Urc22.out.on hb
          clear hb
          go_wp2_with fail
          refine hK.out _ _ (fun _ _ => ⟨(K13.out.on Vrc23.out K13.out.lt).cell 0 _ rfl, (K13.out.on Vrc23.out K13.out.lt).cell 1 _ rfl, (K13.out.on Vrc23.out K13.out.lt).cell 2 _ rfl, (K13.out.on Vrc23.out K13.out.lt).cell 3 _ rfl, (K13.out.on Vrc23.out K13.out.lt).cell 4 _ rfl, (J13.out.on Vrc23.out J13.out.lt).cell 0 _ rfl, (J13.out.on Vrc23.out J13.out.lt).cell 1 _ rfl, (J13.out.on Vrc23.out J13.out.lt).cell 2 _ rfl, (J13.out.on Vrc23.out J13.out.lt).cell 3 _ rfl⟩) ?_
          clear hK K
          try simp only [Act.put, List.setIfInBounds_toArray, List.set_cons_zero, List.set_cons_succ]
          refine until_two 4 8 (by rfl) (by rfl) (by kernel_rfl) (fun K hK => ?_) (fun K hK => ?_)
          · go_simp
            refine (cG rc23 urc Urc23.out.look).mono ?_
            rintro e rc24 ⟨y, rfl, hO, hb⟩
            have Vrc24 : Hid (Below w13.heap.size w13 rc24) := Vrc23.out.trans (hb.mono Vrc23.out.size)
            obtain ⟨s1, s2, s3, rfl, a1, a2, a3⟩ := hO.mono Vrc23.out.size
            obtain ⟨Q1, qm1, qc1, rfl⟩ := a1.shape
            obtain ⟨Q2, qm2, qc2, rfl⟩ := a2.shape
            obtain ⟨Q3, qm3, qc3, rfl⟩ := a3.shape
            have O1rc24 : Hid (Owns rc24 w13.heap.size 76 3 (.slice Q1 qm1 qc1) (nodR RR.1.nods)) := a1
            have O2rc24 : Hid (Owns rc24 w13.heap.size 79 2 (.slice Q2 qm2 qc2) (lnkR RR.1.dir)) := a2
            have O3rc24 : Hid (Owns rc24 w13.heap.size 81 4 (.slice Q3 qm3 qc3) (movR RR.1.movs)) := a3
            clear hb hO a1 a2 a3
            go_wp2_with fail
            refine hK.out _ _ (fun _ _ => ⟨(K13.out.on Vrc24.out K13.out.lt).cell 0 _ rfl, (K13.out.on Vrc24.out K13.out.lt).cell 1 _ rfl, (K13.out.on Vrc24.out K13.out.lt).cell 2 _ rfl, (K13.out.on Vrc24.out K13.out.lt).cell 3 _ rfl, (K13.out.on Vrc24.out K13.out.lt).cell 4 _ rfl, (J13.out.on Vrc24.out J13.out.lt).cell 0 _ rfl, (J13.out.on Vrc24.out J13.out.lt).cell 1 _ rfl, (J13.out.on Vrc24.out J13.out.lt).cell 2 _ rfl, (J13.out.on Vrc24.out J13.out.lt).cell 3 _ rfl⟩) ?_
            clear hK K
            try simp only [Act.put, List.setIfInBounds_toArray, List.set_cons_zero, List.set_cons_succ]
            refine until_pure 5 (v := ?_) (by rfl) (by kernel_rfl) (by exact fun _ _ _ h => h) (by rfl) ?_ ?_
            rotate_left
            · intro w
              go_simp
              try with_reducible rfl
            try simp only [Act.put, List.setIfInBounds_toArray, List.set_cons_zero, List.set_cons_succ]
            refine until_pure 6 (v := ?_) (by rfl) (by kernel_rfl) (by exact fun _ _ _ h => h) (by rfl) ?_ ?_
            rotate_left
            · intro w
              go_simp
              try with_reducible rfl
            try simp only [Act.put, List.setIfInBounds_toArray, List.set_cons_zero, List.set_cons_succ]
            refine until_pure 7 (v := ?_) (by rfl) (by kernel_rfl) (by exact fun _ _ _ h => h) (by rfl) ?_ ?_
            rotate_left
            · intro w
              go_simp
              try with_reducible rfl
            try simp only [Act.put, List.setIfInBounds_toArray, List.set_cons_zero, List.set_cons_succ]
            refine until_one 8 (by rfl) (by kernel_rfl) (fun K hK => ?_)
            go_simp
            have zk := Blk.new rc24 #[.int .i64 0, .int .i64 0, .slice none 0 0, .slice none 0 0, .slice none 0 0] 35
            have bz : Below rc24.heap.size rc24 (rc24.alloc (.cells #[.int .i64 0, .int .i64 0, .slice none 0 0, .slice none 0 0, .slice none 0 0] 35)) := (Below.refl _ _).alloc (Nat.le_refl _) _
            have pl : Hid (w13.heap.size ≤ rc24.heap.size) := Vrc24.out.size
            generalize rc24.alloc (.cells #[.int .i64 0, .int .i64 0, .slice none 0 0, .slice none 0 0, .slice none 0 0] 35) = rc25 at *
            have Vrc25 : Hid (Below w13.heap.size w13 rc25) := Vrc24.out.trans (bz.mono Vrc24.out.size)
            have O1rc25 : Hid (Owns rc25 w13.heap.size 76 3 (.slice Q1 qm1 qc1) (nodR RR.1.nods)) := O1rc24.out.on bz
            have O2rc25 : Hid (Owns rc25 w13.heap.size 79 2 (.slice Q2 qm2 qc2) (lnkR RR.1.dir)) := O2rc24.out.on bz
            have O3rc25 : Hid (Owns rc25 w13.heap.size 81 4 (.slice Q3 qm3 qc3) (movR RR.1.movs)) := O3rc24.out.on bz
            have Zrc25 : Hid (Blk rc25 rc24.heap.size #[.int .i64 0, .int .i64 0, .slice none 0 0, .slice none 0 0, .slice none 0 0] 35) := zk
            clear zk bz
            refine hK.out _ _ (fun _ _ => ⟨(K13.out.on Vrc25.out K13.out.lt).cell 0 _ rfl, (K13.out.on Vrc25.out K13.out.lt).cell 1 _ rfl, (K13.out.on Vrc25.out K13.out.lt).cell 2 _ rfl, (K13.out.on Vrc25.out K13.out.lt).cell 3 _ rfl, (K13.out.on Vrc25.out K13.out.lt).cell 4 _ rfl, (J13.out.on Vrc25.out J13.out.lt).cell 0 _ rfl, (J13.out.on Vrc25.out J13.out.lt).cell 1 _ rfl, (J13.out.on Vrc25.out J13.out.lt).cell 2 _ rfl, (J13.out.on Vrc25.out J13.out.lt).cell 3 _ rfl⟩) ?_
            clear hK K
            try simp only [Act.put, List.setIfInBounds_toArray, List.set_cons_zero, List.set_cons_succ]
            have hp := put_disk O1rc25.out O2rc25.out O3rc25.out Zrc25.out
            have hv := (((((Vrc25.out.setCell pl.out (.int .i64 RR.1.room) (p := ⟨_, 0, none⟩)).setCell pl.out (.int .i64 RR.1.next) (p := ⟨_, 1, none⟩)).setCell pl.out (.slice Q1 qm1 qc1) (p := ⟨_, 2, none⟩)).setCell pl.out (.slice Q2 qm2 qc2) (p := ⟨_, 3, none⟩)).setCell pl.out (.slice Q3 qm3 qc3) (p := ⟨_, 4, none⟩))
            have r0 := Zrc25.out.cell 0 _ rfl
            have f0 := Zrc25.out.free 0
            have r1 := Zrc25.out.cell 1 _ rfl
            have f1 := Zrc25.out.free 1
            have r2 := Zrc25.out.cell 2 _ rfl
            have f2 := Zrc25.out.free 2
            have r3 := Zrc25.out.cell 3 _ rfl
            have f3 := Zrc25.out.free 3
            have r4 := Zrc25.out.cell 4 _ rfl
            have f4 := Zrc25.out.free 4
            refine until_one 9 (by rfl) (by kernel_rfl) (fun K hK => ?_)
            go_simp
            try go_wp2_with fail
            clear r0 f0 r1 f1 r2 f2 r3 f3 r4 f4
            generalize (((((rc25.setCell ⟨rc24.heap.size, 0, none⟩ (.int .i64 RR.1.room)).setCell ⟨rc24.heap.size, 1, none⟩ (.int .i64 RR.1.next)).setCell ⟨rc24.heap.size, 2, none⟩ (.slice Q1 qm1 qc1)).setCell ⟨rc24.heap.size, 3, none⟩ (.slice Q2 qm2 qc2)).setCell ⟨rc24.heap.size, 4, none⟩ (.slice Q3 qm3 qc3)) = WF at *
            refine hK.out _ _ (fun h => by cases h) ?_
            clear hK K
            try simp only [Act.put, List.setIfInBounds_toArray, List.set_cons_zero, List.set_cons_succ]
            refine until_pure 10 (v := ?_) (by rfl) (by kernel_rfl) (by exact fun _ _ _ h => h) (by rfl) ?_ ?_
            rotate_left
            · intro w
              go_simp
              try with_reducible rfl
            try simp only [Act.put, List.setIfInBounds_toArray, List.set_cons_zero, List.set_cons_succ]
            refine until_done (by kernel_rfl) ?_ _
            try go_wp2_with fail
            go_meet
            case rel =>
              exact ⟨rc24.heap.size, _, _, _, _, _, _, _, _, _, rfl, rfl, hv, hp.1, hp.2, pl.out⟩
          · go_simp
            have zk := Blk.new rc23 #[.int .i64 0, .int .i64 0, .slice none 0 0, .slice none 0 0, .slice none 0 0] 35
            have bz : Below rc23.heap.size rc23 (rc23.alloc (.cells #[.int .i64 0, .int .i64 0, .slice none 0 0, .slice none 0 0, .slice none 0 0] 35)) := (Below.refl _ _).alloc (Nat.le_refl _) _
            have pl : Hid (w13.heap.size ≤ rc23.heap.size) := Vrc23.out.size
            generalize rc23.alloc (.cells #[.int .i64 0, .int .i64 0, .slice none 0 0, .slice none 0 0, .slice none 0 0] 35) = rc26 at *
            have Vrc26 : Hid (Below w13.heap.size w13 rc26) := Vrc23.out.trans (bz.mono Vrc23.out.size)
            have Urc26 : Hid (DiskO rc26 rcX.heap.size urc d) := Urc23.out.on bz
            have Zrc26 : Hid (Blk rc26 rc23.heap.size #[.int .i64 0, .int .i64 0, .slice none 0 0, .slice none 0 0, .slice none 0 0] 35) := zk
            clear zk bz
            refine hK.out _ _ (fun _ _ => ⟨(K13.out.on Vrc26.out K13.out.lt).cell 0 _ rfl, (K13.out.on Vrc26.out K13.out.lt).cell 1 _ rfl, (K13.out.on Vrc26.out K13.out.lt).cell 2 _ rfl, (K13.out.on Vrc26.out K13.out.lt).cell 3 _ rfl, (K13.out.on Vrc26.out K13.out.lt).cell 4 _ rfl, (J13.out.on Vrc26.out J13.out.lt).cell 0 _ rfl, (J13.out.on Vrc26.out J13.out.lt).cell 1 _ rfl, (J13.out.on Vrc26.out J13.out.lt).cell 2 _ rfl, (J13.out.on Vrc26.out J13.out.lt).cell 3 _ rfl⟩) ?_
            clear hK K
            try simp only [Act.put, List.setIfInBounds_toArray, List.set_cons_zero, List.set_cons_succ]
            refine until_one 4 (by rfl) (by kernel_rfl) (fun K hK => ?_)
            go_simp
            refine (cG rc26 urc Urc26.out.look).mono ?_
            rintro e rc27 ⟨y, rfl, hO, hb⟩
            have Vrc27 : Hid (Below w13.heap.size w13 rc27) := Vrc26.out.trans (hb.mono Vrc26.out.size)
            have Zrc27 : Hid (Blk rc27 rc23.heap.size #[.int .i64 0, .int .i64 0, .slice none 0 0, .slice none 0 0, .slice none 0 0] 35) := Zrc26.out.on hb Zrc26.out.lt
            obtain ⟨s1, s2, s3, rfl, a1, a2, a3⟩ := hO.mono Vrc26.out.size
            obtain ⟨Q1, qm1, qc1, rfl⟩ := a1.shape
            obtain ⟨Q2, qm2, qc2, rfl⟩ := a2.shape
            obtain ⟨Q3, qm3, qc3, rfl⟩ := a3.shape
            have O1rc27 : Hid (Owns rc27 w13.heap.size 76 3 (.slice Q1 qm1 qc1) (nodR RR.1.nods)) := a1
            have O2rc27 : Hid (Owns rc27 w13.heap.size 79 2 (.slice Q2 qm2 qc2) (lnkR RR.1.dir)) := a2
            have O3rc27 : Hid (Owns rc27 w13.heap.size 81 4 (.slice Q3 qm3 qc3) (movR RR.1.movs)) := a3
            clear hb hO a1 a2 a3
            go_wp2_with fail
            refine hK.out _ _ (fun _ _ => ⟨(K13.out.on Vrc27.out K13.out.lt).cell 0 _ rfl, (K13.out.on Vrc27.out K13.out.lt).cell 1 _ rfl, (K13.out.on Vrc27.out K13.out.lt).cell 2 _ rfl, (K13.out.on Vrc27.out K13.out.lt).cell 3 _ rfl, (K13.out.on Vrc27.out K13.out.lt).cell 4 _ rfl, (J13.out.on Vrc27.out J13.out.lt).cell 0 _ rfl, (J13.out.on Vrc27.out J13.out.lt).cell 1 _ rfl, (J13.out.on Vrc27.out J13.out.lt).cell 2 _ rfl, (J13.out.on Vrc27.out J13.out.lt).cell 3 _ rfl⟩) ?_
            clear hK K
            try simp only [Act.put, List.setIfInBounds_toArray, List.set_cons_zero, List.set_cons_succ]
            refine until_pure 5 (v := ?_) (by rfl) (by kernel_rfl) (by exact fun _ _ _ h => h) (by rfl) ?_ ?_
            rotate_left
            · intro w
              go_simp
              try with_reducible rfl
            try simp only [Act.put, List.setIfInBounds_toArray, List.set_cons_zero, List.set_cons_succ]
            refine until_pure 6 (v := ?_) (by rfl) (by kernel_rfl) (by exact fun _ _ _ h => h) (by rfl) ?_ ?_
            rotate_left
            · intro w
              go_simp
              try with_reducible rfl
            try simp only [Act.put, List.setIfInBounds_toArray, List.set_cons_zero, List.set_cons_succ]
            refine until_pure 7 (v := ?_) (by rfl) (by kernel_rfl) (by exact fun _ _ _ h => h) (by rfl) ?_ ?_
            rotate_left
            · intro w
              go_simp
              try with_reducible rfl
            try simp only [Act.put, List.setIfInBounds_toArray, List.set_cons_zero, List.set_cons_succ]
            have hp := put_disk O1rc27.out O2rc27.out O3rc27.out Zrc27.out
            have hv := (((((Vrc27.out.setCell pl.out (.int .i64 RR.1.room) (p := ⟨_, 0, none⟩)).setCell pl.out (.int .i64 RR.1.next) (p := ⟨_, 1, none⟩)).setCell pl.out (.slice Q1 qm1 qc1) (p := ⟨_, 2, none⟩)).setCell pl.out (.slice Q2 qm2 qc2) (p := ⟨_, 3, none⟩)).setCell pl.out (.slice Q3 qm3 qc3) (p := ⟨_, 4, none⟩))
            have r0 := Zrc27.out.cell 0 _ rfl
            have f0 := Zrc27.out.free 0
            have r1 := Zrc27.out.cell 1 _ rfl
            have f1 := Zrc27.out.free 1
            have r2 := Zrc27.out.cell 2 _ rfl
            have f2 := Zrc27.out.free 2
            have r3 := Zrc27.out.cell 3 _ rfl
            have f3 := Zrc27.out.free 3
            have r4 := Zrc27.out.cell 4 _ rfl
            have f4 := Zrc27.out.free 4
            refine until_one 9 (by rfl) (by kernel_rfl) (fun K hK => ?_)
            go_simp
            try go_wp2_with fail
            clear r0 f0 r1 f1 r2 f2 r3 f3 r4 f4
            generalize (((((rc27.setCell ⟨rc23.heap.size, 0, none⟩ (.int .i64 RR.1.room)).setCell ⟨rc23.heap.size, 1, none⟩ (.int .i64 RR.1.next)).setCell ⟨rc23.heap.size, 2, none⟩ (.slice Q1 qm1 qc1)).setCell ⟨rc23.heap.size, 3, none⟩ (.slice Q2 qm2 qc2)).setCell ⟨rc23.heap.size, 4, none⟩ (.slice Q3 qm3 qc3)) = WF at *
            refine hK.out _ _ (fun h => by cases h) ?_
            clear hK K
            try simp only [Act.put, List.setIfInBounds_toArray, List.set_cons_zero, List.set_cons_succ]
            refine until_pure 10 (v := ?_) (by rfl) (by kernel_rfl) (by exact fun _ _ _ h => h) (by rfl) ?_ ?_
            rotate_left
            · intro w
              go_simp
              try with_reducible rfl
            try simp only [Act.put, List.setIfInBounds_toArray, List.set_cons_zero, List.set_cons_succ]
            refine until_done (by kernel_rfl) ?_ _
            try go_wp2_with fail
            go_meet
            case rel =>
              exact ⟨rc23.heap.size, _, _, _, _, _, _, _, _, _, rfl, rfl, hv, hp.1, hp.2, pl.out⟩
        · go_simp
          have zk := Blk.new rc22 #[.int .i64 0, .int .i64 0, .slice none 0 0, .slice none 0 0, .slice none 0 0] 35
          have bz : Below rc22.heap.size rc22 (rc22.alloc (.cells #[.int .i64 0, .int .i64 0, .slice none 0 0, .slice none 0 0, .slice none 0 0] 35)) := (Below.refl _ _).alloc (Nat.le_refl _) _
          have pl : Hid (w13.heap.size ≤ rc22.heap.size) := Vrc22.out.size
          generalize rc22.alloc (.cells #[.int .i64 0, .int .i64 0, .slice none 0 0, .slice none 0 0, .slice none 0 0] 35) = rc28 at *
          have Vrc28 : Hid (Below w13.heap.size w13 rc28) := Vrc22.out.trans (bz.mono Vrc22.out.size)
          have Urc28 : Hid (DiskO rc28 rcX.heap.size urc d) := Urc22.out.on bz
          have Zrc28 : Hid (Blk rc28 rc22.heap.size #[.int .i64 0, .int .i64 0, .slice none 0 0, .slice none 0 0, .slice none 0 0] 35) := zk
          clear zk bz
          refine hK.out _ _ (fun _ _ => ⟨(K13.out.on Vrc28.out K13.out.lt).cell 0 _ rfl, (K13.out.on Vrc28.out K13.out.lt).cell 1 _ rfl, (K13.out.on Vrc28.out K13.out.lt).cell 2 _ rfl, (K13.out.on Vrc28.out K13.out.lt).cell 3 _ rfl, (K13.out.on Vrc28.out K13.out.lt).cell 4 _ rfl, (J13.out.on Vrc28.out J13.out.lt).cell 0 _ rfl, (J13.out.on Vrc28.out J13.out.lt).cell 1 _ rfl, (J13.out.on Vrc28.out J13.out.lt).cell 2 _ rfl, (J13.out.on Vrc28.out J13.out.lt).cell 3 _ rfl⟩) ?_
          clear hK K
          try simp only [Act.put, List.setIfInBounds_toArray, List.set_cons_zero, List.set_cons_succ]
          refine until_one 3 (by rfl) (by kernel_rfl) (fun K hK => ?_)
          go_simp
          refine (cTS rc28).mono ?_
          rintro e rc29 ⟨rfl, hb⟩
          have Vrc29 : Hid (Below w13.heap.size w13 rc29) := Vrc28.out.trans (hb.mono Vrc28.out.size)
          have Urc29 : Hid (DiskO rc29 rcX.heap.size urc d) := Urc28.out.on hb
          have Zrc29 : Hid (Blk rc29 rc22.heap.size #[.int .i64 0, .int .i64 0, .slice none 0 0, .slice none 0 0, .slice none 0 0] 35) := Zrc28.out.on hb Zrc28.out.lt
          clear hb
          go_wp2_with fail
          refine hK.out _ _ (fun _ _ => ⟨(K13.out.on Vrc29.out K13.out.lt).cell 0 _ rfl, (K13.out.on Vrc29.out K13.out.lt).cell 1 _ rfl, (K13.out.on Vrc29.out K13.out.lt).cell 2 _ rfl, (K13.out.on Vrc29.out K13.out.lt).cell 3 _ rfl, (K13.out.on Vrc29.out K13.out.lt).cell 4 _ rfl, (J13.out.on Vrc29.out J13.out.lt).cell 0 _ rfl, (J13.out.on Vrc29.out J13.out.lt).cell 1 _ rfl, (J13.out.on Vrc29.out J13.out.lt).cell 2 _ rfl, (J13.out.on Vrc29.out J13.out.lt).cell 3 _ rfl⟩) ?_
          clear hK K
          try simp only [Act.put, List.setIfInBounds_toArray, List.set_cons_zero, List.set_cons_succ]
          refine until_one 4 (by rfl) (by kernel_rfl) (fun K hK => ?_)
          go_simp
          refine (cG rc29 urc Urc29.out.look).mono ?_
          rintro e rc30 ⟨y, rfl, hO, hb⟩
          have Vrc30 : Hid (Below w13.heap.size w13 rc30) := Vrc29.out.trans (hb.mono Vrc29.out.size)
          have Zrc30 : Hid (Blk rc30 rc22.heap.size #[.int .i64 0, .int .i64 0, .slice none 0 0, .slice none 0 0, .slice none 0 0] 35) := Zrc29.out.on hb Zrc29.out.lt
          obtain ⟨s1, s2, s3, rfl, a1, a2, a3⟩ := hO.mono Vrc29.out.size
          obtain ⟨Q1, qm1, qc1, rfl⟩ := a1.shape
          obtain ⟨Q2, qm2, qc2, rfl⟩ := a2.shape
          obtain ⟨Q3, qm3, qc3, rfl⟩ := a3.shape
          have O1rc30 : Hid (Owns rc30 w13.heap.size 76 3 (.slice Q1 qm1 qc1) (nodR RR.1.nods)) := a1
          have O2rc30 : Hid (Owns rc30 w13.heap.size 79 2 (.slice Q2 qm2 qc2) (lnkR RR.1.dir)) := a2
          have O3rc30 : Hid (Owns rc30 w13.heap.size 81 4 (.slice Q3 qm3 qc3) (movR RR.1.movs)) := a3
          clear hb hO a1 a2 a3
          go_wp2_with fail
          refine hK.out _ _ (fun _ _ => ⟨(K13.out.on Vrc30.out K13.out.lt).cell 0 _ rfl, (K13.out.on Vrc30.out K13.out.lt).cell 1 _ rfl, (K13.out.on Vrc30.out K13.out.lt).cell 2 _ rfl, (K13.out.on Vrc30.out K13.out.lt).cell 3 _ rfl, (K13.out.on Vrc30.out K13.out.lt).cell 4 _ rfl, (J13.out.on Vrc30.out J13.out.lt).cell 0 _ rfl, (J13.out.on Vrc30.out J13.out.lt).cell 1 _ rfl, (J13.out.on Vrc30.out J13.out.lt).cell 2 _ rfl, (J13.out.on Vrc30.out J13.out.lt).cell 3 _ rfl⟩) ?_
          clear hK K
          try simp only [Act.put, List.setIfInBounds_toArray, List.set_cons_zero, List.set_cons_succ]
          refine until_pure 5 (v := ?_) (by rfl) (by kernel_rfl) (by exact fun _ _ _ h => h) (by rfl) ?_ ?_
          rotate_left
          · intro w
            go_simp
            try with_reducible rfl
          try simp only [Act.put, List.setIfInBounds_toArray, List.set_cons_zero, List.set_cons_succ]
          refine until_pure 6 (v := ?_) (by rfl) (by kernel_rfl) (by exact fun _ _ _ h => h) (by rfl) ?_ ?_
          rotate_left
          · intro w
            go_simp
            try with_reducible rfl
          try simp only [Act.put, List.setIfInBounds_toArray, List.set_cons_zero, List.set_cons_succ]
          refine until_pure 7 (v := ?_) (by rfl) (by kernel_rfl) (by exact fun _ _ _ h => h) (by rfl) ?_ ?_
          rotate_left
          · intro w
            go_simp
            try with_reducible rfl
          try simp only [Act.put, List.setIfInBounds_toArray, List.set_cons_zero, List.set_cons_succ]
          have hp := put_disk O1rc30.out O2rc30.out O3rc30.out Zrc30.out
          have hv := (((((Vrc30.out.setCell pl.out (.int .i64 RR.1.room) (p := ⟨_, 0, none⟩)).setCell pl.out (.int .i64 RR.1.next) (p := ⟨_, 1, none⟩)).setCell pl.out (.slice Q1 qm1 qc1) (p := ⟨_, 2, none⟩)).setCell pl.out (.slice Q2 qm2 qc2) (p := ⟨_, 3, none⟩)).setCell pl.out (.slice Q3 qm3 qc3) (p := ⟨_, 4, none⟩))
          have r0 := Zrc30.out.cell 0 _ rfl
          have f0 := Zrc30.out.free 0
          have r1 := Zrc30.out.cell 1 _ rfl
          have f1 := Zrc30.out.free 1
          have r2 := Zrc30.out.cell 2 _ rfl
          have f2 := Zrc30.out.free 2
          have r3 := Zrc30.out.cell 3 _ rfl
          have f3 := Zrc30.out.free 3
          have r4 := Zrc30.out.cell 4 _ rfl
          have f4 := Zrc30.out.free 4
          refine until_one 9 (by rfl) (by kernel_rfl) (fun K hK => ?_)
          go_simp
          try go_wp2_with fail
          clear r0 f0 r1 f1 r2 f2 r3 f3 r4 f4
          generalize (((((rc30.setCell ⟨rc22.heap.size, 0, none⟩ (.int .i64 RR.1.room)).setCell ⟨rc22.heap.size, 1, none⟩ (.int .i64 RR.1.next)).setCell ⟨rc22.heap.size, 2, none⟩ (.slice Q1 qm1 qc1)).setCell ⟨rc22.heap.size, 3, none⟩ (.slice Q2 qm2 qc2)).setCell ⟨rc22.heap.size, 4, none⟩ (.slice Q3 qm3 qc3)) = WF at *
          refine hK.out _ _ (fun h => by cases h) ?_
          clear hK K
          try simp only [Act.put, List.setIfInBounds_toArray, List.set_cons_zero, List.set_cons_succ]
          refine until_pure 10 (v := ?_) (by rfl) (by kernel_rfl) (by exact fun _ _ _ h => h) (by rfl) ?_ ?_
          rotate_left
          · intro w
            go_simp
            try with_reducible rfl
          try simp only [Act.put, List.setIfInBounds_toArray, List.set_cons_zero, List.set_cons_succ]
          refine until_done (by kernel_rfl) ?_ _
          try go_wp2_with fail
          go_meet
          case rel =>
            exact ⟨rc22.heap.size, _, _, _, _, _, _, _, _, _, rfl, rfl, hv, hp.1, hp.2, pl.out⟩
      · go_simp
        have zk := Blk.new rcX #[.int .i64 0, .int .i64 0, .slice none 0 0, .slice none 0 0, .slice none 0 0] 35
        have bz : Below rcX.heap.size rcX (rcX.alloc (.cells #[.int .i64 0, .int .i64 0, .slice none 0 0, .slice none 0 0, .slice none 0 0] 35)) := (Below.refl _ _).alloc (Nat.le_refl _) _
        have pl : Hid (w13.heap.size ≤ rcX.heap.size) := VrcX.out.size
        generalize rcX.alloc (.cells #[.int .i64 0, .int .i64 0, .slice none 0 0, .slice none 0 0, .slice none 0 0] 35) = rc31 at *
        have Vrc31 : Hid (Below w13.heap.size w13 rc31) := VrcX.out.trans (bz.mono VrcX.out.size)
        have Zrc31 : Hid (Blk rc31 rcX.heap.size #[.int .i64 0, .int .i64 0, .slice none 0 0, .slice none 0 0, .slice none 0 0] 35) := zk
        clear zk bz
        refine hK.out _ _ (fun _ _ => ⟨(K13.out.on Vrc31.out K13.out.lt).cell 0 _ rfl, (K13.out.on Vrc31.out K13.out.lt).cell 1 _ rfl, (K13.out.on Vrc31.out K13.out.lt).cell 2 _ rfl, (K13.out.on Vrc31.out K13.out.lt).cell 3 _ rfl, (K13.out.on Vrc31.out K13.out.lt).cell 4 _ rfl, (J13.out.on Vrc31.out J13.out.lt).cell 0 _ rfl, (J13.out.on Vrc31.out J13.out.lt).cell 1 _ rfl, (J13.out.on Vrc31.out J13.out.lt).cell 2 _ rfl, (J13.out.on Vrc31.out J13.out.lt).cell 3 _ rfl⟩) ?_
        clear hK K
        try simp only [Act.put, List.setIfInBounds_toArray, List.set_cons_zero, List.set_cons_succ]
        refine until_one 1 (by rfl) (by kernel_rfl) (fun K hK => ?_)
        go_simp
        refine (cT rc31 (HV.out.on (B13.out.trans (Vrc31.out.mono B13.out.size))) (B13.out.trans (Vrc31.out.mono B13.out.size)).size).mono ?_
        rintro e rc32 ⟨urc, rfl, hO, hb⟩
        have Vrc32 : Hid (Below w13.heap.size w13 rc32) := Vrc31.out.trans (hb.mono Vrc31.out.size)
        have Zrc32 : Hid (Blk rc32 rcX.heap.size #[.int .i64 0, .int .i64 0, .slice none 0 0, .slice none 0 0, .slice none 0 0] 35) := Zrc31.out.on hb Zrc31.out.lt
        have Urc32 : Hid (DiskO rc32 rc31.heap.size urc d) := hO
        clear hb hO
        go_wp2_with fail
        refine hK.out _ _ (fun _ _ => ⟨(K13.out.on Vrc32.out K13.out.lt).cell 0 _ rfl, (K13.out.on Vrc32.out K13.out.lt).cell 1 _ rfl, (K13.out.on Vrc32.out K13.out.lt).cell 2 _ rfl, (K13.out.on Vrc32.out K13.out.lt).cell 3 _ rfl, (K13.out.on Vrc32.out K13.out.lt).cell 4 _ rfl, (J13.out.on Vrc32.out J13.out.lt).cell 0 _ rfl, (J13.out.on Vrc32.out J13.out.lt).cell 1 _ rfl, (J13.out.on Vrc32.out J13.out.lt).cell 2 _ rfl, (J13.out.on Vrc32.out J13.out.lt).cell 3 _ rfl⟩) ?_
        clear hK K
        try simp only [Act.put, List.setIfInBounds_toArray, List.set_cons_zero, List.set_cons_succ]
        refine until_one 3 (by rfl) (by kernel_rfl) (fun K hK => ?_)
        go_simp
        refine (cTS rc32).mono ?_
        rintro e rc33 ⟨rfl, hb⟩
        have Vrc33 : Hid (Below w13.heap.size w13 rc33) := Vrc32.out.trans (hb.mono Vrc32.out.size)
        have Urc33 : Hid (DiskO rc33 rc31.heap.size urc d) := Urc32.out.on hb
        have Zrc33 : Hid (Blk rc33 rcX.heap.size #[.int .i64 0, .int .i64 0, .slice none 0 0, .slice none 0 0, .slice none 0 0] 35) := Zrc32.out.on hb Zrc32.out.lt
        clear hb
        go_wp2_with fail
        refine hK.out _ _ (fun _ _ => ⟨(K13.out.on Vrc33.out K13.out.lt).cell 0 _ rfl, (K13.out.on Vrc33.out K13.out.lt).cell 1 _ rfl, (K13.out.on Vrc33.out K13.out.lt).cell 2 _ rfl, (K13.out.on Vrc33.out K13.out.lt).cell 3 _ rfl, (K13.out.on Vrc33.out K13.out.lt).cell 4 _ rfl, (J13.out.on Vrc33.out J13.out.lt).cell 0 _ rfl, (J13.out.on Vrc33.out J13.out.lt).cell 1 _ rfl, (J13.out.on Vrc33.out J13.out.lt).cell 2 _ rfl, (J13.out.on Vrc33.out J13.out.lt).cell 3 _ rfl⟩) ?_
        clear hK K
        try simp only [Act.put, List.setIfInBounds_toArray, List.set_cons_zero, List.set_cons_succ]
        refine until_one 4 (by rfl) (by kernel_rfl) (fun K hK => ?_)
        go_simp
        refine (cG rc33 urc Urc33.out.look).mono ?_
        rintro e rc34 ⟨y, rfl, hO, hb⟩
        have Vrc34 : Hid (Below w13.heap.size w13 rc34) := Vrc33.out.trans (hb.mono Vrc33.out.size)
        have Zrc34 : Hid (Blk rc34 rcX.heap.size #[.int .i64 0, .int .i64 0, .slice none 0 0, .slice none 0 0, .slice none 0 0] 35) := Zrc33.out.on hb Zrc33.out.lt
        obtain ⟨s1, s2, s3, rfl, a1, a2, a3⟩ := hO.mono Vrc33.out.size
        obtain ⟨Q1, qm1, qc1, rfl⟩ := a1.shape
        obtain ⟨Q2, qm2, qc2, rfl⟩ := a2.shape
        obtain ⟨Q3, qm3, qc3, rfl⟩ := a3.shape
        have O1rc34 : Hid (Owns rc34 w13.heap.size 76 3 (.slice Q1 qm1 qc1) (nodR RR.1.nods)) := a1
        have O2rc34 : Hid (Owns rc34 w13.heap.size 79 2 (.slice Q2 qm2 qc2) (lnkR RR.1.dir)) := a2
        have O3rc34 : Hid (Owns rc34 w13.heap.size 81 4 (.slice Q3 qm3 qc3) (movR RR.1.movs)) := a3
        clear hb hO a1 a2 a3
        go_wp2_with fail
        refine hK.out _ _ (fun _ _ => ⟨(K13.out.on Vrc34.out K13.out.lt).cell 0 _ rfl, (K13.out.on Vrc34.out K13.out.lt).cell 1 _ rfl, (K13.out.on Vrc34.out K13.out.lt).cell 2 _ rfl, (K13.out.on Vrc34.out K13.out.lt).cell 3 _ rfl, (K13.out.on Vrc34.out K13.out.lt).cell 4 _ rfl, (J13.out.on Vrc34.out J13.out.lt).cell 0 _ rfl, (J13.out.on Vrc34.out J13.out.lt).cell 1 _ rfl, (J13.out.on Vrc34.out J13.out.lt).cell 2 _ rfl, (J13.out.on Vrc34.out J13.out.lt).cell 3 _ rfl⟩) ?_
        clear hK K
        try simp only [Act.put, List.setIfInBounds_toArray, List.set_cons_zero, List.set_cons_succ]
        refine until_pure 5 (v := ?_) (by rfl) (by kernel_rfl) (by exact fun _ _ _ h => h) (by rfl) ?_ ?_
        rotate_left
        · intro w
          go_simp
          try with_reducible rfl
        try simp only [Act.put, List.setIfInBounds_toArray, List.set_cons_zero, List.set_cons_succ]
        refine until_pure 6 (v := ?_) (by rfl) (by kernel_rfl) (by exact fun _ _ _ h => h) (by rfl) ?_ ?_
        rotate_left
        · intro w
          go_simp
          try with_reducible rfl
        try simp only [Act.put, List.setIfInBounds_toArray, List.set_cons_zero, List.set_cons_succ]
        refine until_pure 7 (v := ?_) (by rfl) (by kernel_rfl) (by exact fun _ _ _ h => h) (by rfl) ?_ ?_
        rotate_left
        · intro w
          go_simp
          try with_reducible rfl
        try simp only [Act.put, List.setIfInBounds_toArray, List.set_cons_zero, List.set_cons_succ]
        have hp := put_disk O1rc34.out O2rc34.out O3rc34.out Zrc34.out
        have hv := (((((Vrc34.out.setCell pl.out (.int .i64 RR.1.room) (p := ⟨_, 0, none⟩)).setCell pl.out (.int .i64 RR.1.next) (p := ⟨_, 1, none⟩)).setCell pl.out (.slice Q1 qm1 qc1) (p := ⟨_, 2, none⟩)).setCell pl.out (.slice Q2 qm2 qc2) (p := ⟨_, 3, none⟩)).setCell pl.out (.slice Q3 qm3 qc3) (p := ⟨_, 4, none⟩))
        have r0 := Zrc34.out.cell 0 _ rfl
        have f0 := Zrc34.out.free 0
        have r1 := Zrc34.out.cell 1 _ rfl
        have f1 := Zrc34.out.free 1
        have r2 := Zrc34.out.cell 2 _ rfl
        have f2 := Zrc34.out.free 2
        have r3 := Zrc34.out.cell 3 _ rfl
        have f3 := Zrc34.out.free 3
        have r4 := Zrc34.out.cell 4 _ rfl
        have f4 := Zrc34.out.free 4
        refine until_one 9 (by rfl) (by kernel_rfl) (fun K hK => ?_)
        go_simp
        try go_wp2_with fail
        clear r0 f0 r1 f1 r2 f2 r3 f3 r4 f4
        generalize (((((rc34.setCell ⟨rcX.heap.size, 0, none⟩ (.int .i64 RR.1.room)).setCell ⟨rcX.heap.size, 1, none⟩ (.int .i64 RR.1.next)).setCell ⟨rcX.heap.size, 2, none⟩ (.slice Q1 qm1 qc1)).setCell ⟨rcX.heap.size, 3, none⟩ (.slice Q2 qm2 qc2)).setCell ⟨rcX.heap.size, 4, none⟩ (.slice Q3 qm3 qc3)) = WF at *
        refine hK.out _ _ (fun h => by cases h) ?_
        clear hK K
        try simp only [Act.put, List.setIfInBounds_toArray, List.set_cons_zero, List.set_cons_succ]
        refine until_pure 10 (v := ?_) (by rfl) (by kernel_rfl) (by exact fun _ _ _ h => h) (by rfl) ?_ ?_
        rotate_left
        · intro w
          go_simp
          try with_reducible rfl
        try simp only [Act.put, List.setIfInBounds_toArray, List.set_cons_zero, List.set_cons_succ]
        refine until_done (by kernel_rfl) ?_ _
        try go_wp2_with fail
        go_meet
        case rel =>
          exact ⟨rcX.heap.size, _, _, _, _, _, _, _, _, _, rfl, rfl, hv, hp.1, hp.2, pl.out⟩
    case rest =>
    obtain ⟨p14, H1, hm1, hc1, H2, hm2, hc2, H3, hm3, hc3, rfl, rfl, hbc, hDc, hPc, hLc⟩ := hcut
    generalize wc = W15 at *
    have P14a : Hid (Blk W15 p14 #[.int .i64 RR.1.room, .int .i64 RR.1.next, .slice H1 hm1 hc1, .slice H2 hm2 hc2, .slice H3 hm3 hc3] 35) := hPc
    have P615 : Hid (Blk W15 p6 #[.int .i64 RR.1.room, .int .i64 RR.1.next, .slice E1 em1 ec1, .slice E2 em2 ec2, .slice E3 em3 ec3] 35) := P613.out.on hbc P613.out.lt
    have P915 : Hid (Blk W15 p9 #[.int .i64 RR.1.room, .int .i64 RR.1.next, .slice G1 gm1 gc1, .slice G2 gm2 gc2, .slice G3 gm3 gc3] 35) := P913.out.on hbc P913.out.lt
    have HR15 : Hid (Rows3 W15 W5.heap.size cz (.slice G1 gm1 gc1) (.slice G2 gm2 gc2) (.slice G3 gm3 gc3) N1 N2 N3) := HR13.out.on hbc
    have T15 : Hid (DiskO W15 b2 (.agg #[.int .i64 RR.1.room, .int .i64 RR.1.next, .slice E1 em1 ec1, .slice E2 em2 ec2, .slice E3 em3 ec3]) RR.1) := TW3.out.on (TB13.out.trans (hbc.mono TB13.out.size))
    have HH15 : Hid (DiskO W15 w13.heap.size (.agg #[.int .i64 RR.1.room, .int .i64 RR.1.next, .slice H1 hm1 hc1, .slice H2 hm2 hc2, .slice H3 hm3 hc3]) RR.1) := hDc
    have BB15 : Hid (Below w.heap.size w W15) := B13.out.trans (hbc.mono B13.out.size)
    clear hbc hDc hPc hLc B13 K13 J13 P613 TB13 P913 HR13
    have h0 := P14a.out.cell 0 _ rfl
    have s0 := P615.out.cell 0 _ rfl
    have h1 := P14a.out.cell 1 _ rfl
    have s1 := P615.out.cell 1 _ rfl
    have h2 := P14a.out.cell 2 _ rfl
    have s2 := P615.out.cell 2 _ rfl
    have h3 := P14a.out.cell 3 _ rfl
    have s3 := P615.out.cell 3 _ rfl
    have h4 := P14a.out.cell 4 _ rfl
    have s4 := P615.out.cell 4 _ rfl
    go_wp2_with fail
    clear h0 s0 h1 s1 h2 s2 h3 s3 h4 s4
    refine (eqDiskL RR.1 _ _ W15 W15.heap.size HH15.out.look T15.out.look (by have := LR.out; omega) (by have := LR.out; omega) (by have := LR.out; omega) (Nat.le_refl _)).mono ?_
    rintro e w16 ⟨rfl, hb16⟩
    have B16 : Hid (Below w.heap.size w w16) := BB15.out.trans (hb16.mono BB15.out.size)
    have P916 : Hid (Blk w16 p9 #[.int .i64 RR.1.room, .int .i64 RR.1.next, .slice G1 gm1 gc1, .slice G2 gm2 gc2, .slice G3 gm3 gc3] 35) := P915.out.on hb16 P915.out.lt
    have HR16 : Hid (Rows3 w16 W5.heap.size cz (.slice G1 gm1 gc1) (.slice G2 gm2 gc2) (.slice G3 gm3 gc3) N1 N2 N3) := HR15.out.on hb16
    clear hb16
    have g0 := P916.out.cell 0 _ rfl
    have g1 := P916.out.cell 1 _ rfl
    have g2 := P916.out.cell 2 _ rfl
    have g3 := P916.out.cell 3 _ rfl
    have g4 := P916.out.cell 4 _ rfl
    go_wp2_with fail
    refine (cH w16 HR16.out.o1.lies HR16.out.o2.lies HR16.out.o3.lies).mono ?_
    rintro e w17 ⟨rfl, hb17⟩
    have B17 : Hid (Below w.heap.size w w17) := B16.out.trans (hb17.mono B16.out.size)
    clear hb17 g0 g1 g2 g3 g4
    go_wp2_with fail
    go_ret
    exact ⟨rfl, B17.out⟩

end Go.Proofs.YtnnfnhpehacelaaGreat
