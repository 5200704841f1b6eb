/-
  The contract of laws.eqDisk, at disks whose rows are few.
-/
import Derived.Test.YtgpplogieohdpaaGreatRows
import Derived.Test.YtgpplogieohdpaaGreatDkEq
namespace Go.Proofs.YtgpplogieohdpaaGreat
open Go.ChangeShapes Go.WideShapes Go.ChangeAt Go.RowKit Go.PlainAid
set_option linter.unusedVariables false

theorem DiskO.above {w w' : World} {base : Nat} {v : Value} {d : Dsk} (h : DiskO w base v d) (hk : ∀ g, base ≤ g → g < w.heap.size → w'.heap[g]? = w.heap[g]?) : DiskO w' base v d := by
  obtain ⟨v1, v2, v3, e, h1, h2, h3⟩ := h
  exact ⟨v1, v2, v3, e, h1.kept fun g hg ho => hk g (h1.lt g ho).1 hg, h2.kept fun g hg ho => hk g (h2.lt g ho).1 hg, h3.kept fun g hg ho => hk g (h3.lt g ho).1 hg⟩

set_option maxHeartbeats 1000000 in
theorem eqDiskL (d : Dsk) (va vb : Value) (w : World) (B : Nat) (ha : DiskV w B va d) (hb : DiskV w B vb d) (l1 : d.nods.length ≤ 1048576) (l2 : d.dir.length ≤ 1048576) (l3 : d.movs.length ≤ 1048576) (hB : B ≤ w.heap.size) :
    Calls Tryz.prog 9 #[va, vb] w fun e w' => e = .returned (.bool true) ∧ Below w.heap.size w w' := by
  obtain ⟨a1, a2, a3, rfl, an, al, am⟩ := ha
  obtain ⟨b1, b2, b3, rfl, bn, bl, bm⟩ := hb
  have HB : Hid (B ≤ w.heap.size) := hB
  have AN : Hid (Lies w B 3 a1 (nodR d.nods)) := an
  have AL : Hid (Lies w B 2 a2 (lnkR d.dir)) := al
  have AM : Hid (Lies w B 4 a3 (movR d.movs)) := am
  have BN : Hid (Lies w B 3 b1 (nodR d.nods)) := bn
  have BL : Hid (Lies w B 2 b2 (lnkR d.dir)) := bl
  have BM : Hid (Lies w B 4 b3 (movR d.movs)) := bm
  have L1 : Hid (d.nods.length ≤ 1048576) := l1
  have L2 : Hid (d.dir.length ≤ 1048576) := l2
  have L3 : Hid (d.movs.length ≤ 1048576) := l3
  clear an al am bn bl bm l1 l2 l3 hB
  go_enter Tryz.func9, Tryz.ntmps9
  go_wp2_with fail
  have hb0 := below_alloc2 w (.cells #[.int .i64 d.room, .int .i64 d.next, a1, a2, a3] 33) (.cells #[.int .i64 d.room, .int .i64 d.next, b1, b2, b3] 33)
  have kA := (Blk.new w #[.int .i64 d.room, .int .i64 d.next, a1, a2, a3] 33).alloc (.cells #[.int .i64 d.room, .int .i64 d.next, b1, b2, b3] 33)
  have kB := Blk.new (w.alloc (.cells #[.int .i64 d.room, .int .i64 d.next, a1, a2, a3] 33)) #[.int .i64 d.room, .int .i64 d.next, b1, b2, b3] 33
  simp only [World.size_alloc] at kB
  generalize (w.alloc (.cells #[.int .i64 d.room, .int .i64 d.next, a1, a2, a3] 33)).alloc (.cells #[.int .i64 d.room, .int .i64 d.next, b1, b2, b3] 33) = W at *
  have B0 : Hid (Below w.heap.size w W) := hb0
  have hlt := kB.lt
  clear hb0
  refine (eqInodeS d.nods a1 b1 W B (AN.out.on (B0.out.mono HB.out)) (BN.out.on (B0.out.mono HB.out)) L1.out (Nat.le_trans HB.out B0.out.size)).mono ?_
  rintro e w2 ⟨rfl, hb2⟩
  have B2 : Hid (Below w.heap.size w w2) := B0.out.trans (hb2.mono B0.out.size)
  have kA2 := kA.on hb2 (by omega)
  have kB2 := kB.on hb2 hlt
  clear kA kB hb2 hlt
  have e1 := kA2.cell 3 a2 rfl
  have e2 := kB2.cell 3 b2 rfl
  have hlt := kB2.lt
  have KA2 : Hid (Blk w2 w.heap.size _ _) := kA2
  have KB2 : Hid (Blk w2 (w.heap.size + 1) _ _) := kB2
  clear kA2 kB2
  go_wp2_with fail
  refine (eqLinkS d.dir a2 b2 w2 B (AL.out.on (B2.out.mono HB.out)) (BL.out.on (B2.out.mono HB.out)) L2.out (Nat.le_trans HB.out B2.out.size)).mono ?_
  rintro e w3 ⟨rfl, hb3⟩
  have B3 : Hid (Below w.heap.size w w3) := B2.out.trans (hb3.mono B2.out.size)
  have e3 := (KA2.out.on hb3 (by omega)).cell 4 a3 rfl
  have e4 := (KB2.out.on hb3 hlt).cell 4 b3 rfl
  clear e1 e2 hb3 hlt
  go_wp2_with fail
  refine (eqMoveS d.movs a3 b3 w3 B (AM.out.on (B3.out.mono HB.out)) (BM.out.on (B3.out.mono HB.out)) L3.out (Nat.le_trans HB.out B3.out.size)).mono ?_
  rintro e w4 ⟨rfl, hb4⟩
  have B4 : Hid (Below w.heap.size w w4) := B3.out.trans (hb4.mono B3.out.size)
  clear hb4
  go_wp2_with fail
  go_ret
  exact ⟨rfl, B4.out⟩
end Go.Proofs.YtgpplogieohdpaaGreat
