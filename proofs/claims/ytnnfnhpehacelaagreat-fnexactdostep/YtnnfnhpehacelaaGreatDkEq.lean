/-
  Contracts of the laws' own comparison of disks where both hold the same: eqInode .. eqMoveS, eqDisk.
-/
import Derived.Test.YtnnfnhpehacelaaGreatRows
import Derived.Test.YtnnfnhpehacelaaGreatDkToD
import Derived.Deep.RegionWith
namespace Go.Proofs.YtnnfnhpehacelaaGreat
open Go.ChangeShapes Go.WideShapes Go.ChangeAt Go.RowKit Go.PlainAid
set_option linter.unusedVariables false

theorem below_alloc2 (w : World) (a b : Obj) : Below w.heap.size w ((w.alloc a).alloc b) := ((Below.refl _ w).alloc (Nat.le_refl _) a).alloc (by simp) b
set_option maxHeartbeats 400000 in
theorem eqInode (x : Nod) (w : World) : Calls Tryz.prog 71 #[vNod x, vNod x] w fun e w' => e = .returned (.bool true) ∧ Below w.heap.size w w' := by
  unfold vNod
  go_enter Tryz.func71, Tryz.ntmps71
  go_wp2
  go_ret
  exact ⟨rfl, below_alloc2 _ _ _⟩

set_option maxHeartbeats 1000000 in
theorem eqInodeS (l : List Nod) (va vb : Value) (w : World) (B : Nat) (ha : Lies w B 3 va (nodR l)) (hb : Lies w B 3 vb (nodR l)) (hn : l.length ≤ 1048576) (hB : B ≤ w.heap.size) :
    Calls Tryz.prog 29 #[va, vb] w fun e w' => e = .returned (.bool true) ∧ Below w.heap.size w w' := by
  obtain ⟨A, cap, rfl, hl⟩ := nod_look ha
  obtain ⟨A', cap', rfl, hl'⟩ := nod_look hb
  have HL : Hid (∀ j, j < l.length → ∃ g off, A = some ⟨g, off, none⟩ ∧ g < B ∧ _) := hl
  have HL' : Hid (∀ j, j < l.length → ∃ g off, A' = some ⟨g, off, none⟩ ∧ g < B ∧ _) := hl'
  have HB : Hid (B ≤ w.heap.size) := hB
  clear hl hl' hB ha hb
  have q1 : (l.length : Int) ≤ 1048576 := by omega
  generalize hN : l.length = n at *
  go_enter Tryz.func29, Tryz.ntmps29
  go_wp2_with fail
  go_loopw [5] (fun v5 wr => ∃ k : Nat, k ≤ n ∧ v5 = .int .i64 (k : Int) ∧ Below w.heap.size w wr) (fun i _ => n - (intOf i).toNat)
  case atStart => exact ⟨0, by omega, rfl, Below.refl _ _⟩
  case round =>
    obtain ⟨k, hk, rfl, hb⟩ := hrel
    have HB1 : Hid (Below w.heap.size w wr) := hb
    clear hb
    by_cases hlt : k < n
    · have q4 : (k : Int) < (n : Int) := by omega
      obtain ⟨g, off, rfl, hg, ha0, ha1, ha2⟩ := HL.out k hlt
      obtain ⟨g', off', rfl, hg', hb0, hb1, hb2⟩ := HL'.out k hlt
      have hgw : g < w.heap.size := Nat.lt_of_lt_of_le hg HB.out
      have hgw' : g' < w.heap.size := Nat.lt_of_lt_of_le hg' HB.out
      rw [← HB1.out.cell (p := ⟨_, _, none⟩) hgw] at ha0
      rw [← HB1.out.cell (p := ⟨_, _, none⟩) hgw'] at hb0
      rw [← HB1.out.cell (p := ⟨_, _, none⟩) hgw] at ha1
      rw [← HB1.out.cell (p := ⟨_, _, none⟩) hgw'] at hb1
      rw [← HB1.out.cell (p := ⟨_, _, none⟩) hgw] at ha2
      rw [← HB1.out.cell (p := ⟨_, _, none⟩) hgw'] at hb2
      have c1 := fun wx => eqInode (l.getD k default) wx
      unfold vNod at c1
      generalize l.getD k default = x at *
      have hsz := HB1.out.size
      go_wp2_with fail
      go_region_with (go_at_call 71; refine (c1 _).mono ?_; rintro e w1 ⟨rfl, hb1⟩)
      all_goals go_wp2_with fail
      all_goals exact ⟨⟨k + 1, by omega, by go_num, HB1.out.trans (((Below.refl _ wr).drew.trans hb1).mono hsz)⟩, by simp [intOf]; omega⟩
    · obtain rfl : k = n := by omega
      go_wp2_with fail
      go_ret
      exact ⟨rfl, HB1.out⟩
set_option maxHeartbeats 400000 in
theorem eqLink (x : Lnk) (w : World) : Calls Tryz.prog 72 #[vLnk x, vLnk x] w fun e w' => e = .returned (.bool true) ∧ Below w.heap.size w w' := by
  unfold vLnk
  go_enter Tryz.func72, Tryz.ntmps72
  go_wp2
  go_ret
  exact ⟨rfl, below_alloc2 _ _ _⟩

set_option maxHeartbeats 1000000 in
theorem eqLinkS (l : List Lnk) (va vb : Value) (w : World) (B : Nat) (ha : Lies w B 2 va (lnkR l)) (hb : Lies w B 2 vb (lnkR l)) (hn : l.length ≤ 1048576) (hB : B ≤ w.heap.size) :
    Calls Tryz.prog 30 #[va, vb] w fun e w' => e = .returned (.bool true) ∧ Below w.heap.size w w' := by
  obtain ⟨A, cap, rfl, hl⟩ := lnk_look ha
  obtain ⟨A', cap', rfl, hl'⟩ := lnk_look hb
  have HL : Hid (∀ j, j < l.length → ∃ g off, A = some ⟨g, off, none⟩ ∧ g < B ∧ _) := hl
  have HL' : Hid (∀ j, j < l.length → ∃ g off, A' = some ⟨g, off, none⟩ ∧ g < B ∧ _) := hl'
  have HB : Hid (B ≤ w.heap.size) := hB
  clear hl hl' hB ha hb
  have q1 : (l.length : Int) ≤ 1048576 := by omega
  generalize hN : l.length = n at *
  go_enter Tryz.func30, Tryz.ntmps30
  go_wp2_with fail
  go_loopw [5] (fun v5 wr => ∃ k : Nat, k ≤ n ∧ v5 = .int .i64 (k : Int) ∧ Below w.heap.size w wr) (fun i _ => n - (intOf i).toNat)
  case atStart => exact ⟨0, by omega, rfl, Below.refl _ _⟩
  case round =>
    obtain ⟨k, hk, rfl, hb⟩ := hrel
    have HB1 : Hid (Below w.heap.size w wr) := hb
    clear hb
    by_cases hlt : k < n
    · have q4 : (k : Int) < (n : Int) := by omega
      obtain ⟨g, off, rfl, hg, ha0, ha1⟩ := HL.out k hlt
      obtain ⟨g', off', rfl, hg', hb0, hb1⟩ := HL'.out k hlt
      have hgw : g < w.heap.size := Nat.lt_of_lt_of_le hg HB.out
      have hgw' : g' < w.heap.size := Nat.lt_of_lt_of_le hg' HB.out
      rw [← HB1.out.cell (p := ⟨_, _, none⟩) hgw] at ha0
      rw [← HB1.out.cell (p := ⟨_, _, none⟩) hgw'] at hb0
      rw [← HB1.out.cell (p := ⟨_, _, none⟩) hgw] at ha1
      rw [← HB1.out.cell (p := ⟨_, _, none⟩) hgw'] at hb1
      have c1 := fun wx => eqLink (l.getD k default) wx
      unfold vLnk at c1
      generalize l.getD k default = x at *
      have hsz := HB1.out.size
      go_wp2_with fail
      go_region_with (go_at_call 72; refine (c1 _).mono ?_; rintro e w1 ⟨rfl, hb1⟩)
      all_goals go_wp2_with fail
      all_goals exact ⟨⟨k + 1, by omega, by go_num, HB1.out.trans (((Below.refl _ wr).drew.trans hb1).mono hsz)⟩, by simp [intOf]; omega⟩
    · obtain rfl : k = n := by omega
      go_wp2_with fail
      go_ret
      exact ⟨rfl, HB1.out⟩
set_option maxHeartbeats 400000 in
theorem eqMove (x : Mov) (w : World) : Calls Tryz.prog 73 #[vMov x, vMov x] w fun e w' => e = .returned (.bool true) ∧ Below w.heap.size w w' := by
  unfold vMov
  go_enter Tryz.func73, Tryz.ntmps73
  go_wp2
  go_ret
  exact ⟨rfl, below_alloc2 _ _ _⟩

set_option maxHeartbeats 1000000 in
theorem eqMoveS (l : List Mov) (va vb : Value) (w : World) (B : Nat) (ha : Lies w B 4 va (movR l)) (hb : Lies w B 4 vb (movR l)) (hn : l.length ≤ 1048576) (hB : B ≤ w.heap.size) :
    Calls Tryz.prog 31 #[va, vb] w fun e w' => e = .returned (.bool true) ∧ Below w.heap.size w w' := by
  obtain ⟨A, cap, rfl, hl⟩ := mov_look ha
  obtain ⟨A', cap', rfl, hl'⟩ := mov_look hb
  have HL : Hid (∀ j, j < l.length → ∃ g off, A = some ⟨g, off, none⟩ ∧ g < B ∧ _) := hl
  have HL' : Hid (∀ j, j < l.length → ∃ g off, A' = some ⟨g, off, none⟩ ∧ g < B ∧ _) := hl'
  have HB : Hid (B ≤ w.heap.size) := hB
  clear hl hl' hB ha hb
  have q1 : (l.length : Int) ≤ 1048576 := by omega
  generalize hN : l.length = n at *
  go_enter Tryz.func31, Tryz.ntmps31
  go_wp2_with fail
  go_loopw [5] (fun v5 wr => ∃ k : Nat, k ≤ n ∧ v5 = .int .i64 (k : Int) ∧ Below w.heap.size w wr) (fun i _ => n - (intOf i).toNat)
  case atStart => exact ⟨0, by omega, rfl, Below.refl _ _⟩
  case round =>
    obtain ⟨k, hk, rfl, hb⟩ := hrel
    have HB1 : Hid (Below w.heap.size w wr) := hb
    clear hb
    by_cases hlt : k < n
    · have q4 : (k : Int) < (n : Int) := by omega
      obtain ⟨g, off, rfl, hg, ha0, ha1, ha2, ha3⟩ := HL.out k hlt
      obtain ⟨g', off', rfl, hg', hb0, hb1, hb2, hb3⟩ := HL'.out k hlt
      have hgw : g < w.heap.size := Nat.lt_of_lt_of_le hg HB.out
      have hgw' : g' < w.heap.size := Nat.lt_of_lt_of_le hg' HB.out
      rw [← HB1.out.cell (p := ⟨_, _, none⟩) hgw] at ha0
      rw [← HB1.out.cell (p := ⟨_, _, none⟩) hgw'] at hb0
      rw [← HB1.out.cell (p := ⟨_, _, none⟩) hgw] at ha1
      rw [← HB1.out.cell (p := ⟨_, _, none⟩) hgw'] at hb1
      rw [← HB1.out.cell (p := ⟨_, _, none⟩) hgw] at ha2
      rw [← HB1.out.cell (p := ⟨_, _, none⟩) hgw'] at hb2
      rw [← HB1.out.cell (p := ⟨_, _, none⟩) hgw] at ha3
      rw [← HB1.out.cell (p := ⟨_, _, none⟩) hgw'] at hb3
      have c1 := fun wx => eqMove (l.getD k default) wx
      unfold vMov at c1
      generalize l.getD k default = x at *
      have hsz := HB1.out.size
      go_wp2_with fail
      go_region_with (go_at_call 73; refine (c1 _).mono ?_; rintro e w1 ⟨rfl, hb1⟩)
      all_goals go_wp2_with fail
      all_goals exact ⟨⟨k + 1, by omega, by go_num, HB1.out.trans (((Below.refl _ wr).drew.trans hb1).mono hsz)⟩, by simp [intOf]; omega⟩
    · obtain rfl : k = n := by omega
      go_wp2_with fail
      go_ret
      exact ⟨rfl, HB1.out⟩

set_option maxHeartbeats 1000000 in
theorem eqDisk (d : Dsk) (va vb : Value) (w : World) (B : Nat) (ha : DiskV w B va d) (hb : DiskV w B vb d) (hw : wtD d ≤ 1048576) (hB : B ≤ w.heap.size) :
    Calls Tryz.prog 10 #[va, vb] w fun e w' => e = .returned (.bool true) ∧ Below w.heap.size w w' := by
  obtain ⟨a1, a2, a3, rfl, an, al, am⟩ := ha
  obtain ⟨b1, b2, b3, rfl, bn, bl, bm⟩ := hb
  unfold wtD at hw
  have HB : Hid (B ≤ w.heap.size) := hB
  have AN : Hid (Lies w B 3 a1 (nodR d.nods)) := an
  have AL : Hid (Lies w B 2 a2 (lnkR d.dir)) := al
  have AM : Hid (Lies w B 4 a3 (movR d.movs)) := am
  have BN : Hid (Lies w B 3 b1 (nodR d.nods)) := bn
  have BL : Hid (Lies w B 2 b2 (lnkR d.dir)) := bl
  have BM : Hid (Lies w B 4 b3 (movR d.movs)) := bm
  have L1 : Hid (d.nods.length ≤ 1048576) := by unfold Hid; omega
  have L2 : Hid (d.dir.length ≤ 1048576) := by unfold Hid; omega
  have L3 : Hid (d.movs.length ≤ 1048576) := by unfold Hid; omega
  clear an al am bn bl bm hw hB
  go_enter Tryz.func10, Tryz.ntmps10
  go_wp2_with fail
  have hb0 := below_alloc2 w (.cells #[.int .i64 d.room, .int .i64 d.next, a1, a2, a3] 35) (.cells #[.int .i64 d.room, .int .i64 d.next, b1, b2, b3] 35)
  have kA := (Blk.new w #[.int .i64 d.room, .int .i64 d.next, a1, a2, a3] 35).alloc (.cells #[.int .i64 d.room, .int .i64 d.next, b1, b2, b3] 35)
  have kB := Blk.new (w.alloc (.cells #[.int .i64 d.room, .int .i64 d.next, a1, a2, a3] 35)) #[.int .i64 d.room, .int .i64 d.next, b1, b2, b3] 35
  simp only [World.size_alloc] at kB
  generalize (w.alloc (.cells #[.int .i64 d.room, .int .i64 d.next, a1, a2, a3] 35)).alloc (.cells #[.int .i64 d.room, .int .i64 d.next, b1, b2, b3] 35) = W at *
  have B0 : Hid (Below w.heap.size w W) := hb0
  have hlt := kB.lt
  clear hb0
  refine (eqInodeS d.nods a1 b1 W B (AN.out.on (B0.out.mono HB.out)) (BN.out.on (B0.out.mono HB.out)) L1.out (Nat.le_trans HB.out B0.out.size)).mono ?_
  rintro e w2 ⟨rfl, hb2⟩
  have B2 : Hid (Below w.heap.size w w2) := B0.out.trans (hb2.mono B0.out.size)
  have kA2 := kA.on hb2 (by omega)
  have kB2 := kB.on hb2 hlt
  clear kA kB hb2 hlt
  have e1 := kA2.cell 3 a2 rfl
  have e2 := kB2.cell 3 b2 rfl
  have hlt := kB2.lt
  have KA2 : Hid (Blk w2 w.heap.size _ _) := kA2
  have KB2 : Hid (Blk w2 (w.heap.size + 1) _ _) := kB2
  clear kA2 kB2
  go_wp2_with fail
  refine (eqLinkS d.dir a2 b2 w2 B (AL.out.on (B2.out.mono HB.out)) (BL.out.on (B2.out.mono HB.out)) L2.out (Nat.le_trans HB.out B2.out.size)).mono ?_
  rintro e w3 ⟨rfl, hb3⟩
  have B3 : Hid (Below w.heap.size w w3) := B2.out.trans (hb3.mono B2.out.size)
  have e3 := (KA2.out.on hb3 (by omega)).cell 4 a3 rfl
  have e4 := (KB2.out.on hb3 hlt).cell 4 b3 rfl
  clear e1 e2 hb3 hlt
  go_wp2_with fail
  refine (eqMoveS d.movs a3 b3 w3 B (AM.out.on (B3.out.mono HB.out)) (BM.out.on (B3.out.mono HB.out)) L3.out (Nat.le_trans HB.out B3.out.size)).mono ?_
  rintro e w4 ⟨rfl, hb4⟩
  have B4 : Hid (Below w.heap.size w w4) := B3.out.trans (hb4.mono B3.out.size)
  clear hb4
  go_wp2_with fail
  go_ret
  exact ⟨rfl, B4.out⟩
end Go.Proofs.YtnnfnhpehacelaaGreat
