/- ReadTold WkApp WtAid ChFrom -/
import Derived.Test.YtfmannphobjgpaaRows
import Derived.Test.YtfmannphobjgpaaQc2
import Derived.LoopN
import Derived.Handy
import Derived.Test.YtfmannphobjgpaaQc0
import Derived.OwnWalk
namespace Go.Proofs.Ytfmannphobjgpaa
open Go.ChangeShapes Go.WideShapes Go.ChangeAt Go.RowKit Go.PlainAid
set_option linter.unusedVariables false
set_option maxHeartbeats 1000000 in
theorem told_hard (t v : Int) (w : World) (hd : 0 ≤ 1048576) : Calls Try.prog 20 #[.iface 48 (.agg #[.int .i64 t, .int .i64 v])] w fun e w' => e = .returned (.agg #[.int .i64 1, .int .i64 t, .int .i64 0, .int .i64 v, .string ⟨#[]⟩]) ∧ Below w.heap.size w w' := by
 have c1 := fun wx => hardRec t v wx
 have c2 := fun wx => clone ⟨#[]⟩ wx (Nat.zero_le _)
 clear hd
 go_enter Try.func20, Try.ntmps20
 go_wp2_with fail
 have hb0 : Below w.heap.size w (w.alloc (.cells #[.int .i64 0, .int .i64 0, .int .i64 0, .int .i64 0, .string ⟨#[]⟩] 35)) := (Below.refl _ _).alloc (Nat.le_refl _) _
 have k0 := Blk.new w #[.int .i64 0, .int .i64 0, .int .i64 0, .int .i64 0, .string ⟨#[]⟩] 35
 generalize w.alloc (.cells #[.int .i64 0, .int .i64 0, .int .i64 0, .int .i64 0, .string ⟨#[]⟩] 35) = W at *
 refine (c1 _).mono ?_
 rintro e w1 ⟨rfl, hb1⟩
 have B1 : Hid (Below w.heap.size w w1) := hb0.trans (hb1.mono hb0.size)
 have K1 : Hid (Blk w1 w.heap.size #[.int .i64 0, .int .i64 0, .int .i64 0, .int .i64 0, .string ⟨#[]⟩] 35) := k0.on hb1 k0.lt
 clear hb0 hb1 k0 c1
 go_wp2_with fail
 have hb2 : Below w1.heap.size w1 (w1.alloc (.cells #[.int .i64 1, .int .i64 t, .int .i64 0, .int .i64 v, .string ⟨#[]⟩] 35)) := (Below.refl _ _).alloc (Nat.le_refl _) _
 have l2 := Blk.new w1 #[.int .i64 1, .int .i64 t, .int .i64 0, .int .i64 v, .string ⟨#[]⟩] 35
 have z2 := K1.out.lt
 generalize w1.alloc (.cells #[.int .i64 1, .int .i64 t, .int .i64 0, .int .i64 v, .string ⟨#[]⟩] 35) = W2 at *
 refine (c2 _).mono ?_
 rintro e w3 ⟨rfl, hb3⟩
 have B3 : Hid (Below w.heap.size w w3) := B1.out.trans ((hb2.trans (hb3.mono hb2.size)).mono B1.out.size)
 have k3 := (K1.out.on hb2 z2).on hb3 (Nat.lt_of_lt_of_le z2 hb2.size)
 have l3 := l2.on hb3 l2.lt
 clear hb2 hb3 c2 l2 K1 B1
 generalize hq : w1.heap.size = q at *
 have e0 := l3.cell 0 (.int .i64 1) rfl
 have f0 := l3.free 0
 have e1 := l3.cell 1 (.int .i64 t) rfl
 have f1 := l3.free 1
 have e2 := l3.cell 2 (.int .i64 0) rfl
 have f2 := l3.free 2
 have e3 := l3.cell 3 (.int .i64 v) rfl
 have f3 := l3.free 3
 have e4 := l3.cell 4 (.string ⟨#[]⟩) rfl
 have f4 := l3.free 4
 have r0 := k3.cell 0 (.int .i64 0) rfl
 have g0 := k3.free 0
 have r1 := k3.cell 1 (.int .i64 0) rfl
 have g1 := k3.free 1
 have r2 := k3.cell 2 (.int .i64 0) rfl
 have g2 := k3.free 2
 have r3 := k3.cell 3 (.int .i64 0) rfl
 have g3 := k3.free 3
 have r4 := k3.cell 4 (.string ⟨#[]⟩) rfl
 have g4 := k3.free 4
 have K3 : Hid (Blk w3 w.heap.size _ _) := k3
 have L3 : Hid (Blk w3 q _ _) := l3
 go_wp2_with fail
 have hF := ((((((k3.other (show w.heap.size ≠ q by omega) 4 (.string ⟨#[]⟩)).set 0 (.int .i64 1)).set 1 (.int .i64 t)).set 2 (.int .i64 0)).set 3 (.int .i64 v)).set 4 (.string ⟨#[]⟩))
 have FB := ((((((B3.out.setCell (show w.heap.size ≤ q by omega) (.string ⟨#[]⟩) (p := ⟨_, 4, none⟩)).setCell (Nat.le_refl _) (.int .i64 1) (p := ⟨_, 0, none⟩)).setCell (Nat.le_refl _) (.int .i64 t) (p := ⟨_, 1, none⟩)).setCell (Nat.le_refl _) (.int .i64 0) (p := ⟨_, 2, none⟩)).setCell (Nat.le_refl _) (.int .i64 v) (p := ⟨_, 3, none⟩)).setCell (Nat.le_refl _) (.string ⟨#[]⟩) (p := ⟨_, 4, none⟩))
 clear e0 e1 e2 e3 e4 f0 f1 f2 f3 f4 r0 r1 r2 r3 r4 g0 g1 g2 g3 g4
 generalize ((((((w3.setCell ⟨q, 4, none⟩ (.string ⟨#[]⟩)).setCell ⟨w.heap.size, 0, none⟩ (.int .i64 1)).setCell ⟨w.heap.size, 1, none⟩ (.int .i64 t)).setCell ⟨w.heap.size, 2, none⟩ (.int .i64 0)).setCell ⟨w.heap.size, 3, none⟩ (.int .i64 v)).setCell ⟨w.heap.size, 4, none⟩ (.string ⟨#[]⟩)) = WF at *
 have hG : Blk WF w.heap.size #[.int .i64 1, .int .i64 t, .int .i64 0, .int .i64 v, .string ⟨#[]⟩] 35 := hF
 have m0 := hG.cell 0 (.int .i64 1) rfl
 have m1 := hG.cell 1 (.int .i64 t) rfl
 have m2 := hG.cell 2 (.int .i64 0) rfl
 have m3 := hG.cell 3 (.int .i64 v) rfl
 have m4 := hG.cell 4 (.string ⟨#[]⟩) rfl
 exact bodyPost_ret (v := .agg #[.int .i64 1, .int .i64 t, .int .i64 0, .int .i64 v, .string ⟨#[]⟩]) (by simp [results, go_sem, m0, m1, m2, m3, m4]) rfl ⟨rfl, FB⟩
set_option maxHeartbeats 1000000 in
theorem told_entry (i t : Int) (d : ByteArray) (w : World) (hd : d.size ≤ 1048576) : Calls Try.prog 20 #[.iface 74 (.agg #[.int .i64 i, .int .i64 t, .string d])] w fun e w' => e = .returned (.agg #[.int .i64 2, .int .i64 t, .int .i64 i, .int .i64 0, .string d]) ∧ Below w.heap.size w w' := by
 have c1 := fun wx => entryRec i t d wx
 have c2 := fun wx => clone d wx (by omega)
 clear hd
 go_enter Try.func20, Try.ntmps20
 go_wp2_with fail
 have hb0 : Below w.heap.size w (w.alloc (.cells #[.int .i64 0, .int .i64 0, .int .i64 0, .int .i64 0, .string ⟨#[]⟩] 35)) := (Below.refl _ _).alloc (Nat.le_refl _) _
 have k0 := Blk.new w #[.int .i64 0, .int .i64 0, .int .i64 0, .int .i64 0, .string ⟨#[]⟩] 35
 generalize w.alloc (.cells #[.int .i64 0, .int .i64 0, .int .i64 0, .int .i64 0, .string ⟨#[]⟩] 35) = W at *
 refine (c1 _).mono ?_
 rintro e w1 ⟨rfl, hb1⟩
 have B1 : Hid (Below w.heap.size w w1) := hb0.trans (hb1.mono hb0.size)
 have K1 : Hid (Blk w1 w.heap.size #[.int .i64 0, .int .i64 0, .int .i64 0, .int .i64 0, .string ⟨#[]⟩] 35) := k0.on hb1 k0.lt
 clear hb0 hb1 k0 c1
 go_wp2_with fail
 have hb2 : Below w1.heap.size w1 (w1.alloc (.cells #[.int .i64 2, .int .i64 t, .int .i64 i, .int .i64 0, .string d] 35)) := (Below.refl _ _).alloc (Nat.le_refl _) _
 have l2 := Blk.new w1 #[.int .i64 2, .int .i64 t, .int .i64 i, .int .i64 0, .string d] 35
 have z2 := K1.out.lt
 generalize w1.alloc (.cells #[.int .i64 2, .int .i64 t, .int .i64 i, .int .i64 0, .string d] 35) = W2 at *
 refine (c2 _).mono ?_
 rintro e w3 ⟨rfl, hb3⟩
 have B3 : Hid (Below w.heap.size w w3) := B1.out.trans ((hb2.trans (hb3.mono hb2.size)).mono B1.out.size)
 have k3 := (K1.out.on hb2 z2).on hb3 (Nat.lt_of_lt_of_le z2 hb2.size)
 have l3 := l2.on hb3 l2.lt
 clear hb2 hb3 c2 l2 K1 B1
 generalize hq : w1.heap.size = q at *
 have e0 := l3.cell 0 (.int .i64 2) rfl
 have f0 := l3.free 0
 have e1 := l3.cell 1 (.int .i64 t) rfl
 have f1 := l3.free 1
 have e2 := l3.cell 2 (.int .i64 i) rfl
 have f2 := l3.free 2
 have e3 := l3.cell 3 (.int .i64 0) rfl
 have f3 := l3.free 3
 have e4 := l3.cell 4 (.string d) rfl
 have f4 := l3.free 4
 have r0 := k3.cell 0 (.int .i64 0) rfl
 have g0 := k3.free 0
 have r1 := k3.cell 1 (.int .i64 0) rfl
 have g1 := k3.free 1
 have r2 := k3.cell 2 (.int .i64 0) rfl
 have g2 := k3.free 2
 have r3 := k3.cell 3 (.int .i64 0) rfl
 have g3 := k3.free 3
 have r4 := k3.cell 4 (.string ⟨#[]⟩) rfl
 have g4 := k3.free 4
 have K3 : Hid (Blk w3 w.heap.size _ _) := k3
 have L3 : Hid (Blk w3 q _ _) := l3
 go_wp2_with fail
 have hF := ((((((k3.other (show w.heap.size ≠ q by omega) 4 (.string d)).set 0 (.int .i64 2)).set 1 (.int .i64 t)).set 2 (.int .i64 i)).set 3 (.int .i64 0)).set 4 (.string d))
 have FB := ((((((B3.out.setCell (show w.heap.size ≤ q by omega) (.string d) (p := ⟨_, 4, none⟩)).setCell (Nat.le_refl _) (.int .i64 2) (p := ⟨_, 0, none⟩)).setCell (Nat.le_refl _) (.int .i64 t) (p := ⟨_, 1, none⟩)).setCell (Nat.le_refl _) (.int .i64 i) (p := ⟨_, 2, none⟩)).setCell (Nat.le_refl _) (.int .i64 0) (p := ⟨_, 3, none⟩)).setCell (Nat.le_refl _) (.string d) (p := ⟨_, 4, none⟩))
 clear e0 e1 e2 e3 e4 f0 f1 f2 f3 f4 r0 r1 r2 r3 r4 g0 g1 g2 g3 g4
 generalize ((((((w3.setCell ⟨q, 4, none⟩ (.string d)).setCell ⟨w.heap.size, 0, none⟩ (.int .i64 2)).setCell ⟨w.heap.size, 1, none⟩ (.int .i64 t)).setCell ⟨w.heap.size, 2, none⟩ (.int .i64 i)).setCell ⟨w.heap.size, 3, none⟩ (.int .i64 0)).setCell ⟨w.heap.size, 4, none⟩ (.string d)) = WF at *
 have hG : Blk WF w.heap.size #[.int .i64 2, .int .i64 t, .int .i64 i, .int .i64 0, .string d] 35 := hF
 have m0 := hG.cell 0 (.int .i64 2) rfl
 have m1 := hG.cell 1 (.int .i64 t) rfl
 have m2 := hG.cell 2 (.int .i64 i) rfl
 have m3 := hG.cell 3 (.int .i64 0) rfl
 have m4 := hG.cell 4 (.string d) rfl
 exact bodyPost_ret (v := .agg #[.int .i64 2, .int .i64 t, .int .i64 i, .int .i64 0, .string d]) (by simp [results, go_sem, m0, m1, m2, m3, m4]) rfl ⟨rfl, FB⟩
set_option maxHeartbeats 1000000 in
theorem told_cut (i : Int) (w : World) (hd : 0 ≤ 1048576) : Calls Try.prog 20 #[.iface 51 (.agg #[.int .i64 i])] w fun e w' => e = .returned (.agg #[.int .i64 3, .int .i64 0, .int .i64 i, .int .i64 0, .string ⟨#[]⟩]) ∧ Below w.heap.size w w' := by
 have c1 := fun wx => cutRec i wx
 have c2 := fun wx => clone ⟨#[]⟩ wx (Nat.zero_le _)
 clear hd
 go_enter Try.func20, Try.ntmps20
 go_wp2_with fail
 have hb0 : Below w.heap.size w (w.alloc (.cells #[.int .i64 0, .int .i64 0, .int .i64 0, .int .i64 0, .string ⟨#[]⟩] 35)) := (Below.refl _ _).alloc (Nat.le_refl _) _
 have k0 := Blk.new w #[.int .i64 0, .int .i64 0, .int .i64 0, .int .i64 0, .string ⟨#[]⟩] 35
 generalize w.alloc (.cells #[.int .i64 0, .int .i64 0, .int .i64 0, .int .i64 0, .string ⟨#[]⟩] 35) = W at *
 refine (c1 _).mono ?_
 rintro e w1 ⟨rfl, hb1⟩
 have B1 : Hid (Below w.heap.size w w1) := hb0.trans (hb1.mono hb0.size)
 have K1 : Hid (Blk w1 w.heap.size #[.int .i64 0, .int .i64 0, .int .i64 0, .int .i64 0, .string ⟨#[]⟩] 35) := k0.on hb1 k0.lt
 clear hb0 hb1 k0 c1
 go_wp2_with fail
 have hb2 : Below w1.heap.size w1 (w1.alloc (.cells #[.int .i64 3, .int .i64 0, .int .i64 i, .int .i64 0, .string ⟨#[]⟩] 35)) := (Below.refl _ _).alloc (Nat.le_refl _) _
 have l2 := Blk.new w1 #[.int .i64 3, .int .i64 0, .int .i64 i, .int .i64 0, .string ⟨#[]⟩] 35
 have z2 := K1.out.lt
 generalize w1.alloc (.cells #[.int .i64 3, .int .i64 0, .int .i64 i, .int .i64 0, .string ⟨#[]⟩] 35) = W2 at *
 refine (c2 _).mono ?_
 rintro e w3 ⟨rfl, hb3⟩
 have B3 : Hid (Below w.heap.size w w3) := B1.out.trans ((hb2.trans (hb3.mono hb2.size)).mono B1.out.size)
 have k3 := (K1.out.on hb2 z2).on hb3 (Nat.lt_of_lt_of_le z2 hb2.size)
 have l3 := l2.on hb3 l2.lt
 clear hb2 hb3 c2 l2 K1 B1
 generalize hq : w1.heap.size = q at *
 have e0 := l3.cell 0 (.int .i64 3) rfl
 have f0 := l3.free 0
 have e1 := l3.cell 1 (.int .i64 0) rfl
 have f1 := l3.free 1
 have e2 := l3.cell 2 (.int .i64 i) rfl
 have f2 := l3.free 2
 have e3 := l3.cell 3 (.int .i64 0) rfl
 have f3 := l3.free 3
 have e4 := l3.cell 4 (.string ⟨#[]⟩) rfl
 have f4 := l3.free 4
 have r0 := k3.cell 0 (.int .i64 0) rfl
 have g0 := k3.free 0
 have r1 := k3.cell 1 (.int .i64 0) rfl
 have g1 := k3.free 1
 have r2 := k3.cell 2 (.int .i64 0) rfl
 have g2 := k3.free 2
 have r3 := k3.cell 3 (.int .i64 0) rfl
 have g3 := k3.free 3
 have r4 := k3.cell 4 (.string ⟨#[]⟩) rfl
 have g4 := k3.free 4
 have K3 : Hid (Blk w3 w.heap.size _ _) := k3
 have L3 : Hid (Blk w3 q _ _) := l3
 go_wp2_with fail
 have hF := ((((((k3.other (show w.heap.size ≠ q by omega) 4 (.string ⟨#[]⟩)).set 0 (.int .i64 3)).set 1 (.int .i64 0)).set 2 (.int .i64 i)).set 3 (.int .i64 0)).set 4 (.string ⟨#[]⟩))
 have FB := ((((((B3.out.setCell (show w.heap.size ≤ q by omega) (.string ⟨#[]⟩) (p := ⟨_, 4, none⟩)).setCell (Nat.le_refl _) (.int .i64 3) (p := ⟨_, 0, none⟩)).setCell (Nat.le_refl _) (.int .i64 0) (p := ⟨_, 1, none⟩)).setCell (Nat.le_refl _) (.int .i64 i) (p := ⟨_, 2, none⟩)).setCell (Nat.le_refl _) (.int .i64 0) (p := ⟨_, 3, none⟩)).setCell (Nat.le_refl _) (.string ⟨#[]⟩) (p := ⟨_, 4, none⟩))
 clear e0 e1 e2 e3 e4 f0 f1 f2 f3 f4 r0 r1 r2 r3 r4 g0 g1 g2 g3 g4
 generalize ((((((w3.setCell ⟨q, 4, none⟩ (.string ⟨#[]⟩)).setCell ⟨w.heap.size, 0, none⟩ (.int .i64 3)).setCell ⟨w.heap.size, 1, none⟩ (.int .i64 0)).setCell ⟨w.heap.size, 2, none⟩ (.int .i64 i)).setCell ⟨w.heap.size, 3, none⟩ (.int .i64 0)).setCell ⟨w.heap.size, 4, none⟩ (.string ⟨#[]⟩)) = WF at *
 have hG : Blk WF w.heap.size #[.int .i64 3, .int .i64 0, .int .i64 i, .int .i64 0, .string ⟨#[]⟩] 35 := hF
 have m0 := hG.cell 0 (.int .i64 3) rfl
 have m1 := hG.cell 1 (.int .i64 0) rfl
 have m2 := hG.cell 2 (.int .i64 i) rfl
 have m3 := hG.cell 3 (.int .i64 0) rfl
 have m4 := hG.cell 4 (.string ⟨#[]⟩) rfl
 exact bodyPost_ret (v := .agg #[.int .i64 3, .int .i64 0, .int .i64 i, .int .i64 0, .string ⟨#[]⟩]) (by simp [results, go_sem, m0, m1, m2, m3, m4]) rfl ⟨rfl, FB⟩
set_option maxHeartbeats 1000000 in
theorem told_base (i t : Int) (w : World) (hd : 0 ≤ 1048576) : Calls Try.prog 20 #[.iface 90 (.agg #[.int .i64 i, .int .i64 t])] w fun e w' => e = .returned (.agg #[.int .i64 4, .int .i64 t, .int .i64 i, .int .i64 0, .string ⟨#[]⟩]) ∧ Below w.heap.size w w' := by
 have c1 := fun wx => baseRec i t wx
 have c2 := fun wx => clone ⟨#[]⟩ wx (Nat.zero_le _)
 clear hd
 go_enter Try.func20, Try.ntmps20
 go_wp2_with fail
 have hb0 : Below w.heap.size w (w.alloc (.cells #[.int .i64 0, .int .i64 0, .int .i64 0, .int .i64 0, .string ⟨#[]⟩] 35)) := (Below.refl _ _).alloc (Nat.le_refl _) _
 have k0 := Blk.new w #[.int .i64 0, .int .i64 0, .int .i64 0, .int .i64 0, .string ⟨#[]⟩] 35
 generalize w.alloc (.cells #[.int .i64 0, .int .i64 0, .int .i64 0, .int .i64 0, .string ⟨#[]⟩] 35) = W at *
 refine (c1 _).mono ?_
 rintro e w1 ⟨rfl, hb1⟩
 have B1 : Hid (Below w.heap.size w w1) := hb0.trans (hb1.mono hb0.size)
 have K1 : Hid (Blk w1 w.heap.size #[.int .i64 0, .int .i64 0, .int .i64 0, .int .i64 0, .string ⟨#[]⟩] 35) := k0.on hb1 k0.lt
 clear hb0 hb1 k0 c1
 go_wp2_with fail
 have hb2 : Below w1.heap.size w1 (w1.alloc (.cells #[.int .i64 4, .int .i64 t, .int .i64 i, .int .i64 0, .string ⟨#[]⟩] 35)) := (Below.refl _ _).alloc (Nat.le_refl _) _
 have l2 := Blk.new w1 #[.int .i64 4, .int .i64 t, .int .i64 i, .int .i64 0, .string ⟨#[]⟩] 35
 have z2 := K1.out.lt
 generalize w1.alloc (.cells #[.int .i64 4, .int .i64 t, .int .i64 i, .int .i64 0, .string ⟨#[]⟩] 35) = W2 at *
 refine (c2 _).mono ?_
 rintro e w3 ⟨rfl, hb3⟩
 have B3 : Hid (Below w.heap.size w w3) := B1.out.trans ((hb2.trans (hb3.mono hb2.size)).mono B1.out.size)
 have k3 := (K1.out.on hb2 z2).on hb3 (Nat.lt_of_lt_of_le z2 hb2.size)
 have l3 := l2.on hb3 l2.lt
 clear hb2 hb3 c2 l2 K1 B1
 generalize hq : w1.heap.size = q at *
 have e0 := l3.cell 0 (.int .i64 4) rfl
 have f0 := l3.free 0
 have e1 := l3.cell 1 (.int .i64 t) rfl
 have f1 := l3.free 1
 have e2 := l3.cell 2 (.int .i64 i) rfl
 have f2 := l3.free 2
 have e3 := l3.cell 3 (.int .i64 0) rfl
 have f3 := l3.free 3
 have e4 := l3.cell 4 (.string ⟨#[]⟩) rfl
 have f4 := l3.free 4
 have r0 := k3.cell 0 (.int .i64 0) rfl
 have g0 := k3.free 0
 have r1 := k3.cell 1 (.int .i64 0) rfl
 have g1 := k3.free 1
 have r2 := k3.cell 2 (.int .i64 0) rfl
 have g2 := k3.free 2
 have r3 := k3.cell 3 (.int .i64 0) rfl
 have g3 := k3.free 3
 have r4 := k3.cell 4 (.string ⟨#[]⟩) rfl
 have g4 := k3.free 4
 have K3 : Hid (Blk w3 w.heap.size _ _) := k3
 have L3 : Hid (Blk w3 q _ _) := l3
 go_wp2_with fail
 have hF := ((((((k3.other (show w.heap.size ≠ q by omega) 4 (.string ⟨#[]⟩)).set 0 (.int .i64 4)).set 1 (.int .i64 t)).set 2 (.int .i64 i)).set 3 (.int .i64 0)).set 4 (.string ⟨#[]⟩))
 have FB := ((((((B3.out.setCell (show w.heap.size ≤ q by omega) (.string ⟨#[]⟩) (p := ⟨_, 4, none⟩)).setCell (Nat.le_refl _) (.int .i64 4) (p := ⟨_, 0, none⟩)).setCell (Nat.le_refl _) (.int .i64 t) (p := ⟨_, 1, none⟩)).setCell (Nat.le_refl _) (.int .i64 i) (p := ⟨_, 2, none⟩)).setCell (Nat.le_refl _) (.int .i64 0) (p := ⟨_, 3, none⟩)).setCell (Nat.le_refl _) (.string ⟨#[]⟩) (p := ⟨_, 4, none⟩))
 clear e0 e1 e2 e3 e4 f0 f1 f2 f3 f4 r0 r1 r2 r3 r4 g0 g1 g2 g3 g4
 generalize ((((((w3.setCell ⟨q, 4, none⟩ (.string ⟨#[]⟩)).setCell ⟨w.heap.size, 0, none⟩ (.int .i64 4)).setCell ⟨w.heap.size, 1, none⟩ (.int .i64 t)).setCell ⟨w.heap.size, 2, none⟩ (.int .i64 i)).setCell ⟨w.heap.size, 3, none⟩ (.int .i64 0)).setCell ⟨w.heap.size, 4, none⟩ (.string ⟨#[]⟩)) = WF at *
 have hG : Blk WF w.heap.size #[.int .i64 4, .int .i64 t, .int .i64 i, .int .i64 0, .string ⟨#[]⟩] 35 := hF
 have m0 := hG.cell 0 (.int .i64 4) rfl
 have m1 := hG.cell 1 (.int .i64 t) rfl
 have m2 := hG.cell 2 (.int .i64 i) rfl
 have m3 := hG.cell 3 (.int .i64 0) rfl
 have m4 := hG.cell 4 (.string ⟨#[]⟩) rfl
 exact bodyPost_ret (v := .agg #[.int .i64 4, .int .i64 t, .int .i64 i, .int .i64 0, .string ⟨#[]⟩]) (by simp [results, go_sem, m0, m1, m2, m3, m4]) rfl ⟨rfl, FB⟩
theorem rest0_of (k t i v : Int) (d : ByteArray) (h : recOk ⟨k, t, i, v, d⟩ = true) : (k = 1 ∧ i = 0 ∧ d = ⟨#[]⟩) ∨ (k = 2 ∧ v = 0) ∨ (k = 3 ∧ t = 0 ∧ v = 0 ∧ d = ⟨#[]⟩) ∨ (k = 4 ∧ v = 0 ∧ d = ⟨#[]⟩) := by
 rw [recOk_iff, Bool.and_eq_true] at h
 obtain ⟨h1, h2⟩ := h
 have h1 := of_decide_eq_true h1
 unfold rest0 at h2
 rcases (show k = 1 ∨ k = 2 ∨ k = 3 ∨ k = 4 by omega) with rfl | rfl | rfl | rfl
 ·simp at h2
  exact .inl ⟨rfl, h2⟩
 ·simp at h2
  exact .inr (.inl ⟨rfl, h2⟩)
 ·simp at h2
  exact .inr (.inr (.inl ⟨rfl, h2.1.1, h2.1.2, h2.2⟩))
 ·simp at h2
  exact .inr (.inr (.inr ⟨rfl, h2⟩))
theorem toldV (r : Rcd) (w : World) (ho : recOk r = true) (hd : r.data.size ≤ 1048576) : Calls Try.prog 20 #[kindV r] w fun e w' => e = .returned (vRcd r) ∧ Below w.heap.size w w' := by
 obtain ⟨k, t, i, v, d⟩ := r
 rcases rest0_of k t i v d ho with ⟨rfl, rfl, rfl⟩ | ⟨rfl, rfl⟩ | ⟨rfl, rfl, rfl, rfl⟩ | ⟨rfl, rfl, rfl⟩
 ·exact told_hard t v w (Nat.zero_le _)
 ·exact told_entry i t d w hd
 ·exact told_cut i w (Nat.zero_le _)
 ·exact told_base i t w (Nat.zero_le _)
theorem kindV_iface (r : Rcd) : ∃ a b, kindV r = .iface a b := by
 unfold kindV
 split
 ·exact ⟨_, _, rfl⟩
 split
 ·exact ⟨_, _, rfl⟩
 split
 ·exact ⟨_, _, rfl⟩
 ·exact ⟨_, _, rfl⟩
def toldO (r : Rcd) : Value := if recOk r = true then .tuple #[vRcd r, .bool true] else .tuple #[.agg #[.int .i64 0, .int .i64 0, .int .i64 0, .int .i64 0, .string ⟨#[]⟩], .bool false]
set_option maxHeartbeats 1000000 in
theorem implReadRec_no (s : ByteArray) (w : World) (hs : s.size ≤ 1048576) (c1 : ∀ wx, Calls Try.prog 26 #[.string s] wx fun e w' => e = .returned .nilIface ∧ Below wx.heap.size wx w') :
  Calls Try.prog 9 #[.string s] w fun e w' => e = .returned (.tuple #[.agg #[.int .i64 0, .int .i64 0, .int .i64 0, .int .i64 0, .string ⟨#[]⟩], .bool false]) ∧ Below w.heap.size w w' := by
 have hb0 : Below w.heap.size w (w.alloc (.cells #[.int .i64 0, .int .i64 0, .int .i64 0, .int .i64 0, .string ⟨#[]⟩] 35)) := (Below.refl _ _).alloc (Nat.le_refl _) _
 have k0 := Blk.new w #[.int .i64 0, .int .i64 0, .int .i64 0, .int .i64 0, .string ⟨#[]⟩] 35
 go_enter Try.func9, Try.ntmps9
 go_wp2_with fail
 generalize w.alloc (.cells #[.int .i64 0, .int .i64 0, .int .i64 0, .int .i64 0, .string ⟨#[]⟩] 35) = W at *
 refine (c1 _).mono ?_
 rintro e w1 ⟨rfl, hb1⟩
 have B1 : Hid (Below w.heap.size w w1) := hb0.trans (hb1.mono hb0.size)
 have k1 := k0.on hb1 k0.lt
 clear hb0 hb1 k0 c1
 have r0 := k1.cell 0 (.int .i64 0) rfl
 have g0 := k1.free 0
 have r1 := k1.cell 1 (.int .i64 0) rfl
 have g1 := k1.free 1
 have r2 := k1.cell 2 (.int .i64 0) rfl
 have g2 := k1.free 2
 have r3 := k1.cell 3 (.int .i64 0) rfl
 have g3 := k1.free 3
 have r4 := k1.cell 4 (.string ⟨#[]⟩) rfl
 have g4 := k1.free 4
 have K1 : Hid (Blk w1 w.heap.size _ _) := k1
 go_wp2_with fail
 have hF := (((((k1.set 0 (.int .i64 0)).set 1 (.int .i64 0)).set 2 (.int .i64 0)).set 3 (.int .i64 0)).set 4 (.string ⟨#[]⟩))
 have FB := (((((B1.out.setCell (Nat.le_refl _) (.int .i64 0) (p := ⟨_, 0, none⟩)).setCell (Nat.le_refl _) (.int .i64 0) (p := ⟨_, 1, none⟩)).setCell (Nat.le_refl _) (.int .i64 0) (p := ⟨_, 2, none⟩)).setCell (Nat.le_refl _) (.int .i64 0) (p := ⟨_, 3, none⟩)).setCell (Nat.le_refl _) (.string ⟨#[]⟩) (p := ⟨_, 4, none⟩))
 clear r0 r1 r2 r3 r4 g0 g1 g2 g3 g4
 generalize (((((w1.setCell ⟨w.heap.size, 0, none⟩ (.int .i64 0)).setCell ⟨w.heap.size, 1, none⟩ (.int .i64 0)).setCell ⟨w.heap.size, 2, none⟩ (.int .i64 0)).setCell ⟨w.heap.size, 3, none⟩ (.int .i64 0)).setCell ⟨w.heap.size, 4, none⟩ (.string ⟨#[]⟩)) = WF at *
 have hG : Blk WF w.heap.size #[.int .i64 0, .int .i64 0, .int .i64 0, .int .i64 0, .string ⟨#[]⟩] 35 := hF
 have m0 := hG.cell 0 (.int .i64 0) rfl
 have m1 := hG.cell 1 (.int .i64 0) rfl
 have m2 := hG.cell 2 (.int .i64 0) rfl
 have m3 := hG.cell 3 (.int .i64 0) rfl
 have m4 := hG.cell 4 (.string ⟨#[]⟩) rfl
 exact bodyPost_ret (v := .tuple #[.agg #[.int .i64 0, .int .i64 0, .int .i64 0, .int .i64 0, .string ⟨#[]⟩], .bool false]) (by simp [results, go_sem, m0, m1, m2, m3, m4]) rfl ⟨rfl, FB⟩
set_option maxHeartbeats 1000000 in
theorem implReadRec_yes (s : ByteArray) (r : Rcd) (w : World) (hs : s.size ≤ 1048576) (hd : r.data.size ≤ 1048576) (ho : recOk r = true) (c1 : ∀ wx, Calls Try.prog 26 #[.string s] wx fun e w' => e = .returned (recV r) ∧ Below wx.heap.size wx w') :
  Calls Try.prog 9 #[.string s] w fun e w' => e = .returned (.tuple #[vRcd r, .bool true]) ∧ Below w.heap.size w w' := by
 obtain ⟨a, b, hab⟩ := kindV_iface r
 have c2 := fun wx => toldV r wx ho hd
 have hrv : recV r = kindV r := by unfold recV; rw [if_pos ho]
 rw [hrv, hab] at c1
 rw [hab] at c2
 have hb0 : Below w.heap.size w (w.alloc (.cells #[.int .i64 0, .int .i64 0, .int .i64 0, .int .i64 0, .string ⟨#[]⟩] 35)) := (Below.refl _ _).alloc (Nat.le_refl _) _
 have k0 := Blk.new w #[.int .i64 0, .int .i64 0, .int .i64 0, .int .i64 0, .string ⟨#[]⟩] 35
 clear hrv hab ho hd hs
 unfold vRcd at c2 ⊢
 go_enter Try.func9, Try.ntmps9
 go_wp2_with fail
 generalize w.alloc (.cells #[.int .i64 0, .int .i64 0, .int .i64 0, .int .i64 0, .string ⟨#[]⟩] 35) = W at *
 refine (c1 _).mono ?_
 rintro e w1 ⟨rfl, hb1⟩
 have B1 : Hid (Below w.heap.size w w1) := hb0.trans (hb1.mono hb0.size)
 have k1 := k0.on hb1 k0.lt
 clear hb0 hb1 k0 c1
 go_wp2_with fail
 refine (c2 _).mono ?_
 rintro e w2 ⟨rfl, hb2⟩
 have B2 : Hid (Below w.heap.size w w2) := B1.out.trans (hb2.mono B1.out.size)
 have k2 := k1.on hb2 k1.lt
 clear hb2 k1 c2
 have r0 := k2.cell 0 (.int .i64 0) rfl
 have g0 := k2.free 0
 have r1 := k2.cell 1 (.int .i64 0) rfl
 have g1 := k2.free 1
 have r2 := k2.cell 2 (.int .i64 0) rfl
 have g2 := k2.free 2
 have r3 := k2.cell 3 (.int .i64 0) rfl
 have g3 := k2.free 3
 have r4 := k2.cell 4 (.string ⟨#[]⟩) rfl
 have g4 := k2.free 4
 have K2 : Hid (Blk w2 w.heap.size _ _) := k2
 go_wp2_with fail
 have hF := (((((k2.set 0 (.int .i64 r.kind)).set 1 (.int .i64 r.term)).set 2 (.int .i64 r.index)).set 3 (.int .i64 r.vote)).set 4 (.string r.data))
 have FB := (((((B2.out.setCell (Nat.le_refl _) (.int .i64 r.kind) (p := ⟨_, 0, none⟩)).setCell (Nat.le_refl _) (.int .i64 r.term) (p := ⟨_, 1, none⟩)).setCell (Nat.le_refl _) (.int .i64 r.index) (p := ⟨_, 2, none⟩)).setCell (Nat.le_refl _) (.int .i64 r.vote) (p := ⟨_, 3, none⟩)).setCell (Nat.le_refl _) (.string r.data) (p := ⟨_, 4, none⟩))
 clear r0 r1 r2 r3 r4 g0 g1 g2 g3 g4
 generalize (((((w2.setCell ⟨w.heap.size, 0, none⟩ (.int .i64 r.kind)).setCell ⟨w.heap.size, 1, none⟩ (.int .i64 r.term)).setCell ⟨w.heap.size, 2, none⟩ (.int .i64 r.index)).setCell ⟨w.heap.size, 3, none⟩ (.int .i64 r.vote)).setCell ⟨w.heap.size, 4, none⟩ (.string r.data)) = WF at *
 have hG : Blk WF w.heap.size #[.int .i64 r.kind, .int .i64 r.term, .int .i64 r.index, .int .i64 r.vote, .string r.data] 35 := hF
 have m0 := hG.cell 0 (.int .i64 r.kind) rfl
 have m1 := hG.cell 1 (.int .i64 r.term) rfl
 have m2 := hG.cell 2 (.int .i64 r.index) rfl
 have m3 := hG.cell 3 (.int .i64 r.vote) rfl
 have m4 := hG.cell 4 (.string r.data) rfl
 exact bodyPost_ret (v := .tuple #[.agg #[.int .i64 r.kind, .int .i64 r.term, .int .i64 r.index, .int .i64 r.vote, .string r.data], .bool true]) (by simp [results, go_sem, m0, m1, m2, m3, m4]) rfl ⟨rfl, FB⟩
theorem implReadRec_at (s s1 s2 s3 s4 : ByteArray) (k1 k2 k3 : Nat) (w : World) (hs : s.size ≤ 1048576) (h : Parts s s1 s2 s3 s4 k1 k2 k3) :
  Calls Try.prog 9 #[.string s] w fun e w' => e = .returned (toldO (partsR s s1 s2 s3 s4 k1 k2 k3)) ∧ Below w.heap.size w w' := by
 have c1 := fun wx => readRecord_yes s s1 s2 s3 s4 k1 k2 k3 wx hs h
 have hz : s4.size ≤ s.size := by
  rw [h.e4, ext_size, h.e3, ext_size, h.e2, ext_size, h.e1, ext_size]
  omega
 cases ho : recOk (partsR s s1 s2 s3 s4 k1 k2 k3)
 ·have hrv : recV (partsR s s1 s2 s3 s4 k1 k2 k3) = .nilIface := by unfold recV; rw [ho]; rfl
  rw [hrv] at c1
  have : toldO (partsR s s1 s2 s3 s4 k1 k2 k3) = .tuple #[.agg #[.int .i64 0, .int .i64 0, .int .i64 0, .int .i64 0, .string ⟨#[]⟩], .bool false] := by unfold toldO; rw [ho]; rfl
  rw [this]
  exact implReadRec_no s w hs c1
 ·have : toldO (partsR s s1 s2 s3 s4 k1 k2 k3) = .tuple #[vRcd (partsR s s1 s2 s3 s4 k1 k2 k3), .bool true] := by unfold toldO; rw [ho]; rfl
  rw [this]
  exact implReadRec_yes s _ w hs (by show s4.size ≤ _; omega) ho c1
end Go.Proofs.Ytfmannphobjgpaa
namespace Go.Proofs.Ytfmannphobjgpaa
open Go.RowKit Go.PlainAid
theorem Owns.empty (w : World) (base : Nat) (e : TypeId) (sz : Nat) (hb : base ≤ w.heap.size) : Owns (w.alloc (.cells #[] e)) base e sz (.slice (some ⟨w.heap.size, 0, none⟩) 0 0) [] :=
 ⟨fun r hr => by simp at hr, World.ownsRow_lit w #[] 0 hb (by unfold maxLen; omega) (by simp)⟩
theorem Owns.nil (w : World) (base : Nat) (e : TypeId) (sz : Nat) : Owns w base e sz (.slice none 0 0) [] := ⟨fun r hr => by simp at hr, World.ownsRow_nil w base e sz⟩
theorem Owns.alloc {w : World} {base : Nat} {e : TypeId} {sz : Nat} {v : Value} {rows : List (List Value)} (h : Owns w base e sz v rows) (o : Obj) : Owns (w.alloc o) base e sz v rows := ⟨h.1, World.ownsRow.alloc h.2 o⟩
theorem run_append_where {P : Program} (w : World) (base : Nat) (t ty e : TypeId) (i : TypeInfo) (z : Value) (size bytes : Nat) (ht : P.underlying t = some (.slice e)) (hi : P.info? e = some i) (hz : i.zero = some z)
  (hsize : i.size = size) (hby : i.bytes = bytes)
  (v : Value) (n : Nat) (xs : List Value) (hown : w.ownsRow base e size v n xs)
  (a : Addr) (m c : Nat) (news : List Value) (hl : news.length = m * size) (hnews : ∀ j u, news[j]? = some u → w.cell? (a.add j) = some u) (h1 : ∀ u ∈ news, u.oneCell' = true)
  (h63 : n + m ≤ maxLen) (hbytes : (n + m) * bytes ≤ 140737488355328) (v' : Value) (w' : World)
  (h : (Builtin.append_ #[t, t] ty #[v, .slice (some a) m c]).run P w = .ok v' w') : v'.ownBlock = v.ownBlock ∨ v'.ownBlock = some w.heap.size := by
 subst hsize
 subst hby
 have hsmall : n + m ≤ 9223372036854775807 := by simp only [maxLen] at h63; omega
 rcases hown.2 with ⟨rfl, rfl⟩ | ⟨g, cap, cur, rfl, hbg, hg, hnc, hcm, hcs, htake⟩
 ·by_cases hm : m = 0
  ·subst hm
   have hn : news = [] := List.eq_nil_of_length_eq_zero (by simpa using hl)
   subst hn
   have hr : (Builtin.append_ #[t, t] ty #[.slice none 0 0, .slice (some a) 0 c]).run P w = .ok (.slice none 0 0) w := by
    simp [Builtin.append_, run_underlying ht, sizeOf, typeInfo, hi, Builtin.lenOf, Builtin.firstCells, loadCells, loadCellsFrom]
   rw [hr] at h
   cases h
   exact .inl rfl
  ·have hr := run_append_nil (P := P) w t ty e i z ht hi hz a m c news hl hnews (by omega) (by omega) (by have hb := hbytes; simp only [Nat.zero_add] at hb; omega)
   rw [hr] at h
   cases h
   exact .inr rfl
 ·by_cases hroom : n + m ≤ cap
  ·have hfit : n * i.size + news.length ≤ cur.size := by rw [hl, hcs, ← Nat.add_mul]; exact Nat.mul_le_mul_right _ hroom
   have hr := run_append_room (P := P) w t ty e i ht hi g n cap cur hg a m c news hl hnews h1 hroom hfit
   rw [hr] at h
   cases h
   exact .inl rfl
  ·have holds : ∀ j u, xs[j]? = some u → w.cell? ((⟨g, 0, none⟩ : Addr).add j) = some u := hown.cells (g := g) rfl
   have hr := run_append_grow (P := P) w t ty e i z ht hi hz ⟨g, 0, none⟩ n cap xs hown.1 holds a m c news hl hnews (by omega) (by omega) (growslice_fits (by omega) hbytes)
   rw [hr] at h
   cases h
   exact .inr rfl
theorem wpList_append_own2 {P : Program} {w : World} {ops : Array Oper} {rest : List Oper} {o : Oper} {a : Act} {Q : Exit → Act → World → Prop} (hgd : o.guard = none) (s x : Operand) (t : TypeId)
  (ho : o.op = .call { callee := .builtin .append, args := #[s, x], argTypes := #[t, t] })
  (base : Nat) (e : TypeId) (i : TypeInfo) (z : Value) (size bytes : Nat) (ht : P.underlying t = some (.slice e)) (hi : P.info? e = some i) (hz : i.zero = some z)
  (hsize : i.size = size) (hby : i.bytes = bytes) (hzs : z.cells.size = size) (hsz : 0 < size)
  (v : Value) (n : Nat) (xs : List Value) (hs : a.eval s = v) (hown : w.ownsRow base e size v n xs)
  (ad : Addr) (m c : Nat) (news : List Value) (hx : a.eval x = .slice (some ad) m c) (hl : news.length = m * size) (hnews : ∀ j u, news[j]? = some u → w.cell? (ad.add j) = some u) (h1 : ∀ u ∈ news, u.oneCell' = true)
  (h63 : n + m ≤ maxLen) (hbytes : (n + m) * bytes ≤ 140737488355328) (hbase : base ≤ w.heap.size)
  (h : ∀ v' w', w'.ownsRow base e size v' (n + m) (xs ++ news) → w.grownBy w' v.ownBlock → (v'.ownBlock = v.ownBlock ∨ v'.ownBlock = some w.heap.size) → wpList P ops Q rest (a.put o.dst v') w') : wpList P ops Q (o :: rest) a w := by
 obtain ⟨v', w', hr, h2, h3, _⟩ := run_append_own (P := P) w base t o.type e i z size bytes ht hi hz hsize hby hzs hsz v n xs hown ad m c news hl hnews h1 h63 hbytes hbase
 have h5 := run_append_where (P := P) w base t o.type e i z size bytes ht hi hz hsize hby v n xs hown ad m c news hl hnews h1 h63 hbytes v' w' hr
 refine wpList_plain hgd fun K hK => ?_
 unfold Oper.wp execOp
 simp only [ho, resolve, invoke, builtin, Sem.run_bind, Sem.run_pure, Result.andThen_ok, List.map_toArray, List.map_cons, List.map_nil, hs, hx, hr]
 exact hK _ _ (h v' w' h2 h3 h5)
theorem wpList_append_row {P : Program} {w : World} {ops : Array Oper} {rest : List Oper} {o : Oper} {a : Act} {Q : Exit → Act → World → Prop} (hgd : o.guard = none) (s x : Operand) (t e : TypeId) (z : Value) (sz bytes : Nat)
  (ho : o.op = .call { callee := .builtin .append, args := #[s, x], argTypes := #[t, t] })
  (ht : P.underlying t = some (.slice e)) (hinfo : (P.info? e).map (fun i => (i.zero, i.size, i.bytes)) = some (some z, sz, bytes)) (hzs : z.cells.size = sz) (hsz : 0 < sz)
  (base : Nat) (v : Value) (rows : List (List Value)) (hs : a.eval s = v) (hown : Owns w base e sz v rows) (r : List Value) (hr : r.length = sz) (h1 : ∀ u ∈ r, u.oneCell' = true)
  (hx : a.eval x = .slice (some ⟨w.heap.size, 0, none⟩) 1 1) (hlen : rows.length ≤ 2097152) (hby : bytes ≤ 1000) (hbase : base ≤ w.heap.size)
  (h : ∀ v' w', Owns w' base e sz v' (rows ++ [r]) → Below base w w' → (∀ g, g < w.heap.size → v.ownBlock ≠ some g → w'.heap[g]? = w.heap[g]?) → (v'.ownBlock = v.ownBlock ∨ ∀ g, v'.ownBlock = some g → w.heap.size ≤ g) → wpList P ops Q rest (a.put o.dst v') w') : wpList P ops Q (o :: rest) a (w.alloc (.cells r.toArray e)) := by
 obtain ⟨i0, hi, hz0, hz1, hz2⟩ := info_parts hinfo
 have hb1 : (rows.length + 1) * bytes ≤ 140737488355328 := Nat.le_trans (Nat.mul_le_mul (show rows.length + 1 ≤ 2097153 by omega) hby) (by omega)
 refine wpList_append_own2 (w := w.alloc (.cells r.toArray e)) hgd s x t ho base e i0 z sz bytes ht hi hz0 hz1 hz2 hzs hsz v rows.length rows.flatten hs (World.ownsRow.alloc hown.2 _) ⟨w.heap.size, 0, none⟩ 1 1 r hx (by rw [hr]; omega) ?_ h1 (by unfold maxLen; omega) hb1 (by simp; omega) ?_
 ·intro j u hj
  have e1 : (⟨w.heap.size, 0, none⟩ : Addr).add j = ⟨w.heap.size, j, none⟩ := by cases j <;> simp [Addr.add]
  rw [e1, World.cell?_alloc_mark]
  simpa using hj
 ·intro v' w' h2 h3 h5
  have hb0 : ∀ k, v.ownBlock = some k → base ≤ k := fun k hk => (hown.lt k hk).1
  refine h v' w' ⟨?_, ?_⟩ ?_ ?_ (h5.imp id fun e g hg => by rw [e] at hg; cases hg; simp)
  ·intro y hy
   rcases List.mem_append.1 hy with hy | hy
   ·exact hown.1 y hy
   ·rw [List.mem_singleton.1 hy]; exact hr
  ·rw [List.length_append, List.flatten_append]
   simpa using h2
  ·exact ((Below.refl base w).alloc hbase _).grown h3 (by simp; omega) hb0
  ·intro g hg hne
   rw [h3.block g (by simp; omega) (fun e => hne e.symm)]
   exact Below.heap_alloc w _ g hg
theorem wpList_append_all {P : Program} {w : World} {ops : Array Oper} {rest : List Oper} {o : Oper} {a : Act} {Q : Exit → Act → World → Prop} (hgd : o.guard = none) (s x : Operand) (t e : TypeId) (z : Value) (sz bytes : Nat)
  (ho : o.op = .call { callee := .builtin .append, args := #[s, x], argTypes := #[t, t] })
  (ht : P.underlying t = some (.slice e)) (hinfo : (P.info? e).map (fun i => (i.zero, i.size, i.bytes)) = some (some z, sz, bytes)) (hzs : z.cells.size = sz) (hsz : 0 < sz)
  (base : Nat) (v u : Value) (rows more : List (List Value)) (B : Nat) (hs : a.eval s = v) (hown : Owns w base e sz v rows) (hu : Lies w B sz u more) (h1 : ∀ r ∈ more, ∀ y ∈ r, y.oneCell' = true)
  (hx : a.eval x = u) (hlen : rows.length + more.length ≤ 2097152) (hby : bytes ≤ 1000) (hbase : base ≤ w.heap.size)
  (h : ∀ v' w', Owns w' base e sz v' (rows ++ more) → Below base w w' → (∀ g, g < w.heap.size → v.ownBlock ≠ some g → w'.heap[g]? = w.heap[g]?) → (v'.ownBlock = v.ownBlock ∨ ∀ g, v'.ownBlock = some g → w.heap.size ≤ g) → wpList P ops Q rest (a.put o.dst v') w') : wpList P ops Q (o :: rest) a w := by
 obtain ⟨i0, hi, hz0, hz1, hz2⟩ := info_parts hinfo
 have hb1 : (rows.length + more.length) * bytes ≤ 140737488355328 := Nat.le_trans (Nat.mul_le_mul hlen hby) (by omega)
 obtain ⟨A, cap, rfl, hz, hms, hm⟩ := hu
 have fin : ∀ v' w', w'.ownsRow base e sz v' (rows.length + more.length) (rows.flatten ++ more.flatten) → w.grownBy w' v.ownBlock → (v'.ownBlock = v.ownBlock ∨ v'.ownBlock = some w.heap.size) → wpList P ops Q rest (a.put o.dst v') w' := by
  intro v' w' h2 h3 h5
  have hb0 : ∀ k, v.ownBlock = some k → base ≤ k := fun k hk => (hown.lt k hk).1
  refine h v' w' ⟨?_, ?_⟩ ?_ ?_ (h5.imp id fun e g hg => by rw [e] at hg; cases hg; exact Nat.le_refl _)
  ·intro y hy
   rcases List.mem_append.1 hy with hy | hy
   ·exact hown.1 y hy
   ·exact hms y hy
  ·rw [List.length_append, List.flatten_append]
   exact h2
  ·exact (Below.refl base w).grown h3 hbase hb0
  ·intro g hg hne
   exact h3.block g hg (fun e => hne e.symm)
 match A, hz, hx, hm with
 | none, hz, hx, hm =>
  have h0 : more.length = 0 := by
   rcases hm with h0 | ⟨g, off, e, _⟩
   ·exact h0
   ·cases e
  have hc0 := hz.1 rfl
  subst hc0
  have hnil : more = [] := List.eq_nil_of_length_eq_zero h0
  subst hnil
  refine wpList_plain hgd fun K hK => ?_
  have hr := run_append_owned_none (P := P) w base t o.type e i0 sz ht hi v rows.length rows.flatten hown.2
  unfold Oper.wp
  simp [execOp, ho, resolve, invoke, builtin, hs, hx, hr, Result.andThen]
  refine hK _ _ (fin v w ?_ ⟨rfl, rfl, rfl, Nat.le_refl _, fun _ _ _ => rfl⟩ (.inl rfl))
  simpa using hown.2
 | some ad, hz, hx, hm =>
  refine wpList_append_own2 (w := w) hgd s x t ho base e i0 z sz bytes ht hi hz0 hz1 hz2 hzs hsz v rows.length rows.flatten hs hown.2 ad more.length cap more.flatten hx (flat_length sz more hms) ?_ ?_ (by unfold maxLen; omega) hb1 hbase ?_
  ·intro j y hj
   rcases hm with h0 | ⟨g, off, e, hg, hc⟩
   ·rw [List.eq_nil_of_length_eq_zero h0] at hj
    simp at hj
   ·cases e
    have e1 : (⟨g, off, none⟩ : Addr).add j = ⟨g, off + j, none⟩ := by cases j <;> simp [Addr.add]
    rw [e1]
    exact hc j y hj
  ·intro y hy
   obtain ⟨r, hr, hyr⟩ := List.mem_flatten.1 hy
   exact h1 r hr y hyr
  ·intro v' w' h2 h3 h5
   exact fin v' w' h2 h3 h5
theorem ent_one (l : List Ent) : ∀ r ∈ entR l, ∀ y ∈ r, y.oneCell' = true := by
 intro r hr y hy
 obtain ⟨x, _, rfl⟩ := List.mem_map.1 hr
 simp [entC] at hy
 rcases hy with rfl | rfl <;> rfl
theorem Owns.first {w : World} {base : Nat} {e : TypeId} {sz : Nat} {A : Option Addr} {n c : Nat} {rows : List (List Value)} (h : Owns w base e sz (.slice A n c) rows) (k : Nat) (hk : k ≤ rows.length) : Owns w base e sz (.slice A k c) (rows.take k) := by
 obtain ⟨hs, hl, h⟩ := h
 have hkl : (rows.take k).length = k := by rw [List.length_take]; omega
 have hs' : ∀ r ∈ rows.take k, r.length = sz := fun r hr => hs r (List.mem_of_mem_take hr)
 have hft : (rows.take k).flatten = rows.flatten.take (k * sz) := by
  have h1 : rows.flatten = (rows.take k).flatten ++ (rows.drop k).flatten := by rw [← List.flatten_append, List.take_append_drop]
  have hl2 : (rows.take k).flatten.length = k * sz := by rw [flat_length sz _ hs', hkl]
  rw [h1]
  exact (List.take_left' hl2).symm
 refine ⟨hs', ?_, ?_⟩
 ·rw [flat_length sz _ hs']
 rcases h with ⟨e1, h0⟩ | ⟨g, cap, cur, e1, hb, hh, hn, hm, hz, ht⟩
 ·cases e1
  have : k = 0 := by omega
  subst this
  exact .inl ⟨rfl, by simp⟩
 ·cases e1
  refine .inr ⟨g, c, cur, by rw [hkl], hb, hh, by rw [hkl]; omega, hm, hz, ?_⟩
  rw [hkl, hft, ← ht, List.take_take]
  congr 1
  have : k * sz ≤ rows.length * sz := Nat.mul_le_mul_right sz hk
  omega
end Go.Proofs.Ytfmannphobjgpaa
namespace Go.Proofs.Ytfmannphobjgpaa
open Go.ChangeShapes Go.WideShapes Go.ChangeAt Go.RowKit Go.PlainAid
set_option linter.unusedVariables false
def recAt (x : Wl) (i : Nat) : Rcd := ⟨2, (x.ents.getD i default).term, x.base + 1 + (i : Int), 0, (x.ents.getD i default).data⟩
def entRecs (x : Wl) (k : Nat) : List Rcd := (List.range k).map (recAt x)
theorem entRecs_succ (x : Wl) (k : Nat) : entRecs x (k + 1) = entRecs x k ++ [recAt x k] := by simp [entRecs, List.range_succ]
theorem entRecs_length (x : Wl) (k : Nat) : (entRecs x k).length = k := by simp [entRecs]
def kindR (l : List Rcd) : List (List Value) := l.map fun r => [kindV r]
theorem kindR_append (a b : List Rcd) : kindR (a ++ b) = kindR a ++ kindR b := by simp [kindR]
theorem kindR_length (l : List Rcd) : (kindR l).length = l.length := by simp [kindR]
theorem kindV_at (x : Wl) (i : Nat) : kindV (recAt x i) = .iface 74 (.agg #[.int .i64 (x.base + 1 + (i : Int)), .int .i64 (x.ents.getD i default).term, .string (x.ents.getD i default).data]) := by
 unfold kindV recAt
 simp
theorem Try.infoRec : (Try.prog.info? 54).map (fun i => (i.zero, i.size, i.bytes)) = some (some .nilIface, 1, 16) := by kernel_rfl
set_option maxRecDepth 20000 in
set_option maxHeartbeats 4000000 in
theorem entriesV (x : Wl) (v : Value) (w : World) (B : Nat) (hv : WalV w B v x) (hn : x.ents.length ≤ 60) (hb0 : 0 ≤ x.base) (hb1 : x.base ≤ 100000) (hB : B ≤ w.heap.size) :
  Calls Try.prog 19 #[v, .int .i64 0] w fun e w' => ∃ u, e = .returned u ∧ Owns w' w.heap.size 54 1 u (kindR (entRecs x x.ents.length)) ∧ Below w.heap.size w w' := by
 obtain ⟨u, rfl, hl⟩ := hv
 obtain ⟨A, cap, rfl, hlk⟩ := ent_look hl
 have HCAP : Hid (x.ents.length ≤ cap) := by
  obtain ⟨A', cap', e, ⟨_, h2⟩, _⟩ := hl
  injection e with _ e2 e3
  unfold Hid
  rw [e3, e2]
  exact h2
 have HL : Hid (∀ j, j < x.ents.length → ∃ g off, A = some ⟨g, off, none⟩ ∧ g < B ∧ _) := hlk
 have HB : Hid (B ≤ w.heap.size) := hB
 have q1 : (x.ents.length : Int) ≤ 60 := by omega
 have q1c : (x.ents.length : Int) ≤ (cap : Int) := by have := HCAP.out; omega
 clear hl hlk hB hn
 generalize hN : x.ents.length = n at *
 go_enter Try.func19, Try.ntmps19
 go_wp2_with fail
 have h0 : Below w.heap.size w (w.alloc (.cells #[.int .i64 x.term, .int .i64 x.vote, .int .i64 x.base, .int .i64 x.bterm, .slice A n cap] 26)) := (Below.refl _ w).alloc (Nat.le_refl _) _
 have bA := Blk.new w #[.int .i64 x.term, .int .i64 x.vote, .int .i64 x.base, .int .i64 x.bterm, .slice A n cap] 26
 generalize w.alloc (.cells #[.int .i64 x.term, .int .i64 x.vote, .int .i64 x.base, .int .i64 x.bterm, .slice A n cap] 26) = W at *
 go_loopw [5, 13] (fun v5 v13 wr => ∃ k : Nat, k ≤ n ∧ v13 = .int .i64 (k : Int) ∧ Owns wr (w.heap.size + 1) 54 1 v5 (kindR (entRecs x k)) ∧ Below w.heap.size w wr ∧ Blk wr w.heap.size #[.int .i64 x.term, .int .i64 x.vote, .int .i64 x.base, .int .i64 x.bterm, .slice A n cap] 26) (fun _ i _ => n - (intOf i).toNat)
 case atStart => exact ⟨0, by omega, rfl, Owns.nil _ _ _ _, h0, bA⟩
 case round =>
  obtain ⟨k, hk, rfl, hO, hb, hbl⟩ := hrel
  have HO : Hid (Owns wr (w.heap.size + 1) 54 1 _ (kindR (entRecs x k))) := hO
  have HB1 : Hid (Below w.heap.size w wr) := hb
  have KA : Hid (Blk wr w.heap.size #[.int .i64 x.term, .int .i64 x.vote, .int .i64 x.base, .int .i64 x.bterm, .slice A n cap] 26) := hbl
  obtain ⟨sA, sm, sc, rfl⟩ := hO.shape
  clear hO hb hbl h0 bA
  by_cases hlt : k < n
  ·have q4 : (k : Int) < (n : Int) := by omega
   obtain ⟨g, off, rfl, hg, hc0, hc1⟩ := HL.out k (by omega)
   have hgw : g < w.heap.size := Nat.lt_of_lt_of_le hg HB.out
   rw [← HB1.out.cell (p := ⟨_, _, none⟩) hgw] at hc0 hc1
   have hkv := kindV_at x k
   have HR : Hid (kindR (entRecs x k) ++ [[kindV (recAt x k)]] = kindR (entRecs x (k + 1))) := by unfold Hid; rw [entRecs_succ, kindR_append]; rfl
   have HLN : Hid ((kindR (entRecs x k)).length ≤ 2097152) := by unfold Hid; rw [kindR_length, entRecs_length]; omega
   generalize x.ents.getD k default = y at *
   obtain ⟨yt, yd⟩ := y
   simp only at hc0 hc1 hkv
   have z1 : wrap64 (x.base + 0) = x.base := by unfold wrap64; omega
   have z2 : wrap64 (x.base + (k : Int)) = x.base + (k : Int) := by unfold wrap64; omega
   have z3 : wrap64 (x.base + (k : Int) + 1) = x.base + (k : Int) + 1 := by unfold wrap64; omega
   have z4 : wrap64 x.base = x.base := by unfold wrap64; omega
   have hkv2 : Hid (.iface 74 (.agg #[.int .i64 (x.base + (k : Int) + 1), .int .i64 yt, .string yd]) = kindV (recAt x k)) := by unfold Hid; rw [hkv, show x.base + (k : Int) + 1 = x.base + 1 + (k : Int) by omega]
   have kE := Blk.new wr #[.int .i64 yt, .string yd] 58
   have kW := KA.out.alloc (.cells #[.int .i64 yt, .string yd] 58)
   have e0 := kE.cell 0 (.int .i64 yt) rfl
   have e1 := kE.cell 1 (.string yd) rfl
   have e2 := kW.cell 2 (.int .i64 x.base) rfl
   have hos := HO.out.alloc (.cells #[.int .i64 yt, .string yd] 58)
   have hW1 : Below w.heap.size w (wr.alloc (.cells #[.int .i64 yt, .string yd] 58)) := HB1.out.alloc HB1.out.size _
   have hsz : w.heap.size + 1 ≤ (wr.alloc (.cells #[.int .i64 yt, .string yd] 58)).heap.size := kW.lt
   clear hkv kE
   go_wp2_with (at_builtin; refine wpList_append_row rfl (.tmp 18) (.tmp 29) 46 54 .nilIface 1 16 rfl Try.underlying46 Try.infoRec rfl (by omega) (w.heap.size + 1) _ (kindR (entRecs x k)) rfl hos [.iface 74 (.agg #[.int .i64 (x.base + (k : Int) + 1), .int .i64 yt, .string yd])] rfl (by intro y hy; simp at hy; subst hy; rfl) (by rw [World.size_alloc]; rfl) HLN.out (by omega) hsz ?_; intro v' w4 hO4 hb4 hk4 _)
   rw [hkv2.out, HR.out] at hO4
   have kW4 := kW.on hb4 (by omega)
   have hB4 : Below w.heap.size w w4 := hW1.trans (hb4.mono (by omega))
   go_roundw
   case rel => exact ⟨k + 1, by omega, by go_num, hO4, hB4, kW4⟩
   case measure => simp [intOf]; omega
  ·obtain rfl : k = n := by omega
   go_wp2_with fail
   go_ret
   exact ⟨_, rfl, HO.out.mono (by omega), HB1.out⟩
end Go.Proofs.Ytfmannphobjgpaa
namespace Go.Proofs.Ytfmannphobjgpaa
open Go.ChangeShapes Go.WideShapes Go.ChangeAt Go.RowKit Go.PlainAid
set_option linter.unusedVariables false
def entFrom (x : Wl) (k0 k : Nat) : List Rcd := (List.range k).map fun i => recAt x (k0 + i)
theorem entFrom_succ (x : Wl) (k0 k : Nat) : entFrom x k0 (k + 1) = entFrom x k0 k ++ [recAt x (k0 + k)] := by simp [entFrom, List.range_succ]
theorem entFrom_length (x : Wl) (k0 k : Nat) : (entFrom x k0 k).length = k := by simp [entFrom]
theorem entFrom_zero (x : Wl) (k : Nat) : entFrom x 0 k = entRecs x k := by simp [entFrom, entRecs]
set_option maxRecDepth 20000 in
set_option maxHeartbeats 4000000 in
theorem entriesK (x : Wl) (v : Value) (w : World) (B k0 : Nat) (hk0 : 0 < k0) (hk1 : k0 ≤ x.ents.length) (hv : WalV w B v x) (hn : x.ents.length ≤ 60) (hb0 : 0 ≤ x.base) (hb1 : x.base ≤ 100000) (hB : B ≤ w.heap.size) :
  Calls Try.prog 19 #[v, .int .i64 (k0 : Int)] w fun e w' => ∃ u, e = .returned u ∧ Owns w' w.heap.size 54 1 u (kindR (entFrom x k0 (x.ents.length - k0))) ∧ Below w.heap.size w w' := by
 obtain ⟨u, rfl, hl⟩ := hv
 obtain ⟨A, cap, rfl, hlk⟩ := ent_look hl
 have HCAP : Hid (x.ents.length ≤ cap) := by
  obtain ⟨A', cap', e, ⟨_, h2⟩, _⟩ := hl
  injection e with _ e2 e3
  unfold Hid
  rw [e3, e2]
  exact h2
 have HL : Hid (∀ j, j < x.ents.length → ∃ g off, A = some ⟨g, off, none⟩ ∧ g < B ∧ _) := hlk
 have HB : Hid (B ≤ w.heap.size) := hB
 have q1 : (x.ents.length : Int) ≤ 60 := by omega
 have q1c : (x.ents.length : Int) ≤ (cap : Int) := by have := HCAP.out; omega
 clear hl hlk hB hn
 generalize hN : x.ents.length = n at *
 obtain ⟨g, off, rfl, hg, _⟩ := HL.out 0 (by omega)
 have hgw : g < w.heap.size := Nat.lt_of_lt_of_le hg HB.out
 have qk : (k0 : Int) ≤ (n : Int) := by omega
 have qk1 : (k0 : Int) ≤ (cap : Int) := by omega
 have qk0 : (0 : Int) ≤ (k0 : Int) := by omega
 have qk2 : ((n - k0 : Nat) : Int) ≤ 60 := by omega
 have HCE : Hid (∀ j, j < n - k0 → w.cell? ⟨g, off + k0 * 2 + j * 2, none⟩ = some (.int .i64 (x.ents.getD (k0 + j) default).term) ∧ w.cell? ⟨g, off + k0 * 2 + j * 2 + 1, none⟩ = some (.string (x.ents.getD (k0 + j) default).data)) := by
  intro j hj
  obtain ⟨g', off', e, _, h1, h2⟩ := HL.out (k0 + j) (by omega)
  injection e with e
  injection e with e1 e2
  subst e1
  subst e2
  rw [Nat.add_mul, ← Nat.add_assoc] at h1 h2
  exact ⟨h1, h2⟩
 clear HL
 by_cases hcap : cap = k0
 ·subst hcap
  have hn0 : n - cap = 0 := by have := HCAP.out; omega
  have qz : ((n - cap : Nat) : Int) = 0 := by omega
  go_enter Try.func19, Try.ntmps19
  go_wp2_with fail
  have h0 : Below w.heap.size w (w.alloc (.cells #[.int .i64 x.term, .int .i64 x.vote, .int .i64 x.base, .int .i64 x.bterm, .slice (some ⟨g, off, none⟩) n cap] 26)) := (Below.refl _ w).alloc (Nat.le_refl _) _
  have bA := Blk.new w #[.int .i64 x.term, .int .i64 x.vote, .int .i64 x.base, .int .i64 x.bterm, .slice (some ⟨g, off, none⟩) n cap] 26
  generalize w.alloc (.cells #[.int .i64 x.term, .int .i64 x.vote, .int .i64 x.base, .int .i64 x.bterm, .slice (some ⟨g, off, none⟩) n cap] 26) = W at *
  go_loopw [5, 13] (fun v5 v13 wr => ∃ k : Nat, k ≤ n - cap ∧ v13 = .int .i64 (k : Int) ∧ Owns wr (w.heap.size + 1) 54 1 v5 (kindR (entFrom x cap k)) ∧ Below w.heap.size w wr ∧ Blk wr w.heap.size #[.int .i64 x.term, .int .i64 x.vote, .int .i64 x.base, .int .i64 x.bterm, .slice (some ⟨g, off, none⟩) n cap] 26) (fun _ i _ => (n - cap) - (intOf i).toNat)
  case atStart => exact ⟨0, by omega, rfl, Owns.nil _ _ _ _, h0, bA⟩
  case round =>
   obtain ⟨k, hk, rfl, hO, hb, hbl⟩ := hrel
   have HO : Hid (Owns wr (w.heap.size + 1) 54 1 _ (kindR (entFrom x cap k))) := hO
   have HB1 : Hid (Below w.heap.size w wr) := hb
   have KA : Hid (Blk wr w.heap.size #[.int .i64 x.term, .int .i64 x.vote, .int .i64 x.base, .int .i64 x.bterm, .slice (some ⟨g, off, none⟩) n cap] 26) := hbl
   obtain ⟨sA, sm, sc, rfl⟩ := hO.shape
   clear hO hb hbl h0 bA
   obtain rfl : k = n - cap := by omega
   go_wp2_with fail
   go_ret
   exact ⟨_, rfl, HO.out.mono (by omega), HB1.out⟩
 ·have hcap2 : ¬ cap = k0 := hcap
  go_enter Try.func19, Try.ntmps19
  go_wp2_with fail
  have h0 : Below w.heap.size w (w.alloc (.cells #[.int .i64 x.term, .int .i64 x.vote, .int .i64 x.base, .int .i64 x.bterm, .slice (some ⟨g, off, none⟩) n cap] 26)) := (Below.refl _ w).alloc (Nat.le_refl _) _
  have bA := Blk.new w #[.int .i64 x.term, .int .i64 x.vote, .int .i64 x.base, .int .i64 x.bterm, .slice (some ⟨g, off, none⟩) n cap] 26
  generalize w.alloc (.cells #[.int .i64 x.term, .int .i64 x.vote, .int .i64 x.base, .int .i64 x.bterm, .slice (some ⟨g, off, none⟩) n cap] 26) = W at *
  go_loopw [5, 13] (fun v5 v13 wr => ∃ k : Nat, k ≤ n - k0 ∧ v13 = .int .i64 (k : Int) ∧ Owns wr (w.heap.size + 1) 54 1 v5 (kindR (entFrom x k0 k)) ∧ Below w.heap.size w wr ∧ Blk wr w.heap.size #[.int .i64 x.term, .int .i64 x.vote, .int .i64 x.base, .int .i64 x.bterm, .slice (some ⟨g, off, none⟩) n cap] 26) (fun _ i _ => (n - k0) - (intOf i).toNat)
  case atStart => exact ⟨0, by omega, rfl, Owns.nil _ _ _ _, h0, bA⟩
  case round =>
   obtain ⟨k, hk, rfl, hO, hb, hbl⟩ := hrel
   have HO : Hid (Owns wr (w.heap.size + 1) 54 1 _ (kindR (entFrom x k0 k))) := hO
   have HB1 : Hid (Below w.heap.size w wr) := hb
   have KA : Hid (Blk wr w.heap.size #[.int .i64 x.term, .int .i64 x.vote, .int .i64 x.base, .int .i64 x.bterm, .slice (some ⟨g, off, none⟩) n cap] 26) := hbl
   obtain ⟨sA, sm, sc, rfl⟩ := hO.shape
   clear hO hb hbl h0 bA
   by_cases hlt : k < n - k0
   ·have q4 : (k : Int) < ((n - k0 : Nat) : Int) := by omega
    obtain ⟨hc0, hc1⟩ := HCE.out k hlt
    rw [← HB1.out.cell (p := ⟨_, _, none⟩) hgw] at hc0 hc1
    have hkv := kindV_at x (k0 + k)
    have HR : Hid (kindR (entFrom x k0 k) ++ [[kindV (recAt x (k0 + k))]] = kindR (entFrom x k0 (k + 1))) := by unfold Hid; rw [entFrom_succ, kindR_append]; rfl
    have HLN : Hid ((kindR (entFrom x k0 k)).length ≤ 2097152) := by unfold Hid; rw [kindR_length, entFrom_length]; omega
    generalize x.ents.getD (k0 + k) default = y at *
    obtain ⟨yt, yd⟩ := y
    simp only at hc0 hc1 hkv
    have z1 : wrap64 (x.base + (k0 : Int)) = x.base + (k0 : Int) := by unfold wrap64; omega
    have z2 : wrap64 (x.base + (k0 : Int) + (k : Int)) = x.base + (k0 : Int) + (k : Int) := by unfold wrap64; omega
    have z3 : wrap64 (x.base + (k0 : Int) + (k : Int) + 1) = x.base + (k0 : Int) + (k : Int) + 1 := by unfold wrap64; omega
    have z4 : wrap64 x.base = x.base := by unfold wrap64; omega
    have hkv2 : Hid (.iface 74 (.agg #[.int .i64 (x.base + (k0 : Int) + (k : Int) + 1), .int .i64 yt, .string yd]) = kindV (recAt x (k0 + k))) := by unfold Hid; rw [hkv, show x.base + (k0 : Int) + (k : Int) + 1 = x.base + 1 + ((k0 + k : Nat) : Int) by omega]
    have kE := Blk.new wr #[.int .i64 yt, .string yd] 58
    have kW := KA.out.alloc (.cells #[.int .i64 yt, .string yd] 58)
    have e0 := kE.cell 0 (.int .i64 yt) rfl
    have e1 := kE.cell 1 (.string yd) rfl
    have e2 := kW.cell 2 (.int .i64 x.base) rfl
    have hos := HO.out.alloc (.cells #[.int .i64 yt, .string yd] 58)
    have hW1 : Below w.heap.size w (wr.alloc (.cells #[.int .i64 yt, .string yd] 58)) := HB1.out.alloc HB1.out.size _
    have hsz : w.heap.size + 1 ≤ (wr.alloc (.cells #[.int .i64 yt, .string yd] 58)).heap.size := kW.lt
    clear hkv kE
    go_wp2_with (at_builtin; refine wpList_append_row rfl (.tmp 18) (.tmp 29) 46 54 .nilIface 1 16 rfl Try.underlying46 Try.infoRec rfl (by omega) (w.heap.size + 1) _ (kindR (entFrom x k0 k)) rfl hos [.iface 74 (.agg #[.int .i64 (x.base + (k0 : Int) + (k : Int) + 1), .int .i64 yt, .string yd])] rfl (by intro y hy; simp at hy; subst hy; rfl) (by rw [World.size_alloc]; rfl) HLN.out (by omega) hsz ?_; intro v' w4 hO4 hb4 hk4 _)
    rw [hkv2.out, HR.out] at hO4
    have kW4 := kW.on hb4 (by omega)
    have hB4 : Below w.heap.size w w4 := hW1.trans (hb4.mono (by omega))
    go_roundw
    case rel => exact ⟨k + 1, by omega, by go_num, hO4, hB4, kW4⟩
    case measure => simp [intOf]; omega
   ·obtain rfl : k = n - k0 := by omega
    go_wp2_with fail
    go_ret
    exact ⟨_, rfl, HO.out.mono (by omega), HB1.out⟩
theorem entriesAny (x : Wl) (v : Value) (w : World) (B k0 : Nat) (hk1 : k0 ≤ x.ents.length) (hv : WalV w B v x) (hn : x.ents.length ≤ 60) (hb0 : 0 ≤ x.base) (hb1 : x.base ≤ 100000) (hB : B ≤ w.heap.size) :
  Calls Try.prog 19 #[v, .int .i64 (k0 : Int)] w fun e w' => ∃ u, e = .returned u ∧ Owns w' w.heap.size 54 1 u (kindR (entFrom x k0 (x.ents.length - k0))) ∧ Below w.heap.size w w' := by
 by_cases h0 : k0 = 0
 ·subst h0
  rw [Nat.sub_zero, entFrom_zero]
  exact entriesV x v w B hv hn hb0 hb1 hB
 ·exact entriesK x v w B k0 (by omega) hk1 hv hn hb0 hb1 hB
end Go.Proofs.Ytfmannphobjgpaa
