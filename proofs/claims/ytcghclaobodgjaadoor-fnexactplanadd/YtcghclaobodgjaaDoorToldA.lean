/-
  Contracts of impl.toldRec and impl.ReadRec.
-/
import Derived.Test.YtcghclaobodgjaaDoorRows
import Derived.Test.YtcghclaobodgjaaDoorRcOf
import Derived.Test.YtcghclaobodgjaaDoorClone
import Derived.LoopN
import Derived.Handy
namespace Go.Proofs.YtcghclaobodgjaaDoor
open Go.ChangeShapes Go.WideShapes Go.ChangeAt Go.RowKit Go.PlainAid
set_option linter.unusedVariables false

set_option maxHeartbeats 1000000 in
theorem told_hard (t v : Int) (w : World) (hd : 0 ≤ 1048576) : Calls Tryd.prog 39 #[.iface 73 (.agg #[.int .i64 t, .int .i64 v])] w fun e w' => e = .returned (.agg #[.int .i64 1, .int .i64 t, .int .i64 0, .int .i64 v, .string ⟨#[]⟩]) ∧ Below w.heap.size w w' := by
  have c1 := fun wx => hardRec t v wx
  have c2 := fun wx => clone ⟨#[]⟩ wx (Nat.zero_le _)
  clear hd
  go_enter Tryd.func39, Tryd.ntmps39
  go_wp2_with fail
  have hb0 : Below w.heap.size w (w.alloc (.cells #[.int .i64 0, .int .i64 0, .int .i64 0, .int .i64 0, .string ⟨#[]⟩] 44)) := (Below.refl _ _).alloc (Nat.le_refl _) _
  have k0 := Blk.new w #[.int .i64 0, .int .i64 0, .int .i64 0, .int .i64 0, .string ⟨#[]⟩] 44
  generalize w.alloc (.cells #[.int .i64 0, .int .i64 0, .int .i64 0, .int .i64 0, .string ⟨#[]⟩] 44) = W at *
  refine (c1 _).mono ?_
  rintro e w1 ⟨rfl, hb1⟩
  have B1 : Hid (Below w.heap.size w w1) := hb0.trans (hb1.mono hb0.size)
  have K1 : Hid (Blk w1 w.heap.size #[.int .i64 0, .int .i64 0, .int .i64 0, .int .i64 0, .string ⟨#[]⟩] 44) := k0.on hb1 k0.lt
  clear hb0 hb1 k0 c1
  go_wp2_with fail
  have hb2 : Below w1.heap.size w1 (w1.alloc (.cells #[.int .i64 1, .int .i64 t, .int .i64 0, .int .i64 v, .string ⟨#[]⟩] 44)) := (Below.refl _ _).alloc (Nat.le_refl _) _
  have l2 := Blk.new w1 #[.int .i64 1, .int .i64 t, .int .i64 0, .int .i64 v, .string ⟨#[]⟩] 44
  have z2 := K1.out.lt
  generalize w1.alloc (.cells #[.int .i64 1, .int .i64 t, .int .i64 0, .int .i64 v, .string ⟨#[]⟩] 44) = W2 at *
  refine (c2 _).mono ?_
  rintro e w3 ⟨rfl, hb3⟩
  have B3 : Hid (Below w.heap.size w w3) := B1.out.trans ((hb2.trans (hb3.mono hb2.size)).mono B1.out.size)
  have k3 := (K1.out.on hb2 z2).on hb3 (Nat.lt_of_lt_of_le z2 hb2.size)
  have l3 := l2.on hb3 l2.lt
  clear hb2 hb3 c2 l2 K1 B1
  generalize hq : w1.heap.size = q at *
  have e0 := l3.cell 0 (.int .i64 1) rfl
  have f0 := l3.free 0
  have e1 := l3.cell 1 (.int .i64 t) rfl
  have f1 := l3.free 1
  have e2 := l3.cell 2 (.int .i64 0) rfl
  have f2 := l3.free 2
  have e3 := l3.cell 3 (.int .i64 v) rfl
  have f3 := l3.free 3
  have e4 := l3.cell 4 (.string ⟨#[]⟩) rfl
  have f4 := l3.free 4
  have r0 := k3.cell 0 (.int .i64 0) rfl
  have g0 := k3.free 0
  have r1 := k3.cell 1 (.int .i64 0) rfl
  have g1 := k3.free 1
  have r2 := k3.cell 2 (.int .i64 0) rfl
  have g2 := k3.free 2
  have r3 := k3.cell 3 (.int .i64 0) rfl
  have g3 := k3.free 3
  have r4 := k3.cell 4 (.string ⟨#[]⟩) rfl
  have g4 := k3.free 4
  have K3 : Hid (Blk w3 w.heap.size _ _) := k3
  have L3 : Hid (Blk w3 q _ _) := l3
  go_wp2_with fail
  have hF := ((((((k3.other (show w.heap.size ≠ q by omega) 4 (.string ⟨#[]⟩)).set 0 (.int .i64 1)).set 1 (.int .i64 t)).set 2 (.int .i64 0)).set 3 (.int .i64 v)).set 4 (.string ⟨#[]⟩))
  have FB := ((((((B3.out.setCell (show w.heap.size ≤ q by omega) (.string ⟨#[]⟩) (p := ⟨_, 4, none⟩)).setCell (Nat.le_refl _) (.int .i64 1) (p := ⟨_, 0, none⟩)).setCell (Nat.le_refl _) (.int .i64 t) (p := ⟨_, 1, none⟩)).setCell (Nat.le_refl _) (.int .i64 0) (p := ⟨_, 2, none⟩)).setCell (Nat.le_refl _) (.int .i64 v) (p := ⟨_, 3, none⟩)).setCell (Nat.le_refl _) (.string ⟨#[]⟩) (p := ⟨_, 4, none⟩))
  clear e0 e1 e2 e3 e4 f0 f1 f2 f3 f4 r0 r1 r2 r3 r4 g0 g1 g2 g3 g4
  generalize ((((((w3.setCell ⟨q, 4, none⟩ (.string ⟨#[]⟩)).setCell ⟨w.heap.size, 0, none⟩ (.int .i64 1)).setCell ⟨w.heap.size, 1, none⟩ (.int .i64 t)).setCell ⟨w.heap.size, 2, none⟩ (.int .i64 0)).setCell ⟨w.heap.size, 3, none⟩ (.int .i64 v)).setCell ⟨w.heap.size, 4, none⟩ (.string ⟨#[]⟩)) = WF at *
  have hG : Blk WF w.heap.size #[.int .i64 1, .int .i64 t, .int .i64 0, .int .i64 v, .string ⟨#[]⟩] 44 := hF
  have m0 := hG.cell 0 (.int .i64 1) rfl
  have m1 := hG.cell 1 (.int .i64 t) rfl
  have m2 := hG.cell 2 (.int .i64 0) rfl
  have m3 := hG.cell 3 (.int .i64 v) rfl
  have m4 := hG.cell 4 (.string ⟨#[]⟩) rfl
  exact bodyPost_ret (v := .agg #[.int .i64 1, .int .i64 t, .int .i64 0, .int .i64 v, .string ⟨#[]⟩]) (by simp [results, go_sem, m0, m1, m2, m3, m4]) rfl ⟨rfl, FB⟩
set_option maxHeartbeats 1000000 in
theorem told_entry (i t : Int) (d : ByteArray) (w : World) (hd : d.size ≤ 1048576) : Calls Tryd.prog 39 #[.iface 88 (.agg #[.int .i64 i, .int .i64 t, .string d])] w fun e w' => e = .returned (.agg #[.int .i64 2, .int .i64 t, .int .i64 i, .int .i64 0, .string d]) ∧ Below w.heap.size w w' := by
  have c1 := fun wx => entryRec i t d wx
  have c2 := fun wx => clone d wx (by omega)
  clear hd
  go_enter Tryd.func39, Tryd.ntmps39
  go_wp2_with fail
  have hb0 : Below w.heap.size w (w.alloc (.cells #[.int .i64 0, .int .i64 0, .int .i64 0, .int .i64 0, .string ⟨#[]⟩] 44)) := (Below.refl _ _).alloc (Nat.le_refl _) _
  have k0 := Blk.new w #[.int .i64 0, .int .i64 0, .int .i64 0, .int .i64 0, .string ⟨#[]⟩] 44
  generalize w.alloc (.cells #[.int .i64 0, .int .i64 0, .int .i64 0, .int .i64 0, .string ⟨#[]⟩] 44) = W at *
  refine (c1 _).mono ?_
  rintro e w1 ⟨rfl, hb1⟩
  have B1 : Hid (Below w.heap.size w w1) := hb0.trans (hb1.mono hb0.size)
  have K1 : Hid (Blk w1 w.heap.size #[.int .i64 0, .int .i64 0, .int .i64 0, .int .i64 0, .string ⟨#[]⟩] 44) := k0.on hb1 k0.lt
  clear hb0 hb1 k0 c1
  go_wp2_with fail
  have hb2 : Below w1.heap.size w1 (w1.alloc (.cells #[.int .i64 2, .int .i64 t, .int .i64 i, .int .i64 0, .string d] 44)) := (Below.refl _ _).alloc (Nat.le_refl _) _
  have l2 := Blk.new w1 #[.int .i64 2, .int .i64 t, .int .i64 i, .int .i64 0, .string d] 44
  have z2 := K1.out.lt
  generalize w1.alloc (.cells #[.int .i64 2, .int .i64 t, .int .i64 i, .int .i64 0, .string d] 44) = W2 at *
  refine (c2 _).mono ?_
  rintro e w3 ⟨rfl, hb3⟩
  have B3 : Hid (Below w.heap.size w w3) := B1.out.trans ((hb2.trans (hb3.mono hb2.size)).mono B1.out.size)
  have k3 := (K1.out.on hb2 z2).on hb3 (Nat.lt_of_lt_of_le z2 hb2.size)
  have l3 := l2.on hb3 l2.lt
  clear hb2 hb3 c2 l2 K1 B1
  generalize hq : w1.heap.size = q at *
  have e0 := l3.cell 0 (.int .i64 2) rfl
  have f0 := l3.free 0
  have e1 := l3.cell 1 (.int .i64 t) rfl
  have f1 := l3.free 1
  have e2 := l3.cell 2 (.int .i64 i) rfl
  have f2 := l3.free 2
  have e3 := l3.cell 3 (.int .i64 0) rfl
  have f3 := l3.free 3
  have e4 := l3.cell 4 (.string d) rfl
  have f4 := l3.free 4
  have r0 := k3.cell 0 (.int .i64 0) rfl
  have g0 := k3.free 0
  have r1 := k3.cell 1 (.int .i64 0) rfl
  have g1 := k3.free 1
  have r2 := k3.cell 2 (.int .i64 0) rfl
  have g2 := k3.free 2
  have r3 := k3.cell 3 (.int .i64 0) rfl
  have g3 := k3.free 3
  have r4 := k3.cell 4 (.string ⟨#[]⟩) rfl
  have g4 := k3.free 4
  have K3 : Hid (Blk w3 w.heap.size _ _) := k3
  have L3 : Hid (Blk w3 q _ _) := l3
  go_wp2_with fail
  have hF := ((((((k3.other (show w.heap.size ≠ q by omega) 4 (.string d)).set 0 (.int .i64 2)).set 1 (.int .i64 t)).set 2 (.int .i64 i)).set 3 (.int .i64 0)).set 4 (.string d))
  have FB := ((((((B3.out.setCell (show w.heap.size ≤ q by omega) (.string d) (p := ⟨_, 4, none⟩)).setCell (Nat.le_refl _) (.int .i64 2) (p := ⟨_, 0, none⟩)).setCell (Nat.le_refl _) (.int .i64 t) (p := ⟨_, 1, none⟩)).setCell (Nat.le_refl _) (.int .i64 i) (p := ⟨_, 2, none⟩)).setCell (Nat.le_refl _) (.int .i64 0) (p := ⟨_, 3, none⟩)).setCell (Nat.le_refl _) (.string d) (p := ⟨_, 4, none⟩))
  clear e0 e1 e2 e3 e4 f0 f1 f2 f3 f4 r0 r1 r2 r3 r4 g0 g1 g2 g3 g4
  generalize ((((((w3.setCell ⟨q, 4, none⟩ (.string d)).setCell ⟨w.heap.size, 0, none⟩ (.int .i64 2)).setCell ⟨w.heap.size, 1, none⟩ (.int .i64 t)).setCell ⟨w.heap.size, 2, none⟩ (.int .i64 i)).setCell ⟨w.heap.size, 3, none⟩ (.int .i64 0)).setCell ⟨w.heap.size, 4, none⟩ (.string d)) = WF at *
  have hG : Blk WF w.heap.size #[.int .i64 2, .int .i64 t, .int .i64 i, .int .i64 0, .string d] 44 := hF
  have m0 := hG.cell 0 (.int .i64 2) rfl
  have m1 := hG.cell 1 (.int .i64 t) rfl
  have m2 := hG.cell 2 (.int .i64 i) rfl
  have m3 := hG.cell 3 (.int .i64 0) rfl
  have m4 := hG.cell 4 (.string d) rfl
  exact bodyPost_ret (v := .agg #[.int .i64 2, .int .i64 t, .int .i64 i, .int .i64 0, .string d]) (by simp [results, go_sem, m0, m1, m2, m3, m4]) rfl ⟨rfl, FB⟩
set_option maxHeartbeats 1000000 in
theorem told_cut (i : Int) (w : World) (hd : 0 ≤ 1048576) : Calls Tryd.prog 39 #[.iface 76 (.agg #[.int .i64 i])] w fun e w' => e = .returned (.agg #[.int .i64 3, .int .i64 0, .int .i64 i, .int .i64 0, .string ⟨#[]⟩]) ∧ Below w.heap.size w w' := by
  have c1 := fun wx => cutRec i wx
  have c2 := fun wx => clone ⟨#[]⟩ wx (Nat.zero_le _)
  clear hd
  go_enter Tryd.func39, Tryd.ntmps39
  go_wp2_with fail
  have hb0 : Below w.heap.size w (w.alloc (.cells #[.int .i64 0, .int .i64 0, .int .i64 0, .int .i64 0, .string ⟨#[]⟩] 44)) := (Below.refl _ _).alloc (Nat.le_refl _) _
  have k0 := Blk.new w #[.int .i64 0, .int .i64 0, .int .i64 0, .int .i64 0, .string ⟨#[]⟩] 44
  generalize w.alloc (.cells #[.int .i64 0, .int .i64 0, .int .i64 0, .int .i64 0, .string ⟨#[]⟩] 44) = W at *
  refine (c1 _).mono ?_
  rintro e w1 ⟨rfl, hb1⟩
  have B1 : Hid (Below w.heap.size w w1) := hb0.trans (hb1.mono hb0.size)
  have K1 : Hid (Blk w1 w.heap.size #[.int .i64 0, .int .i64 0, .int .i64 0, .int .i64 0, .string ⟨#[]⟩] 44) := k0.on hb1 k0.lt
  clear hb0 hb1 k0 c1
  go_wp2_with fail
  have hb2 : Below w1.heap.size w1 (w1.alloc (.cells #[.int .i64 3, .int .i64 0, .int .i64 i, .int .i64 0, .string ⟨#[]⟩] 44)) := (Below.refl _ _).alloc (Nat.le_refl _) _
  have l2 := Blk.new w1 #[.int .i64 3, .int .i64 0, .int .i64 i, .int .i64 0, .string ⟨#[]⟩] 44
  have z2 := K1.out.lt
  generalize w1.alloc (.cells #[.int .i64 3, .int .i64 0, .int .i64 i, .int .i64 0, .string ⟨#[]⟩] 44) = W2 at *
  refine (c2 _).mono ?_
  rintro e w3 ⟨rfl, hb3⟩
  have B3 : Hid (Below w.heap.size w w3) := B1.out.trans ((hb2.trans (hb3.mono hb2.size)).mono B1.out.size)
  have k3 := (K1.out.on hb2 z2).on hb3 (Nat.lt_of_lt_of_le z2 hb2.size)
  have l3 := l2.on hb3 l2.lt
  clear hb2 hb3 c2 l2 K1 B1
  generalize hq : w1.heap.size = q at *
  have e0 := l3.cell 0 (.int .i64 3) rfl
  have f0 := l3.free 0
  have e1 := l3.cell 1 (.int .i64 0) rfl
  have f1 := l3.free 1
  have e2 := l3.cell 2 (.int .i64 i) rfl
  have f2 := l3.free 2
  have e3 := l3.cell 3 (.int .i64 0) rfl
  have f3 := l3.free 3
  have e4 := l3.cell 4 (.string ⟨#[]⟩) rfl
  have f4 := l3.free 4
  have r0 := k3.cell 0 (.int .i64 0) rfl
  have g0 := k3.free 0
  have r1 := k3.cell 1 (.int .i64 0) rfl
  have g1 := k3.free 1
  have r2 := k3.cell 2 (.int .i64 0) rfl
  have g2 := k3.free 2
  have r3 := k3.cell 3 (.int .i64 0) rfl
  have g3 := k3.free 3
  have r4 := k3.cell 4 (.string ⟨#[]⟩) rfl
  have g4 := k3.free 4
  have K3 : Hid (Blk w3 w.heap.size _ _) := k3
  have L3 : Hid (Blk w3 q _ _) := l3
  go_wp2_with fail
  have hF := ((((((k3.other (show w.heap.size ≠ q by omega) 4 (.string ⟨#[]⟩)).set 0 (.int .i64 3)).set 1 (.int .i64 0)).set 2 (.int .i64 i)).set 3 (.int .i64 0)).set 4 (.string ⟨#[]⟩))
  have FB := ((((((B3.out.setCell (show w.heap.size ≤ q by omega) (.string ⟨#[]⟩) (p := ⟨_, 4, none⟩)).setCell (Nat.le_refl _) (.int .i64 3) (p := ⟨_, 0, none⟩)).setCell (Nat.le_refl _) (.int .i64 0) (p := ⟨_, 1, none⟩)).setCell (Nat.le_refl _) (.int .i64 i) (p := ⟨_, 2, none⟩)).setCell (Nat.le_refl _) (.int .i64 0) (p := ⟨_, 3, none⟩)).setCell (Nat.le_refl _) (.string ⟨#[]⟩) (p := ⟨_, 4, none⟩))
  clear e0 e1 e2 e3 e4 f0 f1 f2 f3 f4 r0 r1 r2 r3 r4 g0 g1 g2 g3 g4
  generalize ((((((w3.setCell ⟨q, 4, none⟩ (.string ⟨#[]⟩)).setCell ⟨w.heap.size, 0, none⟩ (.int .i64 3)).setCell ⟨w.heap.size, 1, none⟩ (.int .i64 0)).setCell ⟨w.heap.size, 2, none⟩ (.int .i64 i)).setCell ⟨w.heap.size, 3, none⟩ (.int .i64 0)).setCell ⟨w.heap.size, 4, none⟩ (.string ⟨#[]⟩)) = WF at *
  have hG : Blk WF w.heap.size #[.int .i64 3, .int .i64 0, .int .i64 i, .int .i64 0, .string ⟨#[]⟩] 44 := hF
  have m0 := hG.cell 0 (.int .i64 3) rfl
  have m1 := hG.cell 1 (.int .i64 0) rfl
  have m2 := hG.cell 2 (.int .i64 i) rfl
  have m3 := hG.cell 3 (.int .i64 0) rfl
  have m4 := hG.cell 4 (.string ⟨#[]⟩) rfl
  exact bodyPost_ret (v := .agg #[.int .i64 3, .int .i64 0, .int .i64 i, .int .i64 0, .string ⟨#[]⟩]) (by simp [results, go_sem, m0, m1, m2, m3, m4]) rfl ⟨rfl, FB⟩
end Go.Proofs.YtcghclaobodgjaaDoor
