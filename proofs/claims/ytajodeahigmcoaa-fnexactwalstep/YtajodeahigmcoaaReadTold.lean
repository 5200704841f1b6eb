/-
  Contracts of impl.toldRec and impl.ReadRec.
-/
import Derived.Test.YtajodeahigmcoaaRows
import Derived.Test.YtajodeahigmcoaaRcOf
import Derived.Test.YtajodeahigmcoaaReadImpl
import Derived.Test.YtajodeahigmcoaaClone
import Derived.LoopN
import Derived.Handy
namespace Go.Proofs.Ytajodeahigmcoaa
open Go.ChangeShapes Go.WideShapes Go.ChangeAt Go.RowKit Go.PlainAid
set_option linter.unusedVariables false


set_option maxHeartbeats 1000000 in
theorem told_hard (t v : Int) (w : World) (hd : 0 ≤ 1048576) : Calls Try.prog 43 #[.iface 66 (.agg #[.int .i64 t, .int .i64 v])] w fun e w' => e = .returned (.agg #[.int .i64 1, .int .i64 t, .int .i64 0, .int .i64 v, .string ⟨#[]⟩]) ∧ Below w.heap.size w w' := by
  have c1 := fun wx => hardRec t v wx
  have c2 := fun wx => clone ⟨#[]⟩ wx (Nat.zero_le _)
  clear hd
  go_enter Try.func43, Try.ntmps43
  go_wp2_with fail
  have hb0 : Below w.heap.size w (w.alloc (.cells #[.int .i64 0, .int .i64 0, .int .i64 0, .int .i64 0, .string ⟨#[]⟩] 35)) := (Below.refl _ _).alloc (Nat.le_refl _) _
  have k0 := Blk.new w #[.int .i64 0, .int .i64 0, .int .i64 0, .int .i64 0, .string ⟨#[]⟩] 35
  generalize w.alloc (.cells #[.int .i64 0, .int .i64 0, .int .i64 0, .int .i64 0, .string ⟨#[]⟩] 35) = W at *
  refine (c1 _).mono ?_
  rintro e w1 ⟨rfl, hb1⟩
  have B1 : Hid (Below w.heap.size w w1) := hb0.trans (hb1.mono hb0.size)
  have K1 : Hid (Blk w1 w.heap.size #[.int .i64 0, .int .i64 0, .int .i64 0, .int .i64 0, .string ⟨#[]⟩] 35) := k0.on hb1 k0.lt
  clear hb0 hb1 k0 c1
  go_wp2_with fail
  have hb2 : Below w1.heap.size w1 (w1.alloc (.cells #[.int .i64 1, .int .i64 t, .int .i64 0, .int .i64 v, .string ⟨#[]⟩] 35)) := (Below.refl _ _).alloc (Nat.le_refl _) _
  have l2 := Blk.new w1 #[.int .i64 1, .int .i64 t, .int .i64 0, .int .i64 v, .string ⟨#[]⟩] 35
  have z2 := K1.out.lt
  generalize w1.alloc (.cells #[.int .i64 1, .int .i64 t, .int .i64 0, .int .i64 v, .string ⟨#[]⟩] 35) = W2 at *
  refine (c2 _).mono ?_
  rintro e w3 ⟨rfl, hb3⟩
  have B3 : Hid (Below w.heap.size w w3) := B1.out.trans ((hb2.trans (hb3.mono hb2.size)).mono B1.out.size)
  have k3 := (K1.out.on hb2 z2).on hb3 (Nat.lt_of_lt_of_le z2 hb2.size)
  have l3 := l2.on hb3 l2.lt
  clear hb2 hb3 c2 l2 K1 B1
  generalize hq : w1.heap.size = q at *
  have e0 := l3.cell 0 (.int .i64 1) rfl
  have f0 := l3.free 0
  have e1 := l3.cell 1 (.int .i64 t) rfl
  have f1 := l3.free 1
  have e2 := l3.cell 2 (.int .i64 0) rfl
  have f2 := l3.free 2
  have e3 := l3.cell 3 (.int .i64 v) rfl
  have f3 := l3.free 3
  have e4 := l3.cell 4 (.string ⟨#[]⟩) rfl
  have f4 := l3.free 4
  have r0 := k3.cell 0 (.int .i64 0) rfl
  have g0 := k3.free 0
  have r1 := k3.cell 1 (.int .i64 0) rfl
  have g1 := k3.free 1
  have r2 := k3.cell 2 (.int .i64 0) rfl
  have g2 := k3.free 2
  have r3 := k3.cell 3 (.int .i64 0) rfl
  have g3 := k3.free 3
  have r4 := k3.cell 4 (.string ⟨#[]⟩) rfl
  have g4 := k3.free 4
  have K3 : Hid (Blk w3 w.heap.size _ _) := k3
  have L3 : Hid (Blk w3 q _ _) := l3
  go_wp2_with fail
  have hF := ((((((k3.other (show w.heap.size ≠ q by omega) 4 (.string ⟨#[]⟩)).set 0 (.int .i64 1)).set 1 (.int .i64 t)).set 2 (.int .i64 0)).set 3 (.int .i64 v)).set 4 (.string ⟨#[]⟩))
  have FB := ((((((B3.out.setCell (show w.heap.size ≤ q by omega) (.string ⟨#[]⟩) (p := ⟨_, 4, none⟩)).setCell (Nat.le_refl _) (.int .i64 1) (p := ⟨_, 0, none⟩)).setCell (Nat.le_refl _) (.int .i64 t) (p := ⟨_, 1, none⟩)).setCell (Nat.le_refl _) (.int .i64 0) (p := ⟨_, 2, none⟩)).setCell (Nat.le_refl _) (.int .i64 v) (p := ⟨_, 3, none⟩)).setCell (Nat.le_refl _) (.string ⟨#[]⟩) (p := ⟨_, 4, none⟩))
  clear e0 e1 e2 e3 e4 f0 f1 f2 f3 f4 r0 r1 r2 r3 r4 g0 g1 g2 g3 g4
  generalize ((((((w3.setCell ⟨q, 4, none⟩ (.string ⟨#[]⟩)).setCell ⟨w.heap.size, 0, none⟩ (.int .i64 1)).setCell ⟨w.heap.size, 1, none⟩ (.int .i64 t)).setCell ⟨w.heap.size, 2, none⟩ (.int .i64 0)).setCell ⟨w.heap.size, 3, none⟩ (.int .i64 v)).setCell ⟨w.heap.size, 4, none⟩ (.string ⟨#[]⟩)) = WF at *
  have hG : Blk WF w.heap.size #[.int .i64 1, .int .i64 t, .int .i64 0, .int .i64 v, .string ⟨#[]⟩] 35 := hF
  have m0 := hG.cell 0 (.int .i64 1) rfl
  have m1 := hG.cell 1 (.int .i64 t) rfl
  have m2 := hG.cell 2 (.int .i64 0) rfl
  have m3 := hG.cell 3 (.int .i64 v) rfl
  have m4 := hG.cell 4 (.string ⟨#[]⟩) rfl
  exact bodyPost_ret (v := .agg #[.int .i64 1, .int .i64 t, .int .i64 0, .int .i64 v, .string ⟨#[]⟩]) (by simp [results, go_sem, m0, m1, m2, m3, m4]) rfl ⟨rfl, FB⟩

set_option maxHeartbeats 1000000 in
theorem told_entry (i t : Int) (d : ByteArray) (w : World) (hd : d.size ≤ 1048576) : Calls Try.prog 43 #[.iface 98 (.agg #[.int .i64 i, .int .i64 t, .string d])] w fun e w' => e = .returned (.agg #[.int .i64 2, .int .i64 t, .int .i64 i, .int .i64 0, .string d]) ∧ Below w.heap.size w w' := by
  have c1 := fun wx => entryRec i t d wx
  have c2 := fun wx => clone d wx (by omega)
  clear hd
  go_enter Try.func43, Try.ntmps43
  go_wp2_with fail
  have hb0 : Below w.heap.size w (w.alloc (.cells #[.int .i64 0, .int .i64 0, .int .i64 0, .int .i64 0, .string ⟨#[]⟩] 35)) := (Below.refl _ _).alloc (Nat.le_refl _) _
  have k0 := Blk.new w #[.int .i64 0, .int .i64 0, .int .i64 0, .int .i64 0, .string ⟨#[]⟩] 35
  generalize w.alloc (.cells #[.int .i64 0, .int .i64 0, .int .i64 0, .int .i64 0, .string ⟨#[]⟩] 35) = W at *
  refine (c1 _).mono ?_
  rintro e w1 ⟨rfl, hb1⟩
  have B1 : Hid (Below w.heap.size w w1) := hb0.trans (hb1.mono hb0.size)
  have K1 : Hid (Blk w1 w.heap.size #[.int .i64 0, .int .i64 0, .int .i64 0, .int .i64 0, .string ⟨#[]⟩] 35) := k0.on hb1 k0.lt
  clear hb0 hb1 k0 c1
  go_wp2_with fail
  have hb2 : Below w1.heap.size w1 (w1.alloc (.cells #[.int .i64 2, .int .i64 t, .int .i64 i, .int .i64 0, .string d] 35)) := (Below.refl _ _).alloc (Nat.le_refl _) _
  have l2 := Blk.new w1 #[.int .i64 2, .int .i64 t, .int .i64 i, .int .i64 0, .string d] 35
  have z2 := K1.out.lt
  generalize w1.alloc (.cells #[.int .i64 2, .int .i64 t, .int .i64 i, .int .i64 0, .string d] 35) = W2 at *
  refine (c2 _).mono ?_
  rintro e w3 ⟨rfl, hb3⟩
  have B3 : Hid (Below w.heap.size w w3) := B1.out.trans ((hb2.trans (hb3.mono hb2.size)).mono B1.out.size)
  have k3 := (K1.out.on hb2 z2).on hb3 (Nat.lt_of_lt_of_le z2 hb2.size)
  have l3 := l2.on hb3 l2.lt
  clear hb2 hb3 c2 l2 K1 B1
  generalize hq : w1.heap.size = q at *
  have e0 := l3.cell 0 (.int .i64 2) rfl
  have f0 := l3.free 0
  have e1 := l3.cell 1 (.int .i64 t) rfl
  have f1 := l3.free 1
  have e2 := l3.cell 2 (.int .i64 i) rfl
  have f2 := l3.free 2
  have e3 := l3.cell 3 (.int .i64 0) rfl
  have f3 := l3.free 3
  have e4 := l3.cell 4 (.string d) rfl
  have f4 := l3.free 4
  have r0 := k3.cell 0 (.int .i64 0) rfl
  have g0 := k3.free 0
  have r1 := k3.cell 1 (.int .i64 0) rfl
  have g1 := k3.free 1
  have r2 := k3.cell 2 (.int .i64 0) rfl
  have g2 := k3.free 2
  have r3 := k3.cell 3 (.int .i64 0) rfl
  have g3 := k3.free 3
  have r4 := k3.cell 4 (.string ⟨#[]⟩) rfl
  have g4 := k3.free 4
  have K3 : Hid (Blk w3 w.heap.size _ _) := k3
  have L3 : Hid (Blk w3 q _ _) := l3
  go_wp2_with fail
  have hF := ((((((k3.other (show w.heap.size ≠ q by omega) 4 (.string d)).set 0 (.int .i64 2)).set 1 (.int .i64 t)).set 2 (.int .i64 i)).set 3 (.int .i64 0)).set 4 (.string d))
  have FB := ((((((B3.out.setCell (show w.heap.size ≤ q by omega) (.string d) (p := ⟨_, 4, none⟩)).setCell (Nat.le_refl _) (.int .i64 2) (p := ⟨_, 0, none⟩)).setCell (Nat.le_refl _) (.int .i64 t) (p := ⟨_, 1, none⟩)).setCell (Nat.le_refl _) (.int .i64 i) (p := ⟨_, 2, none⟩)).setCell (Nat.le_refl _) (.int .i64 0) (p := ⟨_, 3, none⟩)).setCell (Nat.le_refl _) (.string d) (p := ⟨_, 4, none⟩))
  clear e0 e1 e2 e3 e4 f0 f1 f2 f3 f4 r0 r1 r2 r3 r4 g0 g1 g2 g3 g4
  generalize ((((((w3.setCell ⟨q, 4, none⟩ (.string d)).setCell ⟨w.heap.size, 0, none⟩ (.int .i64 2)).setCell ⟨w.heap.size, 1, none⟩ (.int .i64 t)).setCell ⟨w.heap.size, 2, none⟩ (.int .i64 i)).setCell ⟨w.heap.size, 3, none⟩ (.int .i64 0)).setCell ⟨w.heap.size, 4, none⟩ (.string d)) = WF at *
  have hG : Blk WF w.heap.size #[.int .i64 2, .int .i64 t, .int .i64 i, .int .i64 0, .string d] 35 := hF
  have m0 := hG.cell 0 (.int .i64 2) rfl
  have m1 := hG.cell 1 (.int .i64 t) rfl
  have m2 := hG.cell 2 (.int .i64 i) rfl
  have m3 := hG.cell 3 (.int .i64 0) rfl
  have m4 := hG.cell 4 (.string d) rfl
  exact bodyPost_ret (v := .agg #[.int .i64 2, .int .i64 t, .int .i64 i, .int .i64 0, .string d]) (by simp [results, go_sem, m0, m1, m2, m3, m4]) rfl ⟨rfl, FB⟩

set_option maxHeartbeats 1000000 in
theorem told_cut (i : Int) (w : World) (hd : 0 ≤ 1048576) : Calls Try.prog 43 #[.iface 69 (.agg #[.int .i64 i])] w fun e w' => e = .returned (.agg #[.int .i64 3, .int .i64 0, .int .i64 i, .int .i64 0, .string ⟨#[]⟩]) ∧ Below w.heap.size w w' := by
  have c1 := fun wx => cutRec i wx
  have c2 := fun wx => clone ⟨#[]⟩ wx (Nat.zero_le _)
  clear hd
  go_enter Try.func43, Try.ntmps43
  go_wp2_with fail
  have hb0 : Below w.heap.size w (w.alloc (.cells #[.int .i64 0, .int .i64 0, .int .i64 0, .int .i64 0, .string ⟨#[]⟩] 35)) := (Below.refl _ _).alloc (Nat.le_refl _) _
  have k0 := Blk.new w #[.int .i64 0, .int .i64 0, .int .i64 0, .int .i64 0, .string ⟨#[]⟩] 35
  generalize w.alloc (.cells #[.int .i64 0, .int .i64 0, .int .i64 0, .int .i64 0, .string ⟨#[]⟩] 35) = W at *
  refine (c1 _).mono ?_
  rintro e w1 ⟨rfl, hb1⟩
  have B1 : Hid (Below w.heap.size w w1) := hb0.trans (hb1.mono hb0.size)
  have K1 : Hid (Blk w1 w.heap.size #[.int .i64 0, .int .i64 0, .int .i64 0, .int .i64 0, .string ⟨#[]⟩] 35) := k0.on hb1 k0.lt
  clear hb0 hb1 k0 c1
  go_wp2_with fail
  have hb2 : Below w1.heap.size w1 (w1.alloc (.cells #[.int .i64 3, .int .i64 0, .int .i64 i, .int .i64 0, .string ⟨#[]⟩] 35)) := (Below.refl _ _).alloc (Nat.le_refl _) _
  have l2 := Blk.new w1 #[.int .i64 3, .int .i64 0, .int .i64 i, .int .i64 0, .string ⟨#[]⟩] 35
  have z2 := K1.out.lt
  generalize w1.alloc (.cells #[.int .i64 3, .int .i64 0, .int .i64 i, .int .i64 0, .string ⟨#[]⟩] 35) = W2 at *
  refine (c2 _).mono ?_
  rintro e w3 ⟨rfl, hb3⟩
  have B3 : Hid (Below w.heap.size w w3) := B1.out.trans ((hb2.trans (hb3.mono hb2.size)).mono B1.out.size)
  have k3 := (K1.out.on hb2 z2).on hb3 (Nat.lt_of_lt_of_le z2 hb2.size)
  have l3 := l2.on hb3 l2.lt
  clear hb2 hb3 c2 l2 K1 B1
  generalize hq : w1.heap.size = q at *
  have e0 := l3.cell 0 (.int .i64 3) rfl
  have f0 := l3.free 0
  have e1 := l3.cell 1 (.int .i64 0) rfl
  have f1 := l3.free 1
  have e2 := l3.cell 2 (.int .i64 i) rfl
  have f2 := l3.free 2
  have e3 := l3.cell 3 (.int .i64 0) rfl
  have f3 := l3.free 3
  have e4 := l3.cell 4 (.string ⟨#[]⟩) rfl
  have f4 := l3.free 4
  have r0 := k3.cell 0 (.int .i64 0) rfl
  have g0 := k3.free 0
  have r1 := k3.cell 1 (.int .i64 0) rfl
  have g1 := k3.free 1
  have r2 := k3.cell 2 (.int .i64 0) rfl
  have g2 := k3.free 2
  have r3 := k3.cell 3 (.int .i64 0) rfl
  have g3 := k3.free 3
  have r4 := k3.cell 4 (.string ⟨#[]⟩) rfl
  have g4 := k3.free 4
  have K3 : Hid (Blk w3 w.heap.size _ _) := k3
  have L3 : Hid (Blk w3 q _ _) := l3
  go_wp2_with fail
  have hF := ((((((k3.other (show w.heap.size ≠ q by omega) 4 (.string ⟨#[]⟩)).set 0 (.int .i64 3)).set 1 (.int .i64 0)).set 2 (.int .i64 i)).set 3 (.int .i64 0)).set 4 (.string ⟨#[]⟩))
  have FB := ((((((B3.out.setCell (show w.heap.size ≤ q by omega) (.string ⟨#[]⟩) (p := ⟨_, 4, none⟩)).setCell (Nat.le_refl _) (.int .i64 3) (p := ⟨_, 0, none⟩)).setCell (Nat.le_refl _) (.int .i64 0) (p := ⟨_, 1, none⟩)).setCell (Nat.le_refl _) (.int .i64 i) (p := ⟨_, 2, none⟩)).setCell (Nat.le_refl _) (.int .i64 0) (p := ⟨_, 3, none⟩)).setCell (Nat.le_refl _) (.string ⟨#[]⟩) (p := ⟨_, 4, none⟩))
  clear e0 e1 e2 e3 e4 f0 f1 f2 f3 f4 r0 r1 r2 r3 r4 g0 g1 g2 g3 g4
  generalize ((((((w3.setCell ⟨q, 4, none⟩ (.string ⟨#[]⟩)).setCell ⟨w.heap.size, 0, none⟩ (.int .i64 3)).setCell ⟨w.heap.size, 1, none⟩ (.int .i64 0)).setCell ⟨w.heap.size, 2, none⟩ (.int .i64 i)).setCell ⟨w.heap.size, 3, none⟩ (.int .i64 0)).setCell ⟨w.heap.size, 4, none⟩ (.string ⟨#[]⟩)) = WF at *
  have hG : Blk WF w.heap.size #[.int .i64 3, .int .i64 0, .int .i64 i, .int .i64 0, .string ⟨#[]⟩] 35 := hF
  have m0 := hG.cell 0 (.int .i64 3) rfl
  have m1 := hG.cell 1 (.int .i64 0) rfl
  have m2 := hG.cell 2 (.int .i64 i) rfl
  have m3 := hG.cell 3 (.int .i64 0) rfl
  have m4 := hG.cell 4 (.string ⟨#[]⟩) rfl
  exact bodyPost_ret (v := .agg #[.int .i64 3, .int .i64 0, .int .i64 i, .int .i64 0, .string ⟨#[]⟩]) (by simp [results, go_sem, m0, m1, m2, m3, m4]) rfl ⟨rfl, FB⟩

set_option maxHeartbeats 1000000 in
theorem told_base (i t : Int) (w : World) (hd : 0 ≤ 1048576) : Calls Try.prog 43 #[.iface 113 (.agg #[.int .i64 i, .int .i64 t])] w fun e w' => e = .returned (.agg #[.int .i64 4, .int .i64 t, .int .i64 i, .int .i64 0, .string ⟨#[]⟩]) ∧ Below w.heap.size w w' := by
  have c1 := fun wx => baseRec i t wx
  have c2 := fun wx => clone ⟨#[]⟩ wx (Nat.zero_le _)
  clear hd
  go_enter Try.func43, Try.ntmps43
  go_wp2_with fail
  have hb0 : Below w.heap.size w (w.alloc (.cells #[.int .i64 0, .int .i64 0, .int .i64 0, .int .i64 0, .string ⟨#[]⟩] 35)) := (Below.refl _ _).alloc (Nat.le_refl _) _
  have k0 := Blk.new w #[.int .i64 0, .int .i64 0, .int .i64 0, .int .i64 0, .string ⟨#[]⟩] 35
  generalize w.alloc (.cells #[.int .i64 0, .int .i64 0, .int .i64 0, .int .i64 0, .string ⟨#[]⟩] 35) = W at *
  refine (c1 _).mono ?_
  rintro e w1 ⟨rfl, hb1⟩
  have B1 : Hid (Below w.heap.size w w1) := hb0.trans (hb1.mono hb0.size)
  have K1 : Hid (Blk w1 w.heap.size #[.int .i64 0, .int .i64 0, .int .i64 0, .int .i64 0, .string ⟨#[]⟩] 35) := k0.on hb1 k0.lt
  clear hb0 hb1 k0 c1
  go_wp2_with fail
  have hb2 : Below w1.heap.size w1 (w1.alloc (.cells #[.int .i64 4, .int .i64 t, .int .i64 i, .int .i64 0, .string ⟨#[]⟩] 35)) := (Below.refl _ _).alloc (Nat.le_refl _) _
  have l2 := Blk.new w1 #[.int .i64 4, .int .i64 t, .int .i64 i, .int .i64 0, .string ⟨#[]⟩] 35
  have z2 := K1.out.lt
  generalize w1.alloc (.cells #[.int .i64 4, .int .i64 t, .int .i64 i, .int .i64 0, .string ⟨#[]⟩] 35) = W2 at *
  refine (c2 _).mono ?_
  rintro e w3 ⟨rfl, hb3⟩
  have B3 : Hid (Below w.heap.size w w3) := B1.out.trans ((hb2.trans (hb3.mono hb2.size)).mono B1.out.size)
  have k3 := (K1.out.on hb2 z2).on hb3 (Nat.lt_of_lt_of_le z2 hb2.size)
  have l3 := l2.on hb3 l2.lt
  clear hb2 hb3 c2 l2 K1 B1
  generalize hq : w1.heap.size = q at *
  have e0 := l3.cell 0 (.int .i64 4) rfl
  have f0 := l3.free 0
  have e1 := l3.cell 1 (.int .i64 t) rfl
  have f1 := l3.free 1
  have e2 := l3.cell 2 (.int .i64 i) rfl
  have f2 := l3.free 2
  have e3 := l3.cell 3 (.int .i64 0) rfl
  have f3 := l3.free 3
  have e4 := l3.cell 4 (.string ⟨#[]⟩) rfl
  have f4 := l3.free 4
  have r0 := k3.cell 0 (.int .i64 0) rfl
  have g0 := k3.free 0
  have r1 := k3.cell 1 (.int .i64 0) rfl
  have g1 := k3.free 1
  have r2 := k3.cell 2 (.int .i64 0) rfl
  have g2 := k3.free 2
  have r3 := k3.cell 3 (.int .i64 0) rfl
  have g3 := k3.free 3
  have r4 := k3.cell 4 (.string ⟨#[]⟩) rfl
  have g4 := k3.free 4
  have K3 : Hid (Blk w3 w.heap.size _ _) := k3
  have L3 : Hid (Blk w3 q _ _) := l3
  go_wp2_with fail
  have hF := ((((((k3.other (show w.heap.size ≠ q by omega) 4 (.string ⟨#[]⟩)).set 0 (.int .i64 4)).set 1 (.int .i64 t)).set 2 (.int .i64 i)).set 3 (.int .i64 0)).set 4 (.string ⟨#[]⟩))
  have FB := ((((((B3.out.setCell (show w.heap.size ≤ q by omega) (.string ⟨#[]⟩) (p := ⟨_, 4, none⟩)).setCell (Nat.le_refl _) (.int .i64 4) (p := ⟨_, 0, none⟩)).setCell (Nat.le_refl _) (.int .i64 t) (p := ⟨_, 1, none⟩)).setCell (Nat.le_refl _) (.int .i64 i) (p := ⟨_, 2, none⟩)).setCell (Nat.le_refl _) (.int .i64 0) (p := ⟨_, 3, none⟩)).setCell (Nat.le_refl _) (.string ⟨#[]⟩) (p := ⟨_, 4, none⟩))
  clear e0 e1 e2 e3 e4 f0 f1 f2 f3 f4 r0 r1 r2 r3 r4 g0 g1 g2 g3 g4
  generalize ((((((w3.setCell ⟨q, 4, none⟩ (.string ⟨#[]⟩)).setCell ⟨w.heap.size, 0, none⟩ (.int .i64 4)).setCell ⟨w.heap.size, 1, none⟩ (.int .i64 t)).setCell ⟨w.heap.size, 2, none⟩ (.int .i64 i)).setCell ⟨w.heap.size, 3, none⟩ (.int .i64 0)).setCell ⟨w.heap.size, 4, none⟩ (.string ⟨#[]⟩)) = WF at *
  have hG : Blk WF w.heap.size #[.int .i64 4, .int .i64 t, .int .i64 i, .int .i64 0, .string ⟨#[]⟩] 35 := hF
  have m0 := hG.cell 0 (.int .i64 4) rfl
  have m1 := hG.cell 1 (.int .i64 t) rfl
  have m2 := hG.cell 2 (.int .i64 i) rfl
  have m3 := hG.cell 3 (.int .i64 0) rfl
  have m4 := hG.cell 4 (.string ⟨#[]⟩) rfl
  exact bodyPost_ret (v := .agg #[.int .i64 4, .int .i64 t, .int .i64 i, .int .i64 0, .string ⟨#[]⟩]) (by simp [results, go_sem, m0, m1, m2, m3, m4]) rfl ⟨rfl, FB⟩

theorem rest0_of (k t i v : Int) (d : ByteArray) (h : recOk ⟨k, t, i, v, d⟩ = true) : (k = 1 ∧ i = 0 ∧ d = ⟨#[]⟩) ∨ (k = 2 ∧ v = 0) ∨ (k = 3 ∧ t = 0 ∧ v = 0 ∧ d = ⟨#[]⟩) ∨ (k = 4 ∧ v = 0 ∧ d = ⟨#[]⟩) := by
  rw [recOk_iff, Bool.and_eq_true] at h
  obtain ⟨h1, h2⟩ := h
  have h1 := of_decide_eq_true h1
  unfold rest0 at h2
  rcases (show k = 1 ∨ k = 2 ∨ k = 3 ∨ k = 4 by omega) with rfl | rfl | rfl | rfl
  · simp at h2
    exact .inl ⟨rfl, h2⟩
  · simp at h2
    exact .inr (.inl ⟨rfl, h2⟩)
  · simp at h2
    exact .inr (.inr (.inl ⟨rfl, h2.1.1, h2.1.2, h2.2⟩))
  · simp at h2
    exact .inr (.inr (.inr ⟨rfl, h2⟩))
theorem toldV (r : Rcd) (w : World) (ho : recOk r = true) (hd : r.data.size ≤ 1048576) : Calls Try.prog 43 #[kindV r] w fun e w' => e = .returned (vRcd r) ∧ Below w.heap.size w w' := by
  obtain ⟨k, t, i, v, d⟩ := r
  rcases rest0_of k t i v d ho with ⟨rfl, rfl, rfl⟩ | ⟨rfl, rfl⟩ | ⟨rfl, rfl, rfl, rfl⟩ | ⟨rfl, rfl, rfl⟩
  · exact told_hard t v w (Nat.zero_le _)
  · exact told_entry i t d w hd
  · exact told_cut i w (Nat.zero_le _)
  · exact told_base i t w (Nat.zero_le _)
theorem kindV_iface (r : Rcd) : ∃ a b, kindV r = .iface a b := by
  unfold kindV
  split
  · exact ⟨_, _, rfl⟩
  split
  · exact ⟨_, _, rfl⟩
  split
  · exact ⟨_, _, rfl⟩
  · exact ⟨_, _, rfl⟩
/-- What ReadRec tells of a record. -/
def toldO (r : Rcd) : Value := if recOk r = true then .tuple #[vRcd r, .bool true] else .tuple #[.agg #[.int .i64 0, .int .i64 0, .int .i64 0, .int .i64 0, .string ⟨#[]⟩], .bool false]

set_option maxHeartbeats 1000000 in
theorem implReadRec_no (s : ByteArray) (w : World) (hs : s.size ≤ 1048576) (c1 : ∀ wx, Calls Try.prog 48 #[.string s] wx fun e w' => e = .returned .nilIface ∧ Below wx.heap.size wx w') :
    Calls Try.prog 15 #[.string s] w fun e w' => e = .returned (.tuple #[.agg #[.int .i64 0, .int .i64 0, .int .i64 0, .int .i64 0, .string ⟨#[]⟩], .bool false]) ∧ Below w.heap.size w w' := by
  have hb0 : Below w.heap.size w (w.alloc (.cells #[.int .i64 0, .int .i64 0, .int .i64 0, .int .i64 0, .string ⟨#[]⟩] 35)) := (Below.refl _ _).alloc (Nat.le_refl _) _
  have k0 := Blk.new w #[.int .i64 0, .int .i64 0, .int .i64 0, .int .i64 0, .string ⟨#[]⟩] 35
  go_enter Try.func15, Try.ntmps15
  go_wp2_with fail
  generalize w.alloc (.cells #[.int .i64 0, .int .i64 0, .int .i64 0, .int .i64 0, .string ⟨#[]⟩] 35) = W at *
  refine (c1 _).mono ?_
  rintro e w1 ⟨rfl, hb1⟩
  have B1 : Hid (Below w.heap.size w w1) := hb0.trans (hb1.mono hb0.size)
  have k1 := k0.on hb1 k0.lt
  clear hb0 hb1 k0 c1
  have r0 := k1.cell 0 (.int .i64 0) rfl
  have g0 := k1.free 0
  have r1 := k1.cell 1 (.int .i64 0) rfl
  have g1 := k1.free 1
  have r2 := k1.cell 2 (.int .i64 0) rfl
  have g2 := k1.free 2
  have r3 := k1.cell 3 (.int .i64 0) rfl
  have g3 := k1.free 3
  have r4 := k1.cell 4 (.string ⟨#[]⟩) rfl
  have g4 := k1.free 4
  have K1 : Hid (Blk w1 w.heap.size _ _) := k1
  go_wp2_with fail
  have hF := (((((k1.set 0 (.int .i64 0)).set 1 (.int .i64 0)).set 2 (.int .i64 0)).set 3 (.int .i64 0)).set 4 (.string ⟨#[]⟩))
  have FB := (((((B1.out.setCell (Nat.le_refl _) (.int .i64 0) (p := ⟨_, 0, none⟩)).setCell (Nat.le_refl _) (.int .i64 0) (p := ⟨_, 1, none⟩)).setCell (Nat.le_refl _) (.int .i64 0) (p := ⟨_, 2, none⟩)).setCell (Nat.le_refl _) (.int .i64 0) (p := ⟨_, 3, none⟩)).setCell (Nat.le_refl _) (.string ⟨#[]⟩) (p := ⟨_, 4, none⟩))
  clear r0 r1 r2 r3 r4 g0 g1 g2 g3 g4
  generalize (((((w1.setCell ⟨w.heap.size, 0, none⟩ (.int .i64 0)).setCell ⟨w.heap.size, 1, none⟩ (.int .i64 0)).setCell ⟨w.heap.size, 2, none⟩ (.int .i64 0)).setCell ⟨w.heap.size, 3, none⟩ (.int .i64 0)).setCell ⟨w.heap.size, 4, none⟩ (.string ⟨#[]⟩)) = WF at *
  have hG : Blk WF w.heap.size #[.int .i64 0, .int .i64 0, .int .i64 0, .int .i64 0, .string ⟨#[]⟩] 35 := hF
  have m0 := hG.cell 0 (.int .i64 0) rfl
  have m1 := hG.cell 1 (.int .i64 0) rfl
  have m2 := hG.cell 2 (.int .i64 0) rfl
  have m3 := hG.cell 3 (.int .i64 0) rfl
  have m4 := hG.cell 4 (.string ⟨#[]⟩) rfl
  exact bodyPost_ret (v := .tuple #[.agg #[.int .i64 0, .int .i64 0, .int .i64 0, .int .i64 0, .string ⟨#[]⟩], .bool false]) (by simp [results, go_sem, m0, m1, m2, m3, m4]) rfl ⟨rfl, FB⟩

set_option maxHeartbeats 1000000 in
theorem implReadRec_yes (s : ByteArray) (r : Rcd) (w : World) (hs : s.size ≤ 1048576) (hd : r.data.size ≤ 1048576) (ho : recOk r = true) (c1 : ∀ wx, Calls Try.prog 48 #[.string s] wx fun e w' => e = .returned (recV r) ∧ Below wx.heap.size wx w') :
    Calls Try.prog 15 #[.string s] w fun e w' => e = .returned (.tuple #[vRcd r, .bool true]) ∧ Below w.heap.size w w' := by
  obtain ⟨a, b, hab⟩ := kindV_iface r
  have c2 := fun wx => toldV r wx ho hd
  have hrv : recV r = kindV r := by unfold recV; rw [if_pos ho]
  rw [hrv, hab] at c1
  rw [hab] at c2
  have hb0 : Below w.heap.size w (w.alloc (.cells #[.int .i64 0, .int .i64 0, .int .i64 0, .int .i64 0, .string ⟨#[]⟩] 35)) := (Below.refl _ _).alloc (Nat.le_refl _) _
  have k0 := Blk.new w #[.int .i64 0, .int .i64 0, .int .i64 0, .int .i64 0, .string ⟨#[]⟩] 35
  clear hrv hab ho hd hs
  unfold vRcd at c2 ⊢
  go_enter Try.func15, Try.ntmps15
  go_wp2_with fail
  generalize w.alloc (.cells #[.int .i64 0, .int .i64 0, .int .i64 0, .int .i64 0, .string ⟨#[]⟩] 35) = W at *
  refine (c1 _).mono ?_
  rintro e w1 ⟨rfl, hb1⟩
  have B1 : Hid (Below w.heap.size w w1) := hb0.trans (hb1.mono hb0.size)
  have k1 := k0.on hb1 k0.lt
  clear hb0 hb1 k0 c1
  go_wp2_with fail
  refine (c2 _).mono ?_
  rintro e w2 ⟨rfl, hb2⟩
  have B2 : Hid (Below w.heap.size w w2) := B1.out.trans (hb2.mono B1.out.size)
  have k2 := k1.on hb2 k1.lt
  clear hb2 k1 c2
  have r0 := k2.cell 0 (.int .i64 0) rfl
  have g0 := k2.free 0
  have r1 := k2.cell 1 (.int .i64 0) rfl
  have g1 := k2.free 1
  have r2 := k2.cell 2 (.int .i64 0) rfl
  have g2 := k2.free 2
  have r3 := k2.cell 3 (.int .i64 0) rfl
  have g3 := k2.free 3
  have r4 := k2.cell 4 (.string ⟨#[]⟩) rfl
  have g4 := k2.free 4
  have K2 : Hid (Blk w2 w.heap.size _ _) := k2
  go_wp2_with fail
  have hF := (((((k2.set 0 (.int .i64 r.kind)).set 1 (.int .i64 r.term)).set 2 (.int .i64 r.index)).set 3 (.int .i64 r.vote)).set 4 (.string r.data))
  have FB := (((((B2.out.setCell (Nat.le_refl _) (.int .i64 r.kind) (p := ⟨_, 0, none⟩)).setCell (Nat.le_refl _) (.int .i64 r.term) (p := ⟨_, 1, none⟩)).setCell (Nat.le_refl _) (.int .i64 r.index) (p := ⟨_, 2, none⟩)).setCell (Nat.le_refl _) (.int .i64 r.vote) (p := ⟨_, 3, none⟩)).setCell (Nat.le_refl _) (.string r.data) (p := ⟨_, 4, none⟩))
  clear r0 r1 r2 r3 r4 g0 g1 g2 g3 g4
  generalize (((((w2.setCell ⟨w.heap.size, 0, none⟩ (.int .i64 r.kind)).setCell ⟨w.heap.size, 1, none⟩ (.int .i64 r.term)).setCell ⟨w.heap.size, 2, none⟩ (.int .i64 r.index)).setCell ⟨w.heap.size, 3, none⟩ (.int .i64 r.vote)).setCell ⟨w.heap.size, 4, none⟩ (.string r.data)) = WF at *
  have hG : Blk WF w.heap.size #[.int .i64 r.kind, .int .i64 r.term, .int .i64 r.index, .int .i64 r.vote, .string r.data] 35 := hF
  have m0 := hG.cell 0 (.int .i64 r.kind) rfl
  have m1 := hG.cell 1 (.int .i64 r.term) rfl
  have m2 := hG.cell 2 (.int .i64 r.index) rfl
  have m3 := hG.cell 3 (.int .i64 r.vote) rfl
  have m4 := hG.cell 4 (.string r.data) rfl
  exact bodyPost_ret (v := .tuple #[.agg #[.int .i64 r.kind, .int .i64 r.term, .int .i64 r.index, .int .i64 r.vote, .string r.data], .bool true]) (by simp [results, go_sem, m0, m1, m2, m3, m4]) rfl ⟨rfl, FB⟩

theorem implReadRec_at (s s1 s2 s3 s4 : ByteArray) (k1 k2 k3 : Nat) (w : World) (hs : s.size ≤ 1048576) (h : Parts s s1 s2 s3 s4 k1 k2 k3) :
    Calls Try.prog 15 #[.string s] w fun e w' => e = .returned (toldO (partsR s s1 s2 s3 s4 k1 k2 k3)) ∧ Below w.heap.size w w' := by
  have c1 := fun wx => readRecord_yes s s1 s2 s3 s4 k1 k2 k3 wx hs h
  have hz : s4.size ≤ s.size := by
    rw [h.e4, ext_size, h.e3, ext_size, h.e2, ext_size, h.e1, ext_size]
    omega
  cases ho : recOk (partsR s s1 s2 s3 s4 k1 k2 k3)
  · have hrv : recV (partsR s s1 s2 s3 s4 k1 k2 k3) = .nilIface := by unfold recV; rw [ho]; rfl
    rw [hrv] at c1
    have : toldO (partsR s s1 s2 s3 s4 k1 k2 k3) = .tuple #[.agg #[.int .i64 0, .int .i64 0, .int .i64 0, .int .i64 0, .string ⟨#[]⟩], .bool false] := by unfold toldO; rw [ho]; rfl
    rw [this]
    exact implReadRec_no s w hs c1
  · have : toldO (partsR s s1 s2 s3 s4 k1 k2 k3) = .tuple #[vRcd (partsR s s1 s2 s3 s4 k1 k2 k3), .bool true] := by unfold toldO; rw [ho]; rfl
    rw [this]
    exact implReadRec_yes s _ w hs (by show s4.size ≤ _; omega) ho c1
end Go.Proofs.Ytajodeahigmcoaa
