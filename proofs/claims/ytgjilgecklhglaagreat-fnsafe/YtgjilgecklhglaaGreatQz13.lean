/- KdSpoil KdSome KdDraw KdTwo -/
import Derived.Test.YtgjilgecklhglaaGreatRows
import Derived.Test.YtgjilgecklhglaaGreatQz12
import Derived.Test.YtgjilgecklhglaaGreatQz7
import Derived.Test.YtgjilgecklhglaaGreatQz11
import Derived.Lib.OwnKind
import Derived.Deep.Cut
import Derived.Deep.CutRange
import Derived.Deep.CutBlock
import Derived.Handy
import Derived.Test.YtgjilgecklhglaaGreatQz10
import Derived.Test.YtgjilgecklhglaaGreatQt0
import Derived.Test.YtgjilgecklhglaaGreatQt1
import Derived.Test.YtgjilgecklhglaaGreatQt2
import Derived.Test.YtgjilgecklhglaaGreatQt3
import Derived.Test.YtgjilgecklhglaaGreatQt4
import Derived.Test.YtgjilgecklhglaaGreatQt5
import Derived.Test.YtgjilgecklhglaaGreatQt6
import Derived.Test.YtgjilgecklhglaaGreatQt7
import Derived.Test.YtgjilgecklhglaaGreatQt8
import Derived.Test.YtgjilgecklhglaaGreatQt9
import Derived.Test.YtgjilgecklhglaaGreatQt10
import Derived.Test.YtgjilgecklhglaaGreatQt11
import Derived.Test.YtgjilgecklhglaaGreatQt12
import Derived.Test.YtgjilgecklhglaaGreatQt13
import Derived.Test.YtgjilgecklhglaaGreatQt14
import Derived.Test.YtgjilgecklhglaaGreatQt15
open List (setIfInBounds_toArray set_cons_zero set_cons_succ)
namespace Go.Proofs.YtgjilgecklhglaaGreat
open Go.ChangeShapes Go.WideShapes Go.ChangeAt Go.RowKit Go.PlainAid
set_option linter.unusedVariables false
section
variable {w wc : World} {p : Nat} {d : Dsk} {g n1 c1 : Nat} {A2 : Option Addr} {n2 c2 : Nat} {A3 : Option Addr} {n3 c3 : Nat}
end
end Go.Proofs.YtgjilgecklhglaaGreat
namespace Go.Proofs.YtgjilgecklhglaaGreat
open Go.ChangeShapes Go.WideShapes Go.ChangeAt Go.RowKit Go.PlainAid
set_option linter.unusedVariables false
end Go.Proofs.YtgjilgecklhglaaGreat
namespace Go.Proofs.YtgjilgecklhglaaGreat
open Go.ChangeShapes Go.WideShapes Go.ChangeAt Go.RowKit Go.PlainAid
set_option linter.unusedVariables false
end Go.Proofs.YtgjilgecklhglaaGreat
namespace Go.Proofs.YtgjilgecklhglaaGreat
open Go.ChangeShapes Go.WideShapes Go.ChangeAt Go.RowKit Go.PlainAid
set_option linter.unusedVariables false
set_option maxRecDepth 20000 in
set_option maxHeartbeats 4000000 in
theorem two_any (w : World) (ao : Option Addr) (len cap : Nat) (cs : Nat → Nat) (hl : len ≤ 1048576) (h : CodeIs w w.heap.size ao len cs) :
  Calls Tryz.prog 61 #[.slice ao len cap] w fun e w' => ∃ (d : Dsk) (v : Value) (nx : ByteArray), e = .returned (.tuple #[v, .string nx]) ∧ DiskO w' w.heap.size v d ∧ Small d ∧ nx.size ≤ 13 ∧ Below w.heap.size w w' := by
 have HC : Hid (CodeIs w w.heap.size ao len cs) := h
 clear h
 obtain ⟨X0, hX0⟩ : ∃ X0, X0 = w.alloc (.cells #[.int .i64 0, .int .i64 0, .slice none 0 0, .slice none 0 0, .slice none 0 0] 28) := ⟨_, rfl⟩
 have B0 : Hid (Below w.heap.size w X0) := by unfold Hid; rw [hX0]; exact (Below.refl _ w).alloc (Nat.le_refl _) _
 have K0 : Hid (Blk X0 w.heap.size #[.int .i64 0, .int .i64 0, .slice none 0 0, .slice none 0 0, .slice none 0 0] 28) := by unfold Hid; rw [hX0]; exact Blk.new w _ _
 have C0 := Hid.mkD (HC.out.on B0.out)
 go_enter Tryz.func61, Tryz.ntmps61
 go_wp2_with fail
 rw [← hX0]
 clear hX0
 refine (new_any X0 ao len cap cs hl C0.out).mono ?_
 rintro e w1 ⟨rfl, hA1, hb1⟩
 obtain ⟨p, hp⟩ : ∃ p, p = X0.heap.size := ⟨_, rfl⟩
 rw [← hp] at hA1 hb1 ⊢
 have HP := Hid.mkD hp
 have HB1 := Hid.mkD hb1
 have HA1 := Hid.mkD (show AtS w1 p from ⟨_, _, _, _, _, hA1⟩)
 clear hb1 hA1 hp
 go_wp2_with fail
 refine (name4_any w1 p HA1.out).mono ?_
 rintro e w2 ⟨nx, rfl, hnx, hA, hm⟩
 have M2 : Hid (Mod w1.heap.size p w1 w2) := hm
 have HA2 := Hid.mkD hA
 have PL := Hid.mkD HA1.out.lt
 have HNX := Hid.mkD hnx
 clear hA hm hnx
 go_wp2_with fail
 refine (size_any w2 ao len cap 30 hl (by omega) (by omega)).mono ?_
 rintro e w5 ⟨⟨z, rfl, z0, z9⟩, rfl⟩
 obtain ⟨zn, rfl⟩ : ∃ zn : Nat, z = (zn : Int) := ⟨z.toNat, by omega⟩
 go_wp2_with fail
 refine (some_any4 w2 p zn HA2.out (by omega) (by omega)).mono ?_
 rintro e w6 ⟨d, v, rfl, hO, hsm, hA, hm⟩
 have HSM := Hid.mkD hsm
 have M6 : Hid (Mod w1.heap.size p w1 w6) := M2.out.trans (hm.mono M2.out.size)
 have HB5 : Hid (Below p X0 w6) := HB1.out.trans ((M6.out.mono (by have := PL.out; omega)).below (Nat.le_refl _))
 have hpx := HP.out
 have hxs := B0.out.size
 have hpl := PL.out
 have hk0 := K0.out.lt
 have K5 : Hid (Blk w6 w.heap.size #[.int .i64 0, .int .i64 0, .slice none 0 0, .slice none 0 0, .slice none 0 0] 28) := K0.out.on HB5.out (by omega)
 have hwr := M2.out.size
 obtain ⟨v1, v2, v3, rfl, h1, h2, h3⟩ := hO
 obtain ⟨A1, n1, c1, rfl⟩ := h1.shape
 obtain ⟨A2, n2, c2, rfl⟩ := h2.shape
 obtain ⟨A3, n3, c3, rfl⟩ := h3.shape
 obtain ⟨⟨r0, f0⟩, ⟨r1, f1⟩, ⟨r2, f2⟩, ⟨r3, f3⟩, ⟨r4, f4⟩, y0, y1, y2, y3, y4⟩ := resC5 (x0 := .int .i64 d.room) (x1 := .int .i64 d.next) (x2 := .slice A1 n1 c1) (x3 := .slice A2 n2 c2) (x4 := .slice A3 n3 c3) K5.out
 have O6 : Hid (DiskO (((((w6.setCell ⟨w.heap.size, 0, none⟩ (.int .i64 d.room)).setCell ⟨w.heap.size, 1, none⟩ (.int .i64 d.next)).setCell ⟨w.heap.size, 2, none⟩ (.slice A1 n1 c1)).setCell ⟨w.heap.size, 3, none⟩ (.slice A2 n2 c2)).setCell ⟨w.heap.size, 4, none⟩ (.slice A3 n3 c3)) w2.heap.size (.agg #[.int .i64 d.room, .int .i64 d.next, .slice A1 n1 c1, .slice A2 n2 c2, .slice A3 n3 c3]) d) := DiskO.set5 ⟨_, _, _, rfl, h1, h2, h3⟩ (by omega) _ _ _ _ _
 have B6 : Hid (Below w.heap.size w (((((w6.setCell ⟨w.heap.size, 0, none⟩ (.int .i64 d.room)).setCell ⟨w.heap.size, 1, none⟩ (.int .i64 d.next)).setCell ⟨w.heap.size, 2, none⟩ (.slice A1 n1 c1)).setCell ⟨w.heap.size, 3, none⟩ (.slice A2 n2 c2)).setCell ⟨w.heap.size, 4, none⟩ (.slice A3 n3 c3))) := belowC5 (B0.out.trans (HB5.out.mono (by omega))) (Nat.le_refl _) _ _ _ _ _
 have HW : Hid (w.heap.size ≤ w2.heap.size) := by unfold Hid; omega
 clear h1 h2 h3 hA hm hsm K5 HB5 M6 M2 HA2 hpl hwr hpx hxs hk0
 go_wp2_with fail
 exact bodyPost_ret (v := .tuple #[.agg #[.int .i64 d.room, .int .i64 d.next, .slice A1 n1 c1, .slice A2 n2 c2, .slice A3 n3 c3], .string nx]) (by simp [results, go_sem, y0, y1, y2, y3, y4]) rfl ⟨d, _, nx, rfl, O6.out.monoD HW.out, HSM.out, HNX.out, B6.out⟩
set_option maxRecDepth 20000 in
set_option maxHeartbeats 4000000 in
theorem drawSync (w : World) (ao : Option Addr) (len cap : Nat) (cs : Nat → Nat) (hl : len ≤ 1048576) (h : CodeIs w w.heap.size ao len cs) :
  Calls Tryz.prog 28 #[.slice ao len cap] w fun e w' => ∃ (d : Dsk) (v : Value) (nx : ByteArray), e = .returned (.tuple #[v, .string nx]) ∧ DiskO w' w.heap.size v d ∧ Small d ∧ nx.size ≤ 13 ∧ Below w.heap.size w w' := by
 have HC : Hid (CodeIs w w.heap.size ao len cs) := h
 clear h
 obtain ⟨X0, hX0⟩ : ∃ X0, X0 = w.alloc (.cells #[.int .i64 0, .int .i64 0, .slice none 0 0, .slice none 0 0, .slice none 0 0] 28) := ⟨_, rfl⟩
 have B0 : Hid (Below w.heap.size w X0) := by unfold Hid; rw [hX0]; exact (Below.refl _ w).alloc (Nat.le_refl _) _
 have K0 : Hid (Blk X0 w.heap.size #[.int .i64 0, .int .i64 0, .slice none 0 0, .slice none 0 0, .slice none 0 0] 28) := by unfold Hid; rw [hX0]; exact Blk.new w _ _
 have C0 := Hid.mkD (HC.out.on B0.out)
 go_enter Tryz.func28, Tryz.ntmps28
 go_wp2_with fail
 rw [← hX0]
 clear hX0
 refine (two_any X0 ao len cap cs hl C0.out).mono ?_
 rintro e w1 ⟨d, v, nx, rfl, hO, hsm, hnx, hb⟩
 have HSM := Hid.mkD hsm
 have HNX := Hid.mkD hnx
 have hk0 := K0.out.lt
 have hb1 := hb.size
 obtain ⟨v1, v2, v3, rfl, h1, h2, h3⟩ := hO
 obtain ⟨A1, n1, c1, rfl⟩ := h1.shape
 obtain ⟨A2, n2, c2, rfl⟩ := h2.shape
 obtain ⟨A3, n3, c3, rfl⟩ := h3.shape
 obtain ⟨w2, hw2⟩ : ∃ w2, w2 = w1.alloc (.cells #[.int .i64 d.room, .int .i64 d.next, .slice A1 n1 c1, .slice A2 n2 c2, .slice A3 n3 c3] 28) := ⟨_, rfl⟩
 have ha : Below X0.heap.size X0 w2 := by rw [hw2]; exact hb.alloc hb1 _
 have D2 : Blk w2 w1.heap.size #[.int .i64 d.room, .int .i64 d.next, .slice A1 n1 c1, .slice A2 n2 c2, .slice A3 n3 c3] 28 := by rw [hw2]; exact Blk.new w1 _ _
 have K2 : Blk w2 w.heap.size #[.int .i64 0, .int .i64 0, .slice none 0 0, .slice none 0 0, .slice none 0 0] 28 := K0.out.on ha hk0
 have ho : DiskO w2 X0.heap.size (.agg #[.int .i64 d.room, .int .i64 d.next, .slice A1 n1 c1, .slice A2 n2 c2, .slice A3 n3 c3]) d := by rw [hw2]; exact DiskO.on ⟨_, _, _, rfl, h1, h2, h3⟩ ((Below.refl _ _).alloc (Nat.le_refl _) _)
 obtain ⟨e0, e1, e2, e3, e4⟩ := cellsC5 D2
 obtain ⟨⟨r0, f0⟩, ⟨r1, f1⟩, ⟨r2, f2⟩, ⟨r3, f3⟩, ⟨r4, f4⟩, y0, y1, y2, y3, y4⟩ := resC5 (x0 := .int .i64 d.room) (x1 := .int .i64 d.next) (x2 := .slice A1 n1 c1) (x3 := .slice A2 n2 c2) (x4 := .slice A3 n3 c3) K2
 have O6 : Hid (DiskO (((((w2.setCell ⟨w.heap.size, 0, none⟩ (.int .i64 d.room)).setCell ⟨w.heap.size, 1, none⟩ (.int .i64 d.next)).setCell ⟨w.heap.size, 2, none⟩ (.slice A1 n1 c1)).setCell ⟨w.heap.size, 3, none⟩ (.slice A2 n2 c2)).setCell ⟨w.heap.size, 4, none⟩ (.slice A3 n3 c3)) X0.heap.size (.agg #[.int .i64 d.room, .int .i64 d.next, .slice A1 n1 c1, .slice A2 n2 c2, .slice A3 n3 c3]) d) := ho.set5 hk0 _ _ _ _ _
 have B6 : Hid (Below w.heap.size w (((((w2.setCell ⟨w.heap.size, 0, none⟩ (.int .i64 d.room)).setCell ⟨w.heap.size, 1, none⟩ (.int .i64 d.next)).setCell ⟨w.heap.size, 2, none⟩ (.slice A1 n1 c1)).setCell ⟨w.heap.size, 3, none⟩ (.slice A2 n2 c2)).setCell ⟨w.heap.size, 4, none⟩ (.slice A3 n3 c3))) := belowC5 (B0.out.trans (ha.mono (by omega))) (Nat.le_refl _) _ _ _ _ _
 have HW : Hid (w.heap.size ≤ X0.heap.size) := by unfold Hid; omega
 clear h1 h2 h3 hb hsm hnx ha ho K2 D2
 subst hw2
 go_wp2_with fail
 exact bodyPost_ret (v := .tuple #[.agg #[.int .i64 d.room, .int .i64 d.next, .slice A1 n1 c1, .slice A2 n2 c2, .slice A3 n3 c3], .string nx]) (by simp [results, go_sem, y0, y1, y2, y3, y4]) rfl ⟨d, _, nx, rfl, O6.out.monoD HW.out, HSM.out, HNX.out, B6.out⟩
end Go.Proofs.YtgjilgecklhglaaGreat
