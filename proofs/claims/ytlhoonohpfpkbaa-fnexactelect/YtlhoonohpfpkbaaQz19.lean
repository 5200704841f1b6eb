/- CoTa CoLs -/
import Derived.Test.YtlhoonohpfpkbaaRows
import Derived.Test.YtlhoonohpfpkbaaQz10
import Derived.Deep.Cut
import Derived.Handy
import Derived.Test.YtlhoonohpfpkbaaQz17
import Derived.Test.YtlhoonohpfpkbaaQz12
import Derived.Deep.CutRange
import Derived.Test.YtlhoonohpfpkbaaQp0
import Derived.Test.YtlhoonohpfpkbaaQp1
import Derived.Test.YtlhoonohpfpkbaaQp2
import Derived.Test.YtlhoonohpfpkbaaQp3
import Derived.Test.YtlhoonohpfpkbaaQp4
import Derived.Test.YtlhoonohpfpkbaaQp5
import Derived.Test.YtlhoonohpfpkbaaQp6
import Derived.Test.YtlhoonohpfpkbaaQp7
import Derived.Test.YtlhoonohpfpkbaaQp8
import Derived.Test.YtlhoonohpfpkbaaQp9
import Derived.Test.YtlhoonohpfpkbaaQp10
import Derived.Test.YtlhoonohpfpkbaaQp11
import Derived.Test.YtlhoonohpfpkbaaQp12
open List (setIfInBounds_toArray set_cons_zero set_cons_succ)
namespace Go.Proofs.Ytlhoonohpfpkbaa
open Go.ChangeShapes Go.WideShapes Go.ChangeAt Go.RowKit Go.PlainAid
set_option linter.unusedVariables false
end Go.Proofs.Ytlhoonohpfpkbaa
namespace Go.Proofs.Ytlhoonohpfpkbaa
open Go.ChangeShapes Go.WideShapes Go.ChangeAt Go.RowKit Go.PlainAid
set_option linter.unusedVariables false
theorem num_cellL (x : Int) : ∀ u ∈ ([.int .i64 x] : List Value), u.oneCell' = true := by
 intro u hu
 simp at hu
 subst hu
 rfl
theorem repR (k : Nat) (z : Int) : numR (List.replicate (k + 1) z) = numR (List.replicate k z) ++ [[.int .i64 z]] := by
 rw [List.replicate_succ', numR, List.map_append]
 rfl
theorem Apart.appL {u u' v : Value} {z : Nat} (h : Apart u v) (hw : u'.ownBlock = u.ownBlock ∨ ∀ g, u'.ownBlock = some g → z ≤ g) (hv : ∀ g, v.ownBlock = some g → g < z) : Apart u' v := by
 intro g h1 h2
 rcases hw with e | hw
 ·rw [e] at h1
  exact h g h1 h2
 ·have := hw g h1
  have := hv g h2
  omega
set_option maxRecDepth 20000 in
set_option maxHeartbeats 16000000 in
theorem leadS (ci : Int) (n : Nat) (ct cv cr cd cb cbt : Int) (lg : List Ent) (cc : Int) (ys ns ms : List Int) (A0 : Option Addr) (An0 Ac0 : Nat) (A1 : Option Addr) (An1 Ac1 : Nat) (A2 : Option Addr) (An2 Ac2 : Nat) (A3 : Option Addr) (An3 Ac3 : Nat) (w : World) (base0 : Nat) (hr : CoRows w base0 ⟨ci, (n : Int), ct, cv, cr, cd, cb, cbt, lg, cc, ys, ns, ms⟩ (.slice A0 An0 Ac0) (.slice A1 An1 Ac1) (.slice A2 An2 Ac2) (.slice A3 An3 Ac3)) (ho : Owns w base0 71 2 (.slice A0 An0 Ac0) (entR lg)) (hso : SendOk (leadC ⟨ci, (n : Int), ct, cv, cr, cd, cb, cbt, lg, cc, ys, ns, ms⟩)) (hbs : base0 ≤ w.heap.size) :
  Calls Try.prog 24 #[.agg #[.int .i64 ci, .int .i64 (n : Int), .int .i64 ct, .int .i64 cv, .int .i64 cr, .int .i64 cd, .int .i64 cb, .int .i64 cbt, .slice A0 An0 Ac0, .int .i64 cc, .slice A1 An1 Ac1, .slice A2 An2 Ac2, .slice A3 An3 Ac3]] w fun e w' => (∃ u us, e = .returned (.tuple #[u, us]) ∧ CoMs w' base0 u us (putC (leadC ⟨ci, (n : Int), ct, cv, cr, cd, cb, cbt, lg, cc, ys, ns, ms⟩) ⟨#[]⟩) (toAll (putC (leadC ⟨ci, (n : Int), ct, cv, cr, cd, cb, cbt, lg, cc, ys, ns, ms⟩) ⟨#[]⟩))) ∧ Below base0 w w' := by
 have hln : An0 = lg.length := by
  obtain ⟨A', c', e⟩ := hr.l.shape
  rw [entR_length] at e
  cases e
  rfl
 have HL := Hid.mk hr.l
 have HO := Hid.mk ho
 have HSo := Hid.mk hso
 have HB0 : Hid (base0 ≤ w.heap.size) := hbs
 have HBs : Hid (base0 ≤ w.heap.size + 2) := by unfold Hid; omega
 have hb0 : 0 ≤ cb := hso.b0
 have hb1 : cb ≤ 100000 := hso.b1
 have hn60 : lg.length ≤ 60 := hso.n
 have hp1 : (n : Int) ≤ 5 := hso.p1
 rw [← hln] at hn60
 have HCl : Hid (cLast ⟨ci, (n : Int), ct, cv, cr, cd, cb, cbt, lg, cc, ys, ns, ms⟩ + 1 = (cb + (An0 : Int) + 1)) := by unfold Hid cLast; simp only; rw [hln]
 have wz : IntKind.i64.wrap (cb + (An0 : Int) + 1) = (cb + (An0 : Int) + 1) := by rw [IntKind.wrap_i64]; omega
 clear hr ho hso hbs hln
 obtain ⟨W0, hW0⟩ : ∃ W0, W0 = (w.alloc (.cells #[.int .i64 ci, .int .i64 (n : Int), .int .i64 ct, .int .i64 cv, .int .i64 cr, .int .i64 cd, .int .i64 cb, .int .i64 cbt, .slice A0 An0 Ac0, .int .i64 cc, .slice A1 An1 Ac1, .slice A2 An2 Ac2, .slice A3 An3 Ac3] 29)).alloc (.cells #[.int .i64 0, .int .i64 0, .int .i64 0, .int .i64 0, .int .i64 0, .int .i64 0, .int .i64 0, .int .i64 0, .slice none 0 0, .int .i64 0, .slice none 0 0, .slice none 0 0, .slice none 0 0] 29) := ⟨_, rfl⟩
 have B0 : Hid (Below w.heap.size w W0) := by unfold Hid; rw [hW0]; exact ((Below.refl _ w).alloc (Nat.le_refl _) _).alloc (by simp) _
 have K0 : Hid (Blk W0 w.heap.size #[.int .i64 ci, .int .i64 (n : Int), .int .i64 ct, .int .i64 cv, .int .i64 cr, .int .i64 cd, .int .i64 cb, .int .i64 cbt, .slice A0 An0 Ac0, .int .i64 cc, .slice A1 An1 Ac1, .slice A2 An2 Ac2, .slice A3 An3 Ac3] 29) := by unfold Hid; rw [hW0]; exact (Blk.new w _ _).alloc _
 have R0 : Hid (Blk W0 (w.heap.size + 1) #[.int .i64 0, .int .i64 0, .int .i64 0, .int .i64 0, .int .i64 0, .int .i64 0, .int .i64 0, .int .i64 0, .slice none 0 0, .int .i64 0, .slice none 0 0, .slice none 0 0, .slice none 0 0] 29) := by unfold Hid; rw [hW0]; have := Blk.new (w.alloc (.cells #[.int .i64 ci, .int .i64 (n : Int), .int .i64 ct, .int .i64 cv, .int .i64 cr, .int .i64 cd, .int .i64 cb, .int .i64 cbt, .slice A0 An0 Ac0, .int .i64 cc, .slice A1 An1 Ac1, .slice A2 An2 Ac2, .slice A3 An3 Ac3] 29)) #[.int .i64 0, .int .i64 0, .int .i64 0, .int .i64 0, .int .i64 0, .int .i64 0, .int .i64 0, .int .i64 0, .slice none 0 0, .int .i64 0, .slice none 0 0, .slice none 0 0, .slice none 0 0] 29; simp only [World.size_alloc] at this; exact this
 have HZ0 : Hid (w.heap.size + 2 ≤ W0.heap.size) := by unfold Hid; rw [hW0]; simp
 go_enter Try.func24, Try.ntmps24
 go_upto_region 1 with fail
 rw [← hW0]
 clear hW0
 have f4 := K0.out.free 4
 have o4 := K0.out.cell 4 _ rfl
 obtain ⟨W1, hW1⟩ : ∃ W, W = W0.setCell ⟨w.heap.size, 4, none⟩ (.int .i64 3) := ⟨_, rfl⟩
 have K1 : Hid (Blk W1 w.heap.size #[.int .i64 ci, .int .i64 (n : Int), .int .i64 ct, .int .i64 cv, .int .i64 3, .int .i64 cd, .int .i64 cb, .int .i64 cbt, .slice A0 An0 Ac0, .int .i64 cc, .slice A1 An1 Ac1, .slice A2 An2 Ac2, .slice A3 An3 Ac3] 29) := by unfold Hid; rw [hW1]; exact K0.out.set 4 _
 have R1 : Hid (Blk W1 (w.heap.size + 1) #[.int .i64 0, .int .i64 0, .int .i64 0, .int .i64 0, .int .i64 0, .int .i64 0, .int .i64 0, .int .i64 0, .slice none 0 0, .int .i64 0, .slice none 0 0, .slice none 0 0, .slice none 0 0] 29) := by unfold Hid; rw [hW1]; exact R0.out.other (by omega) 4 _
 have B1 : Hid (Below w.heap.size w W1) := by unfold Hid; rw [hW1]; exact B0.out.setCell (Nat.le_refl _) _
 have HZ1 : Hid (w.heap.size + 2 ≤ W1.heap.size) := by have := R1.out.lt; unfold Hid; omega
 go_upto_region 2 with fail
 rw [← hW1]
 clear hW1 f4 o4 K0 R0 B0 HZ0 
 have y0 := K1.out.cell 0 _ rfl
 have f5 := K1.out.free 5
 have o5 := K1.out.cell 5 _ rfl
 obtain ⟨W2, hW2⟩ : ∃ W, W = W1.setCell ⟨w.heap.size, 5, none⟩ (.int .i64 ci) := ⟨_, rfl⟩
 have K2 : Hid (Blk W2 w.heap.size #[.int .i64 ci, .int .i64 (n : Int), .int .i64 ct, .int .i64 cv, .int .i64 3, .int .i64 ci, .int .i64 cb, .int .i64 cbt, .slice A0 An0 Ac0, .int .i64 cc, .slice A1 An1 Ac1, .slice A2 An2 Ac2, .slice A3 An3 Ac3] 29) := by unfold Hid; rw [hW2]; exact K1.out.set 5 _
 have R2 : Hid (Blk W2 (w.heap.size + 1) #[.int .i64 0, .int .i64 0, .int .i64 0, .int .i64 0, .int .i64 0, .int .i64 0, .int .i64 0, .int .i64 0, .slice none 0 0, .int .i64 0, .slice none 0 0, .slice none 0 0, .slice none 0 0] 29) := by unfold Hid; rw [hW2]; exact R1.out.other (by omega) 5 _
 have B2 : Hid (Below w.heap.size w W2) := by unfold Hid; rw [hW2]; exact B1.out.setCell (Nat.le_refl _) _
 have HZ2 : Hid (w.heap.size + 2 ≤ W2.heap.size) := by have := R2.out.lt; unfold Hid; omega
 go_upto_region 3 with fail
 rw [← hW2]
 clear hW2 f5 o5 K1 R1 B1 HZ1 y0
 have KV := Hid.mk (K2.out.alloc (.cells #[] 3))
 have RV := Hid.mk (R2.out.alloc (.cells #[] 3))
 have BV : Hid (Below w.heap.size w (W2.alloc (.cells #[] 3))) := B2.out.alloc B2.out.size _
 have f10 := KV.out.free 10
 have o10 := KV.out.cell 10 _ rfl
 obtain ⟨gy, hgy⟩ : ∃ g, g = W2.heap.size := ⟨_, rfl⟩
 obtain ⟨W3, hW3⟩ : ∃ W, W = (W2.alloc (.cells #[] 3)).setCell ⟨w.heap.size, 10, none⟩ (.slice (some ⟨W2.heap.size, 0, none⟩) 0 0) := ⟨_, rfl⟩
 have E3 : Hid (Nums (W2.alloc (.cells #[] 3)) W2.heap.size (.slice (some ⟨gy, 0, none⟩) 0 0) []) := by unfold Hid; rw [hgy]; exact Nums.empty W2 _ (Nat.le_refl _)
 have K3 : Hid (Blk W3 w.heap.size #[.int .i64 ci, .int .i64 (n : Int), .int .i64 ct, .int .i64 cv, .int .i64 3, .int .i64 ci, .int .i64 cb, .int .i64 cbt, .slice A0 An0 Ac0, .int .i64 cc, .slice (some ⟨gy, 0, none⟩) 0 0, .slice A2 An2 Ac2, .slice A3 An3 Ac3] 29) := by unfold Hid; rw [hW3, hgy]; exact KV.out.set 10 _
 have R3 : Hid (Blk W3 (w.heap.size + 1) #[.int .i64 0, .int .i64 0, .int .i64 0, .int .i64 0, .int .i64 0, .int .i64 0, .int .i64 0, .int .i64 0, .slice none 0 0, .int .i64 0, .slice none 0 0, .slice none 0 0, .slice none 0 0] 29) := by unfold Hid; rw [hW3]; exact RV.out.other (by omega) 10 _
 have B3 : Hid (Below w.heap.size w W3) := by unfold Hid; rw [hW3]; exact BV.out.setCell (Nat.le_refl _) _
 have HZ3 : Hid (w.heap.size + 2 ≤ W3.heap.size) := by have := R3.out.lt; unfold Hid; omega
 have Ngy : Hid (Nums W3 (w.heap.size + 2) (.slice (some ⟨gy, 0, none⟩) 0 0) []) := by unfold Hid; rw [hW3]; exact (E3.out.other (E3.out.notBlk KV.out (by decide)) 10 _).mono HZ2.out
 go_upto_region 4 with fail
 rw [← hW3]
 clear hW3 hgy E3 f10 o10 KV RV BV K2 R2 B2 HZ2
 have KV := Hid.mk (K3.out.alloc (.cells #[] 3))
 have RV := Hid.mk (R3.out.alloc (.cells #[] 3))
 have BV : Hid (Below w.heap.size w (W3.alloc (.cells #[] 3))) := B3.out.alloc B3.out.size _
 have f11 := KV.out.free 11
 have o11 := KV.out.cell 11 _ rfl
 obtain ⟨gn, hgn⟩ : ∃ g, g = W3.heap.size := ⟨_, rfl⟩
 obtain ⟨W4, hW4⟩ : ∃ W, W = (W3.alloc (.cells #[] 3)).setCell ⟨w.heap.size, 11, none⟩ (.slice (some ⟨W3.heap.size, 0, none⟩) 0 0) := ⟨_, rfl⟩
 have E4 : Hid (Nums (W3.alloc (.cells #[] 3)) W3.heap.size (.slice (some ⟨gn, 0, none⟩) 0 0) []) := by unfold Hid; rw [hgn]; exact Nums.empty W3 _ (Nat.le_refl _)
 have K4 : Hid (Blk W4 w.heap.size #[.int .i64 ci, .int .i64 (n : Int), .int .i64 ct, .int .i64 cv, .int .i64 3, .int .i64 ci, .int .i64 cb, .int .i64 cbt, .slice A0 An0 Ac0, .int .i64 cc, .slice (some ⟨gy, 0, none⟩) 0 0, .slice (some ⟨gn, 0, none⟩) 0 0, .slice A3 An3 Ac3] 29) := by unfold Hid; rw [hW4, hgn]; exact KV.out.set 11 _
 have R4 : Hid (Blk W4 (w.heap.size + 1) #[.int .i64 0, .int .i64 0, .int .i64 0, .int .i64 0, .int .i64 0, .int .i64 0, .int .i64 0, .int .i64 0, .slice none 0 0, .int .i64 0, .slice none 0 0, .slice none 0 0, .slice none 0 0] 29) := by unfold Hid; rw [hW4]; exact RV.out.other (by omega) 11 _
 have B4 : Hid (Below w.heap.size w W4) := by unfold Hid; rw [hW4]; exact BV.out.setCell (Nat.le_refl _) _
 have HZ4 : Hid (w.heap.size + 2 ≤ W4.heap.size) := by have := R4.out.lt; unfold Hid; omega
 have Ngn : Hid (Nums W4 (w.heap.size + 2) (.slice (some ⟨gn, 0, none⟩) 0 0) []) := by unfold Hid; rw [hW4]; exact (E4.out.other (E4.out.notBlk KV.out (by decide)) 11 _).mono HZ3.out
 have Agygn : Hid (Apart (.slice (some ⟨gy, 0, none⟩) 0 0) (.slice (some ⟨gn, 0, none⟩) 0 0)) := Ngy.out.apart E4.out (Nat.le_refl _)
 have Mgy : Hid (Nums W4 (w.heap.size + 2) (.slice (some ⟨gy, 0, none⟩) 0 0) []) := by unfold Hid; rw [hW4]; exact (Ngy.out.alloc (.cells #[] 3)).other ((Ngy.out.alloc (.cells #[] 3)).notBlk KV.out (by decide)) 11 _
 clear Ngy
 have Ngy := Mgy
 clear Mgy
 go_upto_region 5 with fail
 rw [← hW4]
 clear hW4 hgn E4 f11 o11 KV RV BV K3 R3 B3 HZ3
 have KV := Hid.mk (K4.out.alloc (.cells #[] 3))
 have RV := Hid.mk (R4.out.alloc (.cells #[] 3))
 have BV : Hid (Below w.heap.size w (W4.alloc (.cells #[] 3))) := B4.out.alloc B4.out.size _
 have f12 := KV.out.free 12
 have o12 := KV.out.cell 12 _ rfl
 obtain ⟨gm, hgm⟩ : ∃ g, g = W4.heap.size := ⟨_, rfl⟩
 obtain ⟨W5, hW5⟩ : ∃ W, W = (W4.alloc (.cells #[] 3)).setCell ⟨w.heap.size, 12, none⟩ (.slice (some ⟨W4.heap.size, 0, none⟩) 0 0) := ⟨_, rfl⟩
 have E5 : Hid (Nums (W4.alloc (.cells #[] 3)) W4.heap.size (.slice (some ⟨gm, 0, none⟩) 0 0) []) := by unfold Hid; rw [hgm]; exact Nums.empty W4 _ (Nat.le_refl _)
 have K5 : Hid (Blk W5 w.heap.size #[.int .i64 ci, .int .i64 (n : Int), .int .i64 ct, .int .i64 cv, .int .i64 3, .int .i64 ci, .int .i64 cb, .int .i64 cbt, .slice A0 An0 Ac0, .int .i64 cc, .slice (some ⟨gy, 0, none⟩) 0 0, .slice (some ⟨gn, 0, none⟩) 0 0, .slice (some ⟨gm, 0, none⟩) 0 0] 29) := by unfold Hid; rw [hW5, hgm]; exact KV.out.set 12 _
 have R5 : Hid (Blk W5 (w.heap.size + 1) #[.int .i64 0, .int .i64 0, .int .i64 0, .int .i64 0, .int .i64 0, .int .i64 0, .int .i64 0, .int .i64 0, .slice none 0 0, .int .i64 0, .slice none 0 0, .slice none 0 0, .slice none 0 0] 29) := by unfold Hid; rw [hW5]; exact RV.out.other (by omega) 12 _
 have B5 : Hid (Below w.heap.size w W5) := by unfold Hid; rw [hW5]; exact BV.out.setCell (Nat.le_refl _) _
 have HZ5 : Hid (w.heap.size + 2 ≤ W5.heap.size) := by have := R5.out.lt; unfold Hid; omega
 have Ngm : Hid (Nums W5 (w.heap.size + 2) (.slice (some ⟨gm, 0, none⟩) 0 0) []) := by unfold Hid; rw [hW5]; exact (E5.out.other (E5.out.notBlk KV.out (by decide)) 12 _).mono HZ4.out
 have Agygm : Hid (Apart (.slice (some ⟨gy, 0, none⟩) 0 0) (.slice (some ⟨gm, 0, none⟩) 0 0)) := Ngy.out.apart E5.out (Nat.le_refl _)
 have Mgy : Hid (Nums W5 (w.heap.size + 2) (.slice (some ⟨gy, 0, none⟩) 0 0) []) := by unfold Hid; rw [hW5]; exact (Ngy.out.alloc (.cells #[] 3)).other ((Ngy.out.alloc (.cells #[] 3)).notBlk KV.out (by decide)) 12 _
 clear Ngy
 have Ngy := Mgy
 clear Mgy
 have Agngm : Hid (Apart (.slice (some ⟨gn, 0, none⟩) 0 0) (.slice (some ⟨gm, 0, none⟩) 0 0)) := Ngn.out.apart E5.out (Nat.le_refl _)
 have Mgn : Hid (Nums W5 (w.heap.size + 2) (.slice (some ⟨gn, 0, none⟩) 0 0) []) := by unfold Hid; rw [hW5]; exact (Ngn.out.alloc (.cells #[] 3)).other ((Ngn.out.alloc (.cells #[] 3)).notBlk KV.out (by decide)) 12 _
 clear Ngn
 have Ngn := Mgn
 clear Mgn
 go_upto_region 6 with fail
 rw [← hW5]
 clear hW5 hgm E5 f12 o12 KV RV BV K4 R4 B4 HZ4
 go_wp2_with fail
 go_loopw [4] (fun v4 wr => ∃ (k : Nat) (N2 : Option Addr) (n2 k2 : Nat) (N3 : Option Addr) (n3 k3 : Nat), k ≤ n ∧ v4 = .int .i64 (k : Int) ∧ Blk wr w.heap.size #[.int .i64 ci, .int .i64 (n : Int), .int .i64 ct, .int .i64 cv, .int .i64 3, .int .i64 ci, .int .i64 cb, .int .i64 cbt, .slice A0 An0 Ac0, .int .i64 cc, .slice (some ⟨gy, 0, none⟩) 0 0, .slice N2 n2 k2, .slice N3 n3 k3] 29 ∧ Blk wr (w.heap.size + 1) #[.int .i64 0, .int .i64 0, .int .i64 0, .int .i64 0, .int .i64 0, .int .i64 0, .int .i64 0, .int .i64 0, .slice none 0 0, .int .i64 0, .slice none 0 0, .slice none 0 0, .slice none 0 0] 29 ∧ Nums wr (w.heap.size + 2) (.slice (some ⟨gy, 0, none⟩) 0 0) [] ∧ Nums wr (w.heap.size + 2) (.slice N2 n2 k2) (List.replicate k (cb + (An0 : Int) + 1)) ∧ Nums wr (w.heap.size + 2) (.slice N3 n3 k3) (List.replicate k 0) ∧ Apart (.slice (some ⟨gy, 0, none⟩) 0 0) (.slice N2 n2 k2) ∧ Apart (.slice (some ⟨gy, 0, none⟩) 0 0) (.slice N3 n3 k3) ∧ Apart (.slice N2 n2 k2) (.slice N3 n3 k3) ∧ Below w.heap.size w wr) (fun v _ => n - (intOf v).toNat)
 case atStart => exact ⟨0, _, _, _, _, _, _, Nat.zero_le _, rfl, K5.out, R5.out, Ngy.out, Ngn.out, Ngm.out, Agygn.out, Agygm.out, Agngm.out, B5.out⟩
 case round =>
  clear K5 R5 Ngy Ngn Ngm Agygn Agygm Agngm B5 HZ5
  obtain ⟨k, N2, n2, k2, N3, n3, k3, hk, rfl, hK, hR, hY, hN, hM, a1, a2, a3, hB⟩ := hrel
  have KR := Hid.mk hK
  have RR := Hid.mk hR
  have NY := Hid.mk hY
  have NN := Hid.mk hN
  have NM := Hid.mk hM
  have AY := Hid.mk a1
  have AX := Hid.mk a2
  have AM := Hid.mk a3
  have BR := Hid.mk hB
  have k1 := KR.out.cell 1 _ rfl
  clear hK hR hY hN hM a1 a2 a3 hB
  by_cases hlt : k < n
  ·have q2 : (k : Int) < (n : Int) := by omega
   have Hbr : Hid (w.heap.size + 2 ≤ wr.heap.size) := by have := RR.out.lt; unfold Hid; omega
   have HLe : Hid ((numR (List.replicate k (cb + (An0 : Int) + 1))).length ≤ 2097152) := by unfold Hid; rw [numR_length, List.length_replicate]; omega
   have HLm : Hid ((numR (List.replicate k 0)).length ≤ 2097152) := by unfold Hid; rw [numR_length, List.length_replicate]; omega
   have cLr := fun wx => lastS ci (n : Int) ct cv 3 ci cb cbt cc A0 An0 Ac0 (.slice (some ⟨gy, 0, none⟩) 0 0) (.slice N2 n2 k2) (.slice N3 n3 k3) wx (by omega) (by omega) (by omega)
   go_wp2_with fail
   refine wp_region_until (fun w' => w'.cell? ⟨w.heap.size, 0, none⟩ = some (.int .i64 ci) ∧ w'.cell? ⟨w.heap.size, 1, none⟩ = some (.int .i64 (n : Int)) ∧ w'.cell? ⟨w.heap.size, 2, none⟩ = some (.int .i64 ct) ∧ w'.cell? ⟨w.heap.size, 3, none⟩ = some (.int .i64 cv) ∧ w'.cell? ⟨w.heap.size, 4, none⟩ = some (.int .i64 3) ∧ w'.cell? ⟨w.heap.size, 5, none⟩ = some (.int .i64 ci) ∧ w'.cell? ⟨w.heap.size, 6, none⟩ = some (.int .i64 cb) ∧ w'.cell? ⟨w.heap.size, 7, none⟩ = some (.int .i64 cbt) ∧ w'.cell? ⟨w.heap.size, 8, none⟩ = some (.slice A0 An0 Ac0) ∧ w'.cell? ⟨w.heap.size, 9, none⟩ = some (.int .i64 cc) ∧ w'.cell? ⟨w.heap.size, 10, none⟩ = some (.slice (some ⟨gy, 0, none⟩) 0 0) ∧ w'.cell? ⟨w.heap.size, 11, none⟩ = some (.slice N2 n2 k2) ∧ w'.cell? ⟨w.heap.size, 12, none⟩ = some (.slice N3 n3 k3)) (fun i => i == 8) 9 (by rfl) (by kernel_rfl) ?_
   have V0 : Hid (Below wr.heap.size wr wr.drew) := (Below.refl _ _).drew
   generalize wr.drew = Y0 at *
   have P0 := Hid.mk (KR.out.on V0.out KR.out.lt)
   have SS0 := Hid.mk (show (fun w' => w'.cell? ⟨w.heap.size, 0, none⟩ = some (.int .i64 ci) ∧ w'.cell? ⟨w.heap.size, 1, none⟩ = some (.int .i64 (n : Int)) ∧ w'.cell? ⟨w.heap.size, 2, none⟩ = some (.int .i64 ct) ∧ w'.cell? ⟨w.heap.size, 3, none⟩ = some (.int .i64 cv) ∧ w'.cell? ⟨w.heap.size, 4, none⟩ = some (.int .i64 3) ∧ w'.cell? ⟨w.heap.size, 5, none⟩ = some (.int .i64 ci) ∧ w'.cell? ⟨w.heap.size, 6, none⟩ = some (.int .i64 cb) ∧ w'.cell? ⟨w.heap.size, 7, none⟩ = some (.int .i64 cbt) ∧ w'.cell? ⟨w.heap.size, 8, none⟩ = some (.slice A0 An0 Ac0) ∧ w'.cell? ⟨w.heap.size, 9, none⟩ = some (.int .i64 cc) ∧ w'.cell? ⟨w.heap.size, 10, none⟩ = some (.slice (some ⟨gy, 0, none⟩) 0 0) ∧ w'.cell? ⟨w.heap.size, 11, none⟩ = some (.slice N2 n2 k2) ∧ w'.cell? ⟨w.heap.size, 12, none⟩ = some (.slice N3 n3 k3)) Y0 from ⟨P0.out.cell 0 _ rfl, P0.out.cell 1 _ rfl, P0.out.cell 2 _ rfl, P0.out.cell 3 _ rfl, P0.out.cell 4 _ rfl, P0.out.cell 5 _ rfl, P0.out.cell 6 _ rfl, P0.out.cell 7 _ rfl, P0.out.cell 8 _ rfl, P0.out.cell 9 _ rfl, P0.out.cell 10 _ rfl, P0.out.cell 11 _ rfl, P0.out.cell 12 _ rfl⟩)
   refine tF 0 SS0.out ?_
   refine tF 1 SS0.out ?_
   refine tF 2 SS0.out ?_
   refine uNe 3 (fun K hK => ?_)
   go_simp
   refine (cLr Y0).mono ?_
   rintro e Y1 ⟨rfl, hb⟩
   have V1 : Hid (Below wr.heap.size wr Y1) := V0.out.trans (hb.mono V0.out.size)
   have P1 := Hid.mk (KR.out.on V1.out KR.out.lt)
   clear hb cLr
   refine hK.out _ _ (fun _ _ => ⟨P1.out.cell 0 _ rfl, P1.out.cell 1 _ rfl, P1.out.cell 2 _ rfl, P1.out.cell 3 _ rfl, P1.out.cell 4 _ rfl, P1.out.cell 5 _ rfl, P1.out.cell 6 _ rfl, P1.out.cell 7 _ rfl, P1.out.cell 8 _ rfl, P1.out.cell 9 _ rfl, P1.out.cell 10 _ rfl, P1.out.cell 11 _ rfl, P1.out.cell 12 _ rfl⟩) ?_
   clear hK K
   try simp only [Act.put, zQ1, zQ2, zQ3]
   refine pF 4 ?_
   have HB1 : Hid (w.heap.size + 2 ≤ Y1.heap.size) := Nat.le_trans Hbr.out V1.out.size
   have R1 := Hid.mk (RR.out.on V1.out RR.out.lt)
   have O1 : Hid (Owns Y1 (w.heap.size + 2) 3 1 (.slice N2 n2 k2) (numR (List.replicate k (cb + (An0 : Int) + 1)))) := nums_owns (NN.out.on V1.out)
   have Y1y := Hid.mk (NY.out.on V1.out)
   have Y1m := Hid.mk (NM.out.on V1.out)
   have B1 : Hid (Below w.heap.size w Y1) := BR.out.trans (V1.out.mono BR.out.size)
   have bz : Below Y1.heap.size Y1 (Y1.alloc (.cells #[.int .i64 (cb + (An0 : Int) + 1)] 3)) := (Below.refl _ _).alloc (Nat.le_refl _) _
   obtain ⟨nA, nm, nc, Y2, r5, hO5, hb5, hk5, hw5⟩ := run_append_row (P := Try.prog) Y1 23 23 3 (.int .i64 0) 1 8 Try.underlying23 Try.infoInt rfl (by omega) (w.heap.size + 2) (.slice N2 n2 k2) (numR (List.replicate k (cb + (An0 : Int) + 1))) O1.out [.int .i64 (cb + (An0 : Int) + 1)] rfl (num_cellL _) HLe.out (by omega) HB1.out
   refine uNe 5 (fun K hK => ?_)
   go_simp
   refine hK.out _ _ (fun _ _ => ⟨(P1.out.on bz P1.out.lt).cell 0 _ rfl, (P1.out.on bz P1.out.lt).cell 1 _ rfl, (P1.out.on bz P1.out.lt).cell 2 _ rfl, (P1.out.on bz P1.out.lt).cell 3 _ rfl, (P1.out.on bz P1.out.lt).cell 4 _ rfl, (P1.out.on bz P1.out.lt).cell 5 _ rfl, (P1.out.on bz P1.out.lt).cell 6 _ rfl, (P1.out.on bz P1.out.lt).cell 7 _ rfl, (P1.out.on bz P1.out.lt).cell 8 _ rfl, (P1.out.on bz P1.out.lt).cell 9 _ rfl, (P1.out.on bz P1.out.lt).cell 10 _ rfl, (P1.out.on bz P1.out.lt).cell 11 _ rfl, (P1.out.on bz P1.out.lt).cell 12 _ rfl⟩) ?_
   clear hK K bz
   try simp only [Act.put, zQ1, zQ2, zQ3]
   refine uNe 6 (fun K hK => ?_)
   refine step_append_run (by rfl) (.tmp 22) (.tmp 26) 23 (by rfl) _ _ _ _ (by rfl) (by rfl) r5 ?_
   have HK5 : Hid (∀ g, g < Y1.heap.size → (Value.slice N2 n2 k2).ownBlock ≠ some g → Y2.heap[g]? = Y1.heap[g]?) := hk5
   have P2 : Hid (Blk Y2 w.heap.size #[.int .i64 ci, .int .i64 (n : Int), .int .i64 ct, .int .i64 cv, .int .i64 3, .int .i64 ci, .int .i64 cb, .int .i64 cbt, .slice A0 An0 Ac0, .int .i64 cc, .slice (some ⟨gy, 0, none⟩) 0 0, .slice N2 n2 k2, .slice N3 n3 k3] 29) := (hk5 _ P1.out.lt (O1.out.notBlk P1.out (by decide))).trans P1.out
   have R2 : Hid (Blk Y2 (w.heap.size + 1) #[.int .i64 0, .int .i64 0, .int .i64 0, .int .i64 0, .int .i64 0, .int .i64 0, .int .i64 0, .int .i64 0, .slice none 0 0, .int .i64 0, .slice none 0 0, .slice none 0 0, .slice none 0 0] 29) := (hk5 _ R1.out.lt (O1.out.notBlk R1.out (by decide))).trans R1.out
   have N2y : Hid (Nums Y2 (w.heap.size + 2) (.slice (some ⟨gy, 0, none⟩) 0 0) []) := Y1y.out.kept fun g hg e => HK5.out g hg (AY.out g e)
   have N2m : Hid (Nums Y2 (w.heap.size + 2) (.slice N3 n3 k3) (List.replicate k 0)) := Y1m.out.kept fun g hg e => HK5.out g hg (AM.out.symm g e)
   have N2n : Hid (Nums Y2 (w.heap.size + 2) (.slice nA nm nc) (List.replicate (k + 1) (cb + (An0 : Int) + 1))) := by unfold Hid; apply owns_nums; rw [repR]; exact hO5
   have A2y : Hid (Apart (.slice (some ⟨gy, 0, none⟩) 0 0) (.slice nA nm nc)) := (AY.out.symm.appL hw5 (fun g ho => (Y1y.out.lt g ho).2)).symm
   have A2m : Hid (Apart (.slice nA nm nc) (.slice N3 n3 k3)) := AM.out.appL hw5 (fun g ho => (Y1m.out.lt g ho).2)
   have B2 : Hid (Below w.heap.size w Y2) := B1.out.trans (hb5.mono (by omega))
   refine hK.out _ _ (fun _ _ => ⟨P2.out.cell 0 _ rfl, P2.out.cell 1 _ rfl, P2.out.cell 2 _ rfl, P2.out.cell 3 _ rfl, P2.out.cell 4 _ rfl, P2.out.cell 5 _ rfl, P2.out.cell 6 _ rfl, P2.out.cell 7 _ rfl, P2.out.cell 8 _ rfl, P2.out.cell 9 _ rfl, P2.out.cell 10 _ rfl, P2.out.cell 11 _ rfl, P2.out.cell 12 _ rfl⟩) ?_
   clear hK K hO5 hb5 hk5 r5 hw5 HK5
   try simp only [Act.put, zQ1, zQ2, zQ3]
   have SS2 := Hid.mk (show (fun w' => w'.cell? ⟨w.heap.size, 0, none⟩ = some (.int .i64 ci) ∧ w'.cell? ⟨w.heap.size, 1, none⟩ = some (.int .i64 (n : Int)) ∧ w'.cell? ⟨w.heap.size, 2, none⟩ = some (.int .i64 ct) ∧ w'.cell? ⟨w.heap.size, 3, none⟩ = some (.int .i64 cv) ∧ w'.cell? ⟨w.heap.size, 4, none⟩ = some (.int .i64 3) ∧ w'.cell? ⟨w.heap.size, 5, none⟩ = some (.int .i64 ci) ∧ w'.cell? ⟨w.heap.size, 6, none⟩ = some (.int .i64 cb) ∧ w'.cell? ⟨w.heap.size, 7, none⟩ = some (.int .i64 cbt) ∧ w'.cell? ⟨w.heap.size, 8, none⟩ = some (.slice A0 An0 Ac0) ∧ w'.cell? ⟨w.heap.size, 9, none⟩ = some (.int .i64 cc) ∧ w'.cell? ⟨w.heap.size, 10, none⟩ = some (.slice (some ⟨gy, 0, none⟩) 0 0) ∧ w'.cell? ⟨w.heap.size, 11, none⟩ = some (.slice N2 n2 k2) ∧ w'.cell? ⟨w.heap.size, 12, none⟩ = some (.slice N3 n3 k3)) Y2 from ⟨P2.out.cell 0 _ rfl, P2.out.cell 1 _ rfl, P2.out.cell 2 _ rfl, P2.out.cell 3 _ rfl, P2.out.cell 4 _ rfl, P2.out.cell 5 _ rfl, P2.out.cell 6 _ rfl, P2.out.cell 7 _ rfl, P2.out.cell 8 _ rfl, P2.out.cell 9 _ rfl, P2.out.cell 10 _ rfl, P2.out.cell 11 _ rfl, P2.out.cell 12 _ rfl⟩)
   refine tF 7 SS2.out ?_
   have f11 := P2.out.free 11
   have o11 := P2.out.cell 11 _ rfl
   refine uNe 8 (fun K hK => ?_)
   go_simp
   refine hK.out _ _ (fun h => by cases h) ?_
   clear hK K f11 o11
   try simp only [Act.put, zQ1, zQ2, zQ3]
   refine until_done (by kernel_rfl) ?_ _
   have K3 : Hid (Blk (Y2.setCell ⟨w.heap.size, 11, none⟩ (.slice nA nm nc)) w.heap.size #[.int .i64 ci, .int .i64 (n : Int), .int .i64 ct, .int .i64 cv, .int .i64 3, .int .i64 ci, .int .i64 cb, .int .i64 cbt, .slice A0 An0 Ac0, .int .i64 cc, .slice (some ⟨gy, 0, none⟩) 0 0, .slice nA nm nc, .slice N3 n3 k3] 29) := P2.out.set 11 _
   have R3 : Hid (Blk (Y2.setCell ⟨w.heap.size, 11, none⟩ (.slice nA nm nc)) (w.heap.size + 1) #[.int .i64 0, .int .i64 0, .int .i64 0, .int .i64 0, .int .i64 0, .int .i64 0, .int .i64 0, .int .i64 0, .slice none 0 0, .int .i64 0, .slice none 0 0, .slice none 0 0, .slice none 0 0] 29) := R2.out.other (by omega) 11 _
   have N3y := Hid.mk (N2y.out.other (N2y.out.notBlk P2.out (by decide)) 11 (.slice nA nm nc))
   have N3m := Hid.mk (N2m.out.other (N2m.out.notBlk P2.out (by decide)) 11 (.slice nA nm nc))
   have N3n := Hid.mk (N2n.out.other (N2n.out.notBlk P2.out (by decide)) 11 (.slice nA nm nc))
   have B3 : Hid (Below w.heap.size w (Y2.setCell ⟨w.heap.size, 11, none⟩ (.slice nA nm nc))) := B2.out.setCell (Nat.le_refl _) _
   clear KR RR NY NN NM AY AM BR V0 V1 P0 P1 SS0 SS2 R1 O1 Y1y Y1m B1 HB1 P2 R2 N2y N2m N2n B2 Hbr HLe
   generalize Y2.setCell ⟨w.heap.size, 11, none⟩ (.slice nA nm nc) = Y3 at *
   have HB3 : Hid (w.heap.size + 2 ≤ Y3.heap.size) := by have := R3.out.lt; unfold Hid; omega
   have O3 : Hid (Owns Y3 (w.heap.size + 2) 3 1 (.slice N3 n3 k3) (numR (List.replicate k 0))) := nums_owns N3m.out
   have k12 := K3.out.cell 12 _ rfl
   go_wp2_with (at_builtin; refine wpList_append_row rfl (.tmp 30) (.tmp 31) 23 3 (.int .i64 0) 1 8 rfl Try.underlying23 Try.infoInt rfl (by omega) (w.heap.size + 2) _ (numR (List.replicate k 0)) rfl O3.out [.int .i64 0] rfl (num_cellL 0) rfl HLm.out (by omega) HB3.out ?_; intro v' Y4 hO4 hb4 hk4 hw4; obtain ⟨mA, mm, mc, rfl⟩ := hO4.shape; refine Shut.out ?_)
   have HK4 : Hid (∀ g, g < Y3.heap.size → (Value.slice N3 n3 k3).ownBlock ≠ some g → Y4.heap[g]? = Y3.heap[g]?) := hk4
   have P4 : Hid (Blk Y4 w.heap.size #[.int .i64 ci, .int .i64 (n : Int), .int .i64 ct, .int .i64 cv, .int .i64 3, .int .i64 ci, .int .i64 cb, .int .i64 cbt, .slice A0 An0 Ac0, .int .i64 cc, .slice (some ⟨gy, 0, none⟩) 0 0, .slice nA nm nc, .slice N3 n3 k3] 29) := (hk4 _ K3.out.lt (O3.out.notBlk K3.out (by decide))).trans K3.out
   have R4 : Hid (Blk Y4 (w.heap.size + 1) #[.int .i64 0, .int .i64 0, .int .i64 0, .int .i64 0, .int .i64 0, .int .i64 0, .int .i64 0, .int .i64 0, .slice none 0 0, .int .i64 0, .slice none 0 0, .slice none 0 0, .slice none 0 0] 29) := (hk4 _ R3.out.lt (O3.out.notBlk R3.out (by decide))).trans R3.out
   have N4y : Hid (Nums Y4 (w.heap.size + 2) (.slice (some ⟨gy, 0, none⟩) 0 0) []) := N3y.out.kept fun g hg e => HK4.out g hg (AX.out g e)
   have N4n : Hid (Nums Y4 (w.heap.size + 2) (.slice nA nm nc) (List.replicate (k + 1) (cb + (An0 : Int) + 1))) := N3n.out.kept fun g hg e => HK4.out g hg (A2m.out g e)
   have N4m : Hid (Nums Y4 (w.heap.size + 2) (.slice mA mm mc) (List.replicate (k + 1) 0)) := by unfold Hid; apply owns_nums; rw [repR]; exact hO4
   have A4y : Hid (Apart (.slice (some ⟨gy, 0, none⟩) 0 0) (.slice mA mm mc)) := (AX.out.symm.appL hw4 (fun g ho => (N3y.out.lt g ho).2)).symm
   have A4m : Hid (Apart (.slice nA nm nc) (.slice mA mm mc)) := (A2m.out.symm.appL hw4 (fun g ho => (N3n.out.lt g ho).2)).symm
   have B4 : Hid (Below w.heap.size w Y4) := B3.out.trans (hb4.mono (by have := B3.out.size; omega))
   have f12 := P4.out.free 12
   have o12 := P4.out.cell 12 _ rfl
   have K5 : Hid (Blk (Y4.setCell ⟨w.heap.size, 12, none⟩ (.slice mA mm mc)) w.heap.size #[.int .i64 ci, .int .i64 (n : Int), .int .i64 ct, .int .i64 cv, .int .i64 3, .int .i64 ci, .int .i64 cb, .int .i64 cbt, .slice A0 An0 Ac0, .int .i64 cc, .slice (some ⟨gy, 0, none⟩) 0 0, .slice nA nm nc, .slice mA mm mc] 29) := P4.out.set 12 _
   have R5 : Hid (Blk (Y4.setCell ⟨w.heap.size, 12, none⟩ (.slice mA mm mc)) (w.heap.size + 1) #[.int .i64 0, .int .i64 0, .int .i64 0, .int .i64 0, .int .i64 0, .int .i64 0, .int .i64 0, .int .i64 0, .slice none 0 0, .int .i64 0, .slice none 0 0, .slice none 0 0, .slice none 0 0] 29) := R4.out.other (by omega) 12 _
   have N5y := Hid.mk (N4y.out.other (N4y.out.notBlk P4.out (by decide)) 12 (.slice mA mm mc))
   have N5n := Hid.mk (N4n.out.other (N4n.out.notBlk P4.out (by decide)) 12 (.slice mA mm mc))
   have N5m := Hid.mk (N4m.out.other (N4m.out.notBlk P4.out (by decide)) 12 (.slice mA mm mc))
   have B5 : Hid (Below w.heap.size w (Y4.setCell ⟨w.heap.size, 12, none⟩ (.slice mA mm mc))) := B4.out.setCell (Nat.le_refl _) _
   clear hO4 hb4 hk4 hw4 HK4 k12 K3 R3 N3y N3m N3n B3 O3 HB3 HLm P4 R4 N4y N4n N4m B4
   unfold Shut
   go_wp2_with fail
   go_roundw
   case rel => exact ⟨k + 1, nA, nm, nc, mA, mm, mc, by omega, by go_num, K5.out, R5.out, N5y.out, N5n.out, N5m.out, A2y.out, A4y.out, A4m.out, B5.out⟩
   case measure => simp [intOf]; omega
  ·have hkn : n = k := by omega
   subst hkn
   have HXL : Hid (leadC ⟨ci, (n : Int), ct, cv, cr, cd, cb, cbt, lg, cc, ys, ns, ms⟩ = ⟨ci, (n : Int), ct, cv, 3, ci, cb, cbt, lg, cc, [], List.replicate n (cb + (An0 : Int) + 1), List.replicate n 0⟩) := by unfold Hid leadC; simp only [Int.toNat_natCast, HCl.out]
   have OW : Hid (CoRows wr base0 ⟨ci, (n : Int), ct, cv, 3, ci, cb, cbt, lg, cc, [], List.replicate n (cb + (An0 : Int) + 1), List.replicate n 0⟩ (.slice A0 An0 Ac0) (.slice (some ⟨gy, 0, none⟩) 0 0) (.slice N2 n2 k2) (.slice N3 n3 k3)) := ⟨HL.out.on BR.out, NY.out.mono HBs.out, NN.out.mono HBs.out, NM.out.mono HBs.out, AY.out, AX.out, AM.out⟩
   have OOL := Hid.mk (HO.out.on BR.out)
   have HS1 : Hid (SendOk ⟨ci, (n : Int), ct, cv, 3, ci, cb, cbt, lg, cc, [], List.replicate n (cb + (An0 : Int) + 1), List.replicate n 0⟩) := by unfold Hid; rw [← HXL.out]; exact HSo.out
   have HSp : Hid (SendOk (putC ⟨ci, (n : Int), ct, cv, 3, ci, cb, cbt, lg, cc, [], List.replicate n (cb + (An0 : Int) + 1), List.replicate n 0⟩ ⟨#[]⟩)) := HS1.out.put ⟨#[]⟩ (Nat.zero_le _)
   have cP := putK ci (n : Int) ct cv 3 ci cb cbt lg cc [] (List.replicate n (cb + (An0 : Int) + 1)) (List.replicate n 0) A0 An0 Ac0 (some ⟨gy, 0, none⟩) 0 0 N2 n2 k2 N3 n3 k3 ⟨#[]⟩ wr base0 OW.out OOL.out HS1.out (Nat.zero_le _) (Nat.le_trans HB0.out BR.out.size)
   have y0 := KR.out.cell 0 _ rfl
   have y1 := KR.out.cell 1 _ rfl
   have y2 := KR.out.cell 2 _ rfl
   have y3 := KR.out.cell 3 _ rfl
   have y4 := KR.out.cell 4 _ rfl
   have y5 := KR.out.cell 5 _ rfl
   have y6 := KR.out.cell 6 _ rfl
   have y7 := KR.out.cell 7 _ rfl
   have y8 := KR.out.cell 8 _ rfl
   have y9 := KR.out.cell 9 _ rfl
   have y10 := KR.out.cell 10 _ rfl
   have y11 := KR.out.cell 11 _ rfl
   have y12 := KR.out.cell 12 _ rfl
   have HB9 : Hid (base0 ≤ wr.heap.size) := Nat.le_trans HB0.out BR.out.size
   go_wp2_with fail
   refine cP.mono ?_
   rintro e Z1 ⟨⟨ul, rfl, hO⟩, hbz⟩
   have OZ := Hid.mk hO
   have KZ : Hid (Blk Z1 w.heap.size #[.int .i64 ci, .int .i64 (n : Int), .int .i64 ct, .int .i64 cv, .int .i64 3, .int .i64 ci, .int .i64 cb, .int .i64 cbt, .slice A0 An0 Ac0, .int .i64 cc, .slice (some ⟨gy, 0, none⟩) 0 0, .slice N2 n2 k2, .slice N3 n3 k3] 29) := hbz.k _ _ _ KR.out
   have RZ : Hid (Blk Z1 (w.heap.size + 1) #[.int .i64 0, .int .i64 0, .int .i64 0, .int .i64 0, .int .i64 0, .int .i64 0, .int .i64 0, .int .i64 0, .slice none 0 0, .int .i64 0, .slice none 0 0, .slice none 0 0, .slice none 0 0] 29) := hbz.k _ _ _ RR.out
   have BZ : Hid (Below base0 w Z1) := (BR.out.mono HB0.out).trans hbz.b
   clear hbz cP hO KR RR NY NN NM AY AX AM BR OW OOL HS1 y0 y1 y2 y3 y4 y5 y6 y7 y8 y9 y10 y11 y12
   have HE : Hid (putC (leadC ⟨ci, (n : Int), ct, cv, cr, cd, cb, cbt, lg, cc, ys, ns, ms⟩) ⟨#[]⟩ = putC ⟨ci, (n : Int), ct, cv, 3, ci, cb, cbt, lg, cc, [], List.replicate n (cb + (An0 : Int) + 1), List.replicate n 0⟩ ⟨#[]⟩) := by unfold Hid; rw [HXL.out]
   clear HXL HSo HCl
   generalize putC ⟨ci, (n : Int), ct, cv, 3, ci, cb, cbt, lg, cc, [], List.replicate n (cb + (An0 : Int) + 1), List.replicate n 0⟩ ⟨#[]⟩ = xc at *
   obtain ⟨G0, Gc0, hul⟩ := OZ.out.l.shape
   subst hul
   rw [entR_length] at OZ ⊢
   obtain ⟨e0, e1, e2, e3, e4, e5, e6, e7, el, e9, ey, en, em⟩ := xc
   simp only at OZ ⊢
   have cA := fun wx hx => toAllS e0 e1 e2 e3 e4 e5 e6 e7 el e9 ey en em (.slice G0 el.length Gc0) (.slice (some ⟨gy, 0, none⟩) 0 0) (.slice N2 n2 k2) (.slice N3 n3 k3) wx base0 hx HSp.out.s HSp.out.b0 HSp.out.b1 HSp.out.n HSp.out.p0 HSp.out.p1 HSp.out.l HSp.out.q
   generalize el.length = Gn0 at *
   unfold vCo
   simp only
   obtain ⟨⟨r0, g0⟩, ⟨r1, g1⟩, ⟨r2, g2⟩, ⟨r3, g3⟩, ⟨r4, g4⟩, ⟨r5, g5⟩, ⟨r6, g6⟩, ⟨r7, g7⟩, ⟨r8, g8⟩, ⟨r9, g9⟩, ⟨r10, g10⟩, ⟨r11, g11⟩, ⟨r12, g12⟩, z0, z1, z2, z3, z4, z5, z6, z7, z8, z9, z10, z11, z12⟩ := resC13 (x0 := .int .i64 e0) (x1 := .int .i64 e1) (x2 := .int .i64 e2) (x3 := .int .i64 e3) (x4 := .int .i64 e4) (x5 := .int .i64 e5) (x6 := .int .i64 e6) (x7 := .int .i64 e7) (x8 := .slice G0 Gn0 Gc0) (x9 := .int .i64 e9) (x10 := .slice (some ⟨gy, 0, none⟩) 0 0) (x11 := .slice N2 n2 k2) (x12 := .slice N3 n3 k3) KZ.out
   obtain ⟨ZS, hZS⟩ : ∃ ZS, ZS = (((((((((((((Z1.setCell ⟨w.heap.size, 0, none⟩ (.int .i64 e0)).setCell ⟨w.heap.size, 1, none⟩ (.int .i64 e1)).setCell ⟨w.heap.size, 2, none⟩ (.int .i64 e2)).setCell ⟨w.heap.size, 3, none⟩ (.int .i64 e3)).setCell ⟨w.heap.size, 4, none⟩ (.int .i64 e4)).setCell ⟨w.heap.size, 5, none⟩ (.int .i64 e5)).setCell ⟨w.heap.size, 6, none⟩ (.int .i64 e6)).setCell ⟨w.heap.size, 7, none⟩ (.int .i64 e7)).setCell ⟨w.heap.size, 8, none⟩ (.slice G0 Gn0 Gc0)).setCell ⟨w.heap.size, 9, none⟩ (.int .i64 e9)).setCell ⟨w.heap.size, 10, none⟩ (.slice (some ⟨gy, 0, none⟩) 0 0)).setCell ⟨w.heap.size, 11, none⟩ (.slice N2 n2 k2)).setCell ⟨w.heap.size, 12, none⟩ (.slice N3 n3 k3)) := ⟨_, rfl⟩
   have KS : Hid (Blk ZS w.heap.size #[.int .i64 e0, .int .i64 e1, .int .i64 e2, .int .i64 e3, .int .i64 e4, .int .i64 e5, .int .i64 e6, .int .i64 e7, .slice G0 Gn0 Gc0, .int .i64 e9, .slice (some ⟨gy, 0, none⟩) 0 0, .slice N2 n2 k2, .slice N3 n3 k3] 29) := by unfold Hid; rw [hZS]; exact blkC13 KZ.out
   have RS : Hid (Blk ZS (w.heap.size + 1) #[.int .i64 0, .int .i64 0, .int .i64 0, .int .i64 0, .int .i64 0, .int .i64 0, .int .i64 0, .int .i64 0, .slice none 0 0, .int .i64 0, .slice none 0 0, .slice none 0 0, .slice none 0 0] 29) := by unfold Hid; rw [hZS]; exact otherC13 RZ.out (by omega) (.int .i64 e0) (.int .i64 e1) (.int .i64 e2) (.int .i64 e3) (.int .i64 e4) (.int .i64 e5) (.int .i64 e6) (.int .i64 e7) (.slice G0 Gn0 Gc0) (.int .i64 e9) (.slice (some ⟨gy, 0, none⟩) 0 0) (.slice N2 n2 k2) (.slice N3 n3 k3)
   have OS : Hid (CoRows ZS base0 ⟨e0, e1, e2, e3, e4, e5, e6, e7, el, e9, ey, en, em⟩ (.slice G0 Gn0 Gc0) (.slice (some ⟨gy, 0, none⟩) 0 0) (.slice N2 n2 k2) (.slice N3 n3 k3)) := by unfold Hid; rw [hZS]; exact rowsB13 OZ.out KZ.out (.int .i64 e0) (.int .i64 e1) (.int .i64 e2) (.int .i64 e3) (.int .i64 e4) (.int .i64 e5) (.int .i64 e6) (.int .i64 e7) (.slice G0 Gn0 Gc0) (.int .i64 e9) (.slice (some ⟨gy, 0, none⟩) 0 0) (.slice N2 n2 k2) (.slice N3 n3 k3)
   have BS : Hid (Below base0 w ZS) := by unfold Hid; rw [hZS]; exact belowC13 BZ.out HB0.out (.int .i64 e0) (.int .i64 e1) (.int .i64 e2) (.int .i64 e3) (.int .i64 e4) (.int .i64 e5) (.int .i64 e6) (.int .i64 e7) (.slice G0 Gn0 Gc0) (.int .i64 e9) (.slice (some ⟨gy, 0, none⟩) 0 0) (.slice N2 n2 k2) (.slice N3 n3 k3)
   have HZS : Hid (w.heap.size + 2 ≤ ZS.heap.size) := by
    have := RS.out.lt
    unfold Hid
    omega
   clear KZ RZ OZ BZ
   go_upto_region 12 with fail
   rw [← hZS]
   clear hZS r0 g0 z0 r1 g1 z1 r2 g2 z2 r3 g3 z3 r4 g4 z4 r5 g5 z5 r6 g6 z6 r7 g7 z7 r8 g8 z8 r9 g9 z9 r10 g10 z10 r11 g11 z11 r12 g12 z12
   refine wp_region_until (fun w' => w'.cell? ⟨w.heap.size, 0, none⟩ = some (.int .i64 e0) ∧ w'.cell? ⟨w.heap.size, 1, none⟩ = some (.int .i64 e1) ∧ w'.cell? ⟨w.heap.size, 2, none⟩ = some (.int .i64 e2) ∧ w'.cell? ⟨w.heap.size, 3, none⟩ = some (.int .i64 e3) ∧ w'.cell? ⟨w.heap.size, 4, none⟩ = some (.int .i64 e4) ∧ w'.cell? ⟨w.heap.size, 5, none⟩ = some (.int .i64 e5) ∧ w'.cell? ⟨w.heap.size, 6, none⟩ = some (.int .i64 e6) ∧ w'.cell? ⟨w.heap.size, 7, none⟩ = some (.int .i64 e7) ∧ w'.cell? ⟨w.heap.size, 8, none⟩ = some (.slice G0 Gn0 Gc0) ∧ w'.cell? ⟨w.heap.size, 9, none⟩ = some (.int .i64 e9) ∧ w'.cell? ⟨w.heap.size, 10, none⟩ = some (.slice (some ⟨gy, 0, none⟩) 0 0) ∧ w'.cell? ⟨w.heap.size, 11, none⟩ = some (.slice N2 n2 k2) ∧ w'.cell? ⟨w.heap.size, 12, none⟩ = some (.slice N3 n3 k3)) (fun _ => false) 5 (by rfl) (by kernel_rfl) ?_
   have V0 : Hid (Below ZS.heap.size ZS ZS.drew) := (Below.refl _ _).drew
   generalize ZS.drew = Y0 at *
   have KA := Hid.mk (KS.out.on V0.out KS.out.lt)
   have SS0 := Hid.mk (show (fun w' => w'.cell? ⟨w.heap.size, 0, none⟩ = some (.int .i64 e0) ∧ w'.cell? ⟨w.heap.size, 1, none⟩ = some (.int .i64 e1) ∧ w'.cell? ⟨w.heap.size, 2, none⟩ = some (.int .i64 e2) ∧ w'.cell? ⟨w.heap.size, 3, none⟩ = some (.int .i64 e3) ∧ w'.cell? ⟨w.heap.size, 4, none⟩ = some (.int .i64 e4) ∧ w'.cell? ⟨w.heap.size, 5, none⟩ = some (.int .i64 e5) ∧ w'.cell? ⟨w.heap.size, 6, none⟩ = some (.int .i64 e6) ∧ w'.cell? ⟨w.heap.size, 7, none⟩ = some (.int .i64 e7) ∧ w'.cell? ⟨w.heap.size, 8, none⟩ = some (.slice G0 Gn0 Gc0) ∧ w'.cell? ⟨w.heap.size, 9, none⟩ = some (.int .i64 e9) ∧ w'.cell? ⟨w.heap.size, 10, none⟩ = some (.slice (some ⟨gy, 0, none⟩) 0 0) ∧ w'.cell? ⟨w.heap.size, 11, none⟩ = some (.slice N2 n2 k2) ∧ w'.cell? ⟨w.heap.size, 12, none⟩ = some (.slice N3 n3 k3)) Y0 from ⟨KA.out.cell 0 _ rfl, KA.out.cell 1 _ rfl, KA.out.cell 2 _ rfl, KA.out.cell 3 _ rfl, KA.out.cell 4 _ rfl, KA.out.cell 5 _ rfl, KA.out.cell 6 _ rfl, KA.out.cell 7 _ rfl, KA.out.cell 8 _ rfl, KA.out.cell 9 _ rfl, KA.out.cell 10 _ rfl, KA.out.cell 11 _ rfl, KA.out.cell 12 _ rfl⟩)
   refine tF 0 SS0.out ?_
   refine tF 1 SS0.out ?_
   refine uNe 2 (fun K hK => ?_)
   go_simp
   refine (cA Y0 (OS.out.on V0.out)).mono ?_
   rintro e Y1 ⟨⟨us, rfl, L, hM, hLM⟩, hb⟩
   have V1 : Hid (Below ZS.heap.size ZS Y1) := V0.out.trans (hb.mono V0.out.size)
   have KB := Hid.mk (KS.out.on V1.out KS.out.lt)
   have RB := Hid.mk (RS.out.on V1.out RS.out.lt)
   have OB := Hid.mk (OS.out.on V1.out)
   have BB : Hid (Below base0 w Y1) := BS.out.trans (V1.out.mono (by have := HZS.out; have := HB0.out; omega))
   have HM := Hid.mk hM
   have HLM : Hid (L.map Prod.fst = toAll ⟨e0, e1, e2, e3, e4, e5, e6, e7, el, e9, ey, en, em⟩) := hLM
   have HAp : Hid (∀ q ∈ L, ∀ k, q.2.ownBlock = some k → blkF (.slice G0 Gn0 Gc0) ≠ some k) := fun q hq k h1 h2 => by
    have h3 := ((hM.e q hq).lt k h1).1
    have h4 := (OS.out.l.lt k h2).2
    have := V0.out.size
    omega
   have HZY : Hid (w.heap.size + 2 ≤ Y0.heap.size) := Nat.le_trans HZS.out V0.out.size
   obtain ⟨Ae, me, ce, rfl⟩ := hM.r.shape
   clear hM hLM hb
   refine hK.out _ _ (fun _ _ => ⟨KB.out.cell 0 _ rfl, KB.out.cell 1 _ rfl, KB.out.cell 2 _ rfl, KB.out.cell 3 _ rfl, KB.out.cell 4 _ rfl, KB.out.cell 5 _ rfl, KB.out.cell 6 _ rfl, KB.out.cell 7 _ rfl, KB.out.cell 8 _ rfl, KB.out.cell 9 _ rfl, KB.out.cell 10 _ rfl, KB.out.cell 11 _ rfl, KB.out.cell 12 _ rfl⟩) ?_
   clear hK K
   try simp only [Act.put, zQ1, zQ2, zQ3]
   refine uNe 3 (fun K hK => ?_)
   obtain ⟨⟨r0, g0⟩, ⟨r1, g1⟩, ⟨r2, g2⟩, ⟨r3, g3⟩, ⟨r4, g4⟩, ⟨r5, g5⟩, ⟨r6, g6⟩, ⟨r7, g7⟩, ⟨r8, g8⟩, ⟨r9, g9⟩, ⟨r10, g10⟩, ⟨r11, g11⟩, ⟨r12, g12⟩, z0, z1, z2, z3, z4, z5, z6, z7, z8, z9, z10, z11, z12⟩ := resC13 (x0 := .int .i64 e0) (x1 := .int .i64 e1) (x2 := .int .i64 e2) (x3 := .int .i64 e3) (x4 := .int .i64 e4) (x5 := .int .i64 e5) (x6 := .int .i64 e6) (x7 := .int .i64 e7) (x8 := .slice G0 Gn0 Gc0) (x9 := .int .i64 e9) (x10 := .slice (some ⟨gy, 0, none⟩) 0 0) (x11 := .slice N2 n2 k2) (x12 := .slice N3 n3 k3) RB.out
   have KC := Hid.mk (otherC13 KB.out (show w.heap.size ≠ w.heap.size + 1 by omega) (.int .i64 e0) (.int .i64 e1) (.int .i64 e2) (.int .i64 e3) (.int .i64 e4) (.int .i64 e5) (.int .i64 e6) (.int .i64 e7) (.slice G0 Gn0 Gc0) (.int .i64 e9) (.slice (some ⟨gy, 0, none⟩) 0 0) (.slice N2 n2 k2) (.slice N3 n3 k3))
   go_simp
   refine hK.out _ _ (fun _ _ => ⟨KC.out.cell 0 _ rfl, KC.out.cell 1 _ rfl, KC.out.cell 2 _ rfl, KC.out.cell 3 _ rfl, KC.out.cell 4 _ rfl, KC.out.cell 5 _ rfl, KC.out.cell 6 _ rfl, KC.out.cell 7 _ rfl, KC.out.cell 8 _ rfl, KC.out.cell 9 _ rfl, KC.out.cell 10 _ rfl, KC.out.cell 11 _ rfl, KC.out.cell 12 _ rfl⟩) ?_
   clear hK K
   try simp only [Act.put, zQ1, zQ2, zQ3]
   refine pF 4 ?_
   refine until_done (by kernel_rfl) ?_ _
   have FB := Hid.mk (belowC13 BB.out (show base0 ≤ w.heap.size + 1 by have := HB0.out; omega) (.int .i64 e0) (.int .i64 e1) (.int .i64 e2) (.int .i64 e3) (.int .i64 e4) (.int .i64 e5) (.int .i64 e6) (.int .i64 e7) (.slice G0 Gn0 Gc0) (.int .i64 e9) (.slice (some ⟨gy, 0, none⟩) 0 0) (.slice N2 n2 k2) (.slice N3 n3 k3))
   have FO := Hid.mk (rowsB13 OB.out RB.out (.int .i64 e0) (.int .i64 e1) (.int .i64 e2) (.int .i64 e3) (.int .i64 e4) (.int .i64 e5) (.int .i64 e6) (.int .i64 e7) (.slice G0 Gn0 Gc0) (.int .i64 e9) (.slice (some ⟨gy, 0, none⟩) 0 0) (.slice N2 n2 k2) (.slice N3 n3 k3))
   have FM := Hid.mk (rowsM13 HM.out (show w.heap.size + 1 < Y0.heap.size by have := HZY.out; omega) (.int .i64 e0) (.int .i64 e1) (.int .i64 e2) (.int .i64 e3) (.int .i64 e4) (.int .i64 e5) (.int .i64 e6) (.int .i64 e7) (.slice G0 Gn0 Gc0) (.int .i64 e9) (.slice (some ⟨gy, 0, none⟩) 0 0) (.slice N2 n2 k2) (.slice N3 n3 k3))
   have HWY : Hid (base0 ≤ Y0.heap.size) := by have := HZY.out; have := HB0.out; unfold Hid; omega
   clear KS RS OS BS KA KB RB OB BB KC SS0 HM
   try go_wp2_with fail
   refine bodyPost_ret (v := .tuple #[.agg #[.int .i64 e0, .int .i64 e1, .int .i64 e2, .int .i64 e3, .int .i64 e4, .int .i64 e5, .int .i64 e6, .int .i64 e7, .slice G0 Gn0 Gc0, .int .i64 e9, .slice (some ⟨gy, 0, none⟩) 0 0, .slice N2 n2 k2, .slice N3 n3 k3], .slice Ae me ce]) (by simp [results, go_sem, z0, z1, z2, z3, z4, z5, z6, z7, z8, z9, z10, z11, z12]) rfl ⟨⟨_, _, rfl, ?_⟩, FB.out⟩
   rw [HE.out]
   exact ⟨_, _, _, _, L, rfl, FO.out, FM.out.mono HWY.out, HLM.out, HAp.out⟩
end Go.Proofs.Ytlhoonohpfpkbaa
