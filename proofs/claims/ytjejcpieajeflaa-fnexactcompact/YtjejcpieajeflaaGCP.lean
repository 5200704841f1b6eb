/-
  Contracts of slices.Clone at ints, impl.copyCore and spec.l16Copy.
-/
import Derived.Test.YtjejcpieajeflaaRows
import Derived.Test.YtjejcpieajeflaaCoRes
import Derived.Test.YtjejcpieajeflaaCoShelf
import Derived.Test.YtjejcpieajeflaaCoApp
import Derived.Test.YtjejcpieajeflaaStCopyI
import Derived.Test.YtjejcpieajeflaaNmLaw
import Derived.Deep.Cut
import Derived.Handy
import Derived.Test.YtjejcpieajeflaaWkTo
namespace Go.Proofs.Ytjejcpieajeflaa
open Go.ChangeShapes Go.WideShapes Go.ChangeAt Go.RowKit Go.PlainAid
set_option linter.unusedVariables false

set_option maxRecDepth 100000 in
set_option maxHeartbeats 1000000 in
theorem cloneInts (l : List Int) (v : Value) (w : World) (base : Nat) (hv : Nums w base v l) (hl : l.length ≤ 1048576) :
    Calls Try.prog 84 #[v] w fun e w' => (∃ u, e = .returned u ∧ Nums w' w.heap.size u l) ∧ Below w.heap.size w w' := by
  rcases hv.form with ⟨rfl, rfl⟩ | ⟨g, cap, rfl, h1, h2, h3, h4⟩
  · refine (AnyE.slices_Clone_nil Try.cloneI 0 0 w).mono ?_
    intro e w' h
    first
      | (obtain ⟨rfl, rfl⟩ := h; exact ⟨⟨_, rfl, Nums.nil _ _⟩, Below.refl _ _⟩)
      | (obtain ⟨rfl, hb⟩ := h; exact ⟨⟨_, rfl, Nums.nil _ _⟩, hb⟩)
  obtain ⟨i0, hi, hz0, hz1, hz2⟩ := info_parts Try.infoInt
  have hc := fun j u (hj : (numCells l)[j]? = some u) => show w.cell? ⟨g, 0 + j, none⟩ = some u by
    have hjl : j < l.length := by have := (List.getElem?_eq_some_iff.1 hj).1; simpa [numCells] using this
    rw [Nat.zero_add, hv.cell j hjl]
    rw [← hj]
    simp [numCells, hjl]
  refine (AnyE.slices_Clone Try.cloneI i0 _ 1 8 hi hz0 hz1 hz2 rfl (by omega) Try.sizeOf3 g 0 l.length cap (numCells l) w (by simp [numCells]) (by unfold maxLen; omega) (by omega) hc ?_).mono ?_
  · intro y hy
    obtain ⟨z, _, rfl⟩ := List.mem_map.1 hy
    rfl
  · rintro e w' ⟨u, rfl, hO, _, hb⟩
    exact ⟨⟨u, rfl, hO⟩, hb⟩
set_option maxRecDepth 20000 in
set_option maxHeartbeats 16000000 in
theorem copyCoI (ci cp ct cv cr cd cb cbt : Int) (lg : List Ent) (cc : Int) (ys ns ms : List Int) (u0 u1 u2 u3 : Value) (w : World) (B base : Nat) (hl : Lies w B 2 u0 (entR lg)) (hy : Nums w base u1 ys) (hn : Nums w base u2 ns) (hm : Nums w base u3 ms) (hs : ShortC ⟨ci, cp, ct, cv, cr, cd, cb, cbt, lg, cc, ys, ns, ms⟩) (hB : B ≤ w.heap.size) :
    Calls Try.prog 57 #[.agg #[.int .i64 ci, .int .i64 cp, .int .i64 ct, .int .i64 cv, .int .i64 cr, .int .i64 cd, .int .i64 cb, .int .i64 cbt, u0, .int .i64 cc, u1, u2, u3]] w fun e w' => ∃ u, e = .returned u ∧ CorO w' w.heap.size u ⟨ci, cp, ct, cv, cr, cd, cb, cbt, lg, cc, ys, ns, ms⟩ ∧ Below w.heap.size w w' := by
  have HBB : Hid (B ≤ w.heap.size) := hB
  have HL : Hid (Lies w B 2 u0 (entR lg)) := hl
  have HY : Hid (Nums w base u1 ys) := hy
  have HN : Hid (Nums w base u2 ns) := hn
  have HM : Hid (Nums w base u3 ms) := hm
  have HS : Hid (ShortC ⟨ci, cp, ct, cv, cr, cd, cb, cbt, lg, cc, ys, ns, ms⟩) := hs
  obtain ⟨A0, c0, rfl, _⟩ := ent_look hl
  obtain ⟨A1, c1, rfl, _⟩ := hy.shape
  obtain ⟨A2, c2, rfl, _⟩ := hn.shape
  obtain ⟨A3, c3, rfl, _⟩ := hm.shape
  clear hl hy hn hm hs hB
  generalize hg0 : lg.length = n0 at *
  generalize hg1 : ys.length = n1 at *
  generalize hg2 : ns.length = n2 at *
  generalize hg3 : ms.length = n3 at *
  clear hg0 hg1 hg2 hg3
  obtain ⟨W0, hW0⟩ : ∃ W0, W0 = (w.alloc (.cells #[.int .i64 ci, .int .i64 cp, .int .i64 ct, .int .i64 cv, .int .i64 cr, .int .i64 cd, .int .i64 cb, .int .i64 cbt, .slice A0 n0 c0, .int .i64 cc, .slice A1 n1 c1, .slice A2 n2 c2, .slice A3 n3 c3] 30)).alloc (.cells #[.int .i64 0, .int .i64 0, .int .i64 0, .int .i64 0, .int .i64 0, .int .i64 0, .int .i64 0, .int .i64 0, .slice none 0 0, .int .i64 0, .slice none 0 0, .slice none 0 0, .slice none 0 0] 30) := ⟨_, rfl⟩
  have B0 : Hid (Below w.heap.size w W0) := by unfold Hid; rw [hW0]; exact ((Below.refl _ w).alloc (Nat.le_refl _) _).alloc (by simp) _
  have KO0 : Hid (Blk W0 (w.heap.size) #[.int .i64 ci, .int .i64 cp, .int .i64 ct, .int .i64 cv, .int .i64 cr, .int .i64 cd, .int .i64 cb, .int .i64 cbt, .slice A0 n0 c0, .int .i64 cc, .slice A1 n1 c1, .slice A2 n2 c2, .slice A3 n3 c3] 30) := by unfold Hid; rw [hW0]; exact (Blk.new w _ _).alloc _
  have KR0 : Hid (Blk W0 (w.heap.size + 1) #[.int .i64 0, .int .i64 0, .int .i64 0, .int .i64 0, .int .i64 0, .int .i64 0, .int .i64 0, .int .i64 0, .slice none 0 0, .int .i64 0, .slice none 0 0, .slice none 0 0, .slice none 0 0] 30) := by unfold Hid; rw [hW0]; have := Blk.new (w.alloc (.cells #[.int .i64 ci, .int .i64 cp, .int .i64 ct, .int .i64 cv, .int .i64 cr, .int .i64 cd, .int .i64 cb, .int .i64 cbt, .slice A0 n0 c0, .int .i64 cc, .slice A1 n1 c1, .slice A2 n2 c2, .slice A3 n3 c3] 30)) #[.int .i64 0, .int .i64 0, .int .i64 0, .int .i64 0, .int .i64 0, .int .i64 0, .int .i64 0, .int .i64 0, .slice none 0 0, .int .i64 0, .slice none 0 0, .slice none 0 0, .slice none 0 0] 30; simp only [World.size_alloc] at this; exact this
  have HZ0 : Hid (w.heap.size + 1 + 1 ≤ W0.heap.size) := by unfold Hid; rw [hW0]; simp
  go_enter Try.func57, Try.ntmps57
  go_wp2_with fail
  rw [← hW0]
  clear hW0
  refine (copyEntsI lg (.slice A0 n0 c0) W0 B (HL.out.on (B0.out.mono HBB.out)) HS.out.n HS.out.d (Nat.le_trans HBB.out B0.out.size)).mono ?_
  rintro e W1 ⟨⟨q0, rfl, hO⟩, hb⟩
  obtain ⟨Bz, m0, k0, rfl⟩ := hO.shape
  have B1 : Hid (Below w.heap.size w W1) := B0.out.trans (hb.mono B0.out.size)
  have KO1 : Hid (Blk W1 (w.heap.size) #[.int .i64 ci, .int .i64 cp, .int .i64 ct, .int .i64 cv, .int .i64 cr, .int .i64 cd, .int .i64 cb, .int .i64 cbt, .slice A0 n0 c0, .int .i64 cc, .slice A1 n1 c1, .slice A2 n2 c2, .slice A3 n3 c3] 30) := KO0.out.on hb KO0.out.lt
  have KR1 : Hid (Blk W1 (w.heap.size + 1) #[.int .i64 0, .int .i64 0, .int .i64 0, .int .i64 0, .int .i64 0, .int .i64 0, .int .i64 0, .int .i64 0, .slice none 0 0, .int .i64 0, .slice none 0 0, .slice none 0 0, .slice none 0 0] 30) := KR0.out.on hb KR0.out.lt
  have HZ1 : Hid (w.heap.size + 1 + 1 ≤ W1.heap.size) := Nat.le_trans HZ0.out hb.size
  have P1 : Hid (OwnF W1 (w.heap.size + 1 + 1) (.slice Bz m0 k0) (entR lg)) := (hO.mono HZ0.out).toF
  clear hO hb KO0 KR0 B0 HZ0 
  have c8 := KO1.out.cell 8 _ rfl
  have f8 := KO1.out.free 8
  obtain ⟨Y1, hY1⟩ : ∃ Y1, Y1 = W1.setCell ⟨w.heap.size, 8, none⟩ (.slice Bz m0 k0) := ⟨_, rfl⟩
  have KO1' : Hid (Blk Y1 (w.heap.size) #[.int .i64 ci, .int .i64 cp, .int .i64 ct, .int .i64 cv, .int .i64 cr, .int .i64 cd, .int .i64 cb, .int .i64 cbt, .slice Bz m0 k0, .int .i64 cc, .slice A1 n1 c1, .slice A2 n2 c2, .slice A3 n3 c3] 30) := by unfold Hid; rw [hY1]; exact KO1.out.set 8 _
  have KR1' : Hid (Blk Y1 (w.heap.size + 1) #[.int .i64 0, .int .i64 0, .int .i64 0, .int .i64 0, .int .i64 0, .int .i64 0, .int .i64 0, .int .i64 0, .slice none 0 0, .int .i64 0, .slice none 0 0, .slice none 0 0, .slice none 0 0] 30) := by unfold Hid; rw [hY1]; exact KR1.out.other (show w.heap.size + 1 ≠ w.heap.size by omega) 8 _
  have B1' : Hid (Below w.heap.size w Y1) := by unfold Hid; rw [hY1]; exact B1.out.setCell (Nat.le_refl _) _ (p := ⟨_, 8, none⟩)
  have HZ1' : Hid (w.heap.size + 1 + 1 ≤ Y1.heap.size) := by unfold Hid; rw [hY1]; simpa using HZ1.out
  have P1' : Hid (OwnF Y1 (w.heap.size + 1 + 1) (.slice Bz m0 k0) (entR lg)) := by unfold Hid; rw [hY1]; exact P1.out.low (show w.heap.size < w.heap.size + 1 + 1 by omega)
  clear KO1 KR1 B1 HZ1 P1
  have l10 := KO1'.out.cell 10 _ rfl
  rw [hY1] at l10
  go_wp2_with fail
  rw [← hY1]
  clear hY1 c8 f8 l10
  refine (cloneInts ys (.slice A1 n1 c1) Y1 base (HY.out.on B1'.out) HS.out.y).mono ?_
  rintro e W2 ⟨⟨q1, rfl, hO⟩, hb⟩
  obtain ⟨By, k1, hu, -⟩ := hO.shape
  generalize ys.length = m1 at hu
  subst hu
  have B2 : Hid (Below w.heap.size w W2) := B1'.out.trans (hb.mono B1'.out.size)
  have KO2 : Hid (Blk W2 (w.heap.size) #[.int .i64 ci, .int .i64 cp, .int .i64 ct, .int .i64 cv, .int .i64 cr, .int .i64 cd, .int .i64 cb, .int .i64 cbt, .slice Bz m0 k0, .int .i64 cc, .slice A1 n1 c1, .slice A2 n2 c2, .slice A3 n3 c3] 30) := KO1'.out.on hb KO1'.out.lt
  have KR2 : Hid (Blk W2 (w.heap.size + 1) #[.int .i64 0, .int .i64 0, .int .i64 0, .int .i64 0, .int .i64 0, .int .i64 0, .int .i64 0, .int .i64 0, .slice none 0 0, .int .i64 0, .slice none 0 0, .slice none 0 0, .slice none 0 0] 30) := KR1'.out.on hb KR1'.out.lt
  have HZ2 : Hid (w.heap.size + 1 + 1 ≤ W2.heap.size) := Nat.le_trans HZ1'.out hb.size
  have P1 : Hid (OwnF W2 (w.heap.size + 1 + 1) (.slice Bz m0 k0) (entR lg)) := P1'.out.on hb
  have P2 : Hid (Nums W2 (w.heap.size + 1 + 1) (.slice By m1 k1) ys) := hO.mono HZ1'.out
  clear hO hb KO1' KR1' B1' HZ1' P1'
  have c10 := KO2.out.cell 10 _ rfl
  have f10 := KO2.out.free 10
  obtain ⟨Y2, hY2⟩ : ∃ Y2, Y2 = W2.setCell ⟨w.heap.size, 10, none⟩ (.slice By m1 k1) := ⟨_, rfl⟩
  have KO2' : Hid (Blk Y2 (w.heap.size) #[.int .i64 ci, .int .i64 cp, .int .i64 ct, .int .i64 cv, .int .i64 cr, .int .i64 cd, .int .i64 cb, .int .i64 cbt, .slice Bz m0 k0, .int .i64 cc, .slice By m1 k1, .slice A2 n2 c2, .slice A3 n3 c3] 30) := by unfold Hid; rw [hY2]; exact KO2.out.set 10 _
  have KR2' : Hid (Blk Y2 (w.heap.size + 1) #[.int .i64 0, .int .i64 0, .int .i64 0, .int .i64 0, .int .i64 0, .int .i64 0, .int .i64 0, .int .i64 0, .slice none 0 0, .int .i64 0, .slice none 0 0, .slice none 0 0, .slice none 0 0] 30) := by unfold Hid; rw [hY2]; exact KR2.out.other (show w.heap.size + 1 ≠ w.heap.size by omega) 10 _
  have B2' : Hid (Below w.heap.size w Y2) := by unfold Hid; rw [hY2]; exact B2.out.setCell (Nat.le_refl _) _ (p := ⟨_, 10, none⟩)
  have HZ2' : Hid (w.heap.size + 1 + 1 ≤ Y2.heap.size) := by unfold Hid; rw [hY2]; simpa using HZ2.out
  have P1' : Hid (OwnF Y2 (w.heap.size + 1 + 1) (.slice Bz m0 k0) (entR lg)) := by unfold Hid; rw [hY2]; exact P1.out.low (show w.heap.size < w.heap.size + 1 + 1 by omega)
  have P2' : Hid (Nums Y2 (w.heap.size + 1 + 1) (.slice By m1 k1) ys) := by unfold Hid; rw [hY2]; exact P2.out.low (show w.heap.size < w.heap.size + 1 + 1 by omega)
  clear KO2 KR2 B2 HZ2 P1 P2
  have l11 := KO2'.out.cell 11 _ rfl
  rw [hY2] at l11
  go_wp2_with fail
  rw [← hY2]
  clear hY2 c10 f10 l11
  refine (cloneInts ns (.slice A2 n2 c2) Y2 base (HN.out.on B2'.out) HS.out.q).mono ?_
  rintro e W3 ⟨⟨q2, rfl, hO⟩, hb⟩
  obtain ⟨Bn, k2, hu, -⟩ := hO.shape
  generalize ns.length = m2 at hu
  subst hu
  have B3 : Hid (Below w.heap.size w W3) := B2'.out.trans (hb.mono B2'.out.size)
  have KO3 : Hid (Blk W3 (w.heap.size) #[.int .i64 ci, .int .i64 cp, .int .i64 ct, .int .i64 cv, .int .i64 cr, .int .i64 cd, .int .i64 cb, .int .i64 cbt, .slice Bz m0 k0, .int .i64 cc, .slice By m1 k1, .slice A2 n2 c2, .slice A3 n3 c3] 30) := KO2'.out.on hb KO2'.out.lt
  have KR3 : Hid (Blk W3 (w.heap.size + 1) #[.int .i64 0, .int .i64 0, .int .i64 0, .int .i64 0, .int .i64 0, .int .i64 0, .int .i64 0, .int .i64 0, .slice none 0 0, .int .i64 0, .slice none 0 0, .slice none 0 0, .slice none 0 0] 30) := KR2'.out.on hb KR2'.out.lt
  have HZ3 : Hid (w.heap.size + 1 + 1 ≤ W3.heap.size) := Nat.le_trans HZ2'.out hb.size
  have P1 : Hid (OwnF W3 (w.heap.size + 1 + 1) (.slice Bz m0 k0) (entR lg)) := P1'.out.on hb
  have P2 : Hid (Nums W3 (w.heap.size + 1 + 1) (.slice By m1 k1) ys) := P2'.out.on hb
  have P3 : Hid (Nums W3 (w.heap.size + 1 + 1) (.slice Bn m2 k2) ns) := hO.mono HZ2'.out
  have AP12 : Hid (Apart (.slice By m1 k1) (.slice Bn m2 k2)) := P2'.out.apart hO (Nat.le_refl _)
  clear hO hb KO2' KR2' B2' HZ2' P1' P2'
  have c11 := KO3.out.cell 11 _ rfl
  have f11 := KO3.out.free 11
  obtain ⟨Y3, hY3⟩ : ∃ Y3, Y3 = W3.setCell ⟨w.heap.size, 11, none⟩ (.slice Bn m2 k2) := ⟨_, rfl⟩
  have KO3' : Hid (Blk Y3 (w.heap.size) #[.int .i64 ci, .int .i64 cp, .int .i64 ct, .int .i64 cv, .int .i64 cr, .int .i64 cd, .int .i64 cb, .int .i64 cbt, .slice Bz m0 k0, .int .i64 cc, .slice By m1 k1, .slice Bn m2 k2, .slice A3 n3 c3] 30) := by unfold Hid; rw [hY3]; exact KO3.out.set 11 _
  have KR3' : Hid (Blk Y3 (w.heap.size + 1) #[.int .i64 0, .int .i64 0, .int .i64 0, .int .i64 0, .int .i64 0, .int .i64 0, .int .i64 0, .int .i64 0, .slice none 0 0, .int .i64 0, .slice none 0 0, .slice none 0 0, .slice none 0 0] 30) := by unfold Hid; rw [hY3]; exact KR3.out.other (show w.heap.size + 1 ≠ w.heap.size by omega) 11 _
  have B3' : Hid (Below w.heap.size w Y3) := by unfold Hid; rw [hY3]; exact B3.out.setCell (Nat.le_refl _) _ (p := ⟨_, 11, none⟩)
  have HZ3' : Hid (w.heap.size + 1 + 1 ≤ Y3.heap.size) := by unfold Hid; rw [hY3]; simpa using HZ3.out
  have P1' : Hid (OwnF Y3 (w.heap.size + 1 + 1) (.slice Bz m0 k0) (entR lg)) := by unfold Hid; rw [hY3]; exact P1.out.low (show w.heap.size < w.heap.size + 1 + 1 by omega)
  have P2' : Hid (Nums Y3 (w.heap.size + 1 + 1) (.slice By m1 k1) ys) := by unfold Hid; rw [hY3]; exact P2.out.low (show w.heap.size < w.heap.size + 1 + 1 by omega)
  have P3' : Hid (Nums Y3 (w.heap.size + 1 + 1) (.slice Bn m2 k2) ns) := by unfold Hid; rw [hY3]; exact P3.out.low (show w.heap.size < w.heap.size + 1 + 1 by omega)
  clear KO3 KR3 B3 HZ3 P1 P2 P3
  have l12 := KO3'.out.cell 12 _ rfl
  rw [hY3] at l12
  go_wp2_with fail
  rw [← hY3]
  clear hY3 c11 f11 l12
  refine (cloneInts ms (.slice A3 n3 c3) Y3 base (HM.out.on B3'.out) HS.out.m).mono ?_
  rintro e W4 ⟨⟨q3, rfl, hO⟩, hb⟩
  obtain ⟨Bm, k3, hu, -⟩ := hO.shape
  generalize ms.length = m3 at hu
  subst hu
  have B4 : Hid (Below w.heap.size w W4) := B3'.out.trans (hb.mono B3'.out.size)
  have KO4 : Hid (Blk W4 (w.heap.size) #[.int .i64 ci, .int .i64 cp, .int .i64 ct, .int .i64 cv, .int .i64 cr, .int .i64 cd, .int .i64 cb, .int .i64 cbt, .slice Bz m0 k0, .int .i64 cc, .slice By m1 k1, .slice Bn m2 k2, .slice A3 n3 c3] 30) := KO3'.out.on hb KO3'.out.lt
  have KR4 : Hid (Blk W4 (w.heap.size + 1) #[.int .i64 0, .int .i64 0, .int .i64 0, .int .i64 0, .int .i64 0, .int .i64 0, .int .i64 0, .int .i64 0, .slice none 0 0, .int .i64 0, .slice none 0 0, .slice none 0 0, .slice none 0 0] 30) := KR3'.out.on hb KR3'.out.lt
  have HZ4 : Hid (w.heap.size + 1 + 1 ≤ W4.heap.size) := Nat.le_trans HZ3'.out hb.size
  have P1 : Hid (OwnF W4 (w.heap.size + 1 + 1) (.slice Bz m0 k0) (entR lg)) := P1'.out.on hb
  have P2 : Hid (Nums W4 (w.heap.size + 1 + 1) (.slice By m1 k1) ys) := P2'.out.on hb
  have P3 : Hid (Nums W4 (w.heap.size + 1 + 1) (.slice Bn m2 k2) ns) := P3'.out.on hb
  have P4 : Hid (Nums W4 (w.heap.size + 1 + 1) (.slice Bm m3 k3) ms) := hO.mono HZ3'.out
  have AP13 : Hid (Apart (.slice By m1 k1) (.slice Bm m3 k3)) := P2'.out.apart hO (Nat.le_refl _)
  have AP23 : Hid (Apart (.slice Bn m2 k2) (.slice Bm m3 k3)) := P3'.out.apart hO (Nat.le_refl _)
  clear hO hb KO3' KR3' B3' HZ3' P1' P2' P3'
  have c12 := KO4.out.cell 12 _ rfl
  have f12 := KO4.out.free 12
  obtain ⟨Y4, hY4⟩ : ∃ Y4, Y4 = W4.setCell ⟨w.heap.size, 12, none⟩ (.slice Bm m3 k3) := ⟨_, rfl⟩
  have KO4' : Hid (Blk Y4 (w.heap.size) #[.int .i64 ci, .int .i64 cp, .int .i64 ct, .int .i64 cv, .int .i64 cr, .int .i64 cd, .int .i64 cb, .int .i64 cbt, .slice Bz m0 k0, .int .i64 cc, .slice By m1 k1, .slice Bn m2 k2, .slice Bm m3 k3] 30) := by unfold Hid; rw [hY4]; exact KO4.out.set 12 _
  have KR4' : Hid (Blk Y4 (w.heap.size + 1) #[.int .i64 0, .int .i64 0, .int .i64 0, .int .i64 0, .int .i64 0, .int .i64 0, .int .i64 0, .int .i64 0, .slice none 0 0, .int .i64 0, .slice none 0 0, .slice none 0 0, .slice none 0 0] 30) := by unfold Hid; rw [hY4]; exact KR4.out.other (show w.heap.size + 1 ≠ w.heap.size by omega) 12 _
  have B4' : Hid (Below w.heap.size w Y4) := by unfold Hid; rw [hY4]; exact B4.out.setCell (Nat.le_refl _) _ (p := ⟨_, 12, none⟩)
  have HZ4' : Hid (w.heap.size + 1 + 1 ≤ Y4.heap.size) := by unfold Hid; rw [hY4]; simpa using HZ4.out
  have P1' : Hid (OwnF Y4 (w.heap.size + 1 + 1) (.slice Bz m0 k0) (entR lg)) := by unfold Hid; rw [hY4]; exact P1.out.low (show w.heap.size < w.heap.size + 1 + 1 by omega)
  have P2' : Hid (Nums Y4 (w.heap.size + 1 + 1) (.slice By m1 k1) ys) := by unfold Hid; rw [hY4]; exact P2.out.low (show w.heap.size < w.heap.size + 1 + 1 by omega)
  have P3' : Hid (Nums Y4 (w.heap.size + 1 + 1) (.slice Bn m2 k2) ns) := by unfold Hid; rw [hY4]; exact P3.out.low (show w.heap.size < w.heap.size + 1 + 1 by omega)
  have P4' : Hid (Nums Y4 (w.heap.size + 1 + 1) (.slice Bm m3 k3) ms) := by unfold Hid; rw [hY4]; exact P4.out.low (show w.heap.size < w.heap.size + 1 + 1 by omega)
  clear KO4 KR4 B4 HZ4 P1 P2 P3 P4
  go_upto_region 5 with fail
  rw [← hY4]
  clear hY4 c12 f12
  have RW : Hid (CoRows Y4 (w.heap.size + 1 + 1) ⟨ci, cp, ct, cv, cr, cd, cb, cbt, lg, cc, ys, ns, ms⟩ (.slice Bz m0 k0) (.slice By m1 k1) (.slice Bn m2 k2) (.slice Bm m3 k3)) := ⟨P1'.out, P2'.out, P3'.out, P4'.out, AP12.out, AP13.out, AP23.out⟩
  clear P1' P2' P3' P4' AP12 AP13 AP23 HZ4'
  have hgr : w.heap.size + 1 < w.heap.size + 1 + 1 := by omega
  have HW0 : Hid (w.heap.size ≤ w.heap.size + 1) := by unfold Hid; omega
  have HW1 : Hid (w.heap.size ≤ w.heap.size + 1 + 1) := by unfold Hid; omega
  have d0 := KO4'.out.cell 0 _ rfl
  have d1 := KO4'.out.cell 1 _ rfl
  have d2 := KO4'.out.cell 2 _ rfl
  have d3 := KO4'.out.cell 3 _ rfl
  have d4 := KO4'.out.cell 4 _ rfl
  have d5 := KO4'.out.cell 5 _ rfl
  have d6 := KO4'.out.cell 6 _ rfl
  have d7 := KO4'.out.cell 7 _ rfl
  have d8 := KO4'.out.cell 8 _ rfl
  have d9 := KO4'.out.cell 9 _ rfl
  have d10 := KO4'.out.cell 10 _ rfl
  have d11 := KO4'.out.cell 11 _ rfl
  have d12 := KO4'.out.cell 12 _ rfl
  obtain ⟨⟨r0, g0⟩, ⟨r1, g1⟩, ⟨r2, g2⟩, ⟨r3, g3⟩, ⟨r4, g4⟩, ⟨r5, g5⟩, ⟨r6, g6⟩, ⟨r7, g7⟩, ⟨r8, g8⟩, ⟨r9, g9⟩, ⟨r10, g10⟩, ⟨r11, g11⟩, ⟨r12, g12⟩, z0, z1, z2, z3, z4, z5, z6, z7, z8, z9, z10, z11, z12⟩ := resC13 (x0 := .int .i64 ci) (x1 := .int .i64 cp) (x2 := .int .i64 ct) (x3 := .int .i64 cv) (x4 := .int .i64 cr) (x5 := .int .i64 cd) (x6 := .int .i64 cb) (x7 := .int .i64 cbt) (x8 := .slice Bz m0 k0) (x9 := .int .i64 cc) (x10 := .slice By m1 k1) (x11 := .slice Bn m2 k2) (x12 := .slice Bm m3 k3) KR4'.out
  have FO := Hid.mk (rowsC13 RW.out hgr (.int .i64 ci) (.int .i64 cp) (.int .i64 ct) (.int .i64 cv) (.int .i64 cr) (.int .i64 cd) (.int .i64 cb) (.int .i64 cbt) (.slice Bz m0 k0) (.int .i64 cc) (.slice By m1 k1) (.slice Bn m2 k2) (.slice Bm m3 k3))
  have FB := Hid.mk (belowC13 B4'.out HW0.out (.int .i64 ci) (.int .i64 cp) (.int .i64 ct) (.int .i64 cv) (.int .i64 cr) (.int .i64 cd) (.int .i64 cb) (.int .i64 cbt) (.slice Bz m0 k0) (.int .i64 cc) (.slice By m1 k1) (.slice Bn m2 k2) (.slice Bm m3 k3))
  clear KO4' KR4' RW B4'
  go_wp2_with fail
  exact bodyPost_ret (v := .agg #[.int .i64 ci, .int .i64 cp, .int .i64 ct, .int .i64 cv, .int .i64 cr, .int .i64 cd, .int .i64 cb, .int .i64 cbt, .slice Bz m0 k0, .int .i64 cc, .slice By m1 k1, .slice Bn m2 k2, .slice Bm m3 k3]) (by simp [results, go_sem, z0, z1, z2, z3, z4, z5, z6, z7, z8, z9, z10, z11, z12]) rfl ⟨_, rfl, ⟨_, _, _, _, rfl, FO.out.mono HW1.out⟩, FB.out⟩
end Go.Proofs.Ytjejcpieajeflaa

/-
  Contract of spec.l16Copy.
-/
namespace Go.Proofs.Ytjejcpieajeflaa
open Go.ChangeShapes Go.WideShapes Go.ChangeAt Go.RowKit Go.PlainAid
set_option linter.unusedVariables false

/-- The rows of numbers. -/
def numR (l : List Int) : List (List Value) := l.map fun z => [.int .i64 z]
theorem numR_length (l : List Int) : (numR l).length = l.length := by simp [numR]
theorem numR_flat (l : List Int) : (numR l).flatten = numCells l := by
  induction l with
  | nil => rfl
  | cons x l ih =>
    simp only [numR, numCells, List.map_cons, List.flatten_cons, List.cons_append, List.nil_append] at ih ⊢
    rw [ih]
theorem owns_nums {w : World} {b : Nat} {v : Value} {l : List Int} (h : Owns w b 3 1 v (numR l)) : Nums w b v l := by
  have := h.2
  rw [numR_length, numR_flat] at this
  exact this
theorem nums_owns {w : World} {b : Nat} {v : Value} {l : List Int} (h : Nums w b v l) : Owns w b 3 1 v (numR l) := by
  refine ⟨fun r hr => ?_, ?_⟩
  · obtain ⟨z, _, rfl⟩ := List.mem_map.1 hr
    rfl
  · rw [numR_length, numR_flat]
    exact h
theorem num_one (l : List Int) : ∀ r ∈ numR l, ∀ y ∈ r, y.oneCell' = true := by
  intro r hr y hy
  obtain ⟨z, _, rfl⟩ := List.mem_map.1 hr
  simp only [List.mem_cons, List.not_mem_nil, or_false] at hy
  subst hy
  rfl
set_option maxRecDepth 20000 in
set_option maxHeartbeats 16000000 in
theorem copyCoS (ci cp ct cv cr cd cb cbt : Int) (lg : List Ent) (cc : Int) (ys ns ms : List Int) (u0 u1 u2 u3 : Value) (w : World) (B base : Nat) (hl : Lies w B 2 u0 (entR lg)) (hy : Nums w base u1 ys) (hn : Nums w base u2 ns) (hm : Nums w base u3 ms) (hs : ShortC ⟨ci, cp, ct, cv, cr, cd, cb, cbt, lg, cc, ys, ns, ms⟩) (hB : B ≤ w.heap.size) :
    Calls Try.prog 59 #[.agg #[.int .i64 ci, .int .i64 cp, .int .i64 ct, .int .i64 cv, .int .i64 cr, .int .i64 cd, .int .i64 cb, .int .i64 cbt, u0, .int .i64 cc, u1, u2, u3]] w fun e w' => ∃ u, e = .returned u ∧ CorO w' w.heap.size u ⟨ci, cp, ct, cv, cr, cd, cb, cbt, lg, cc, ys, ns, ms⟩ ∧ Below w.heap.size w w' := by
  have HBB : Hid (B ≤ w.heap.size) := hB
  have HL : Hid (Lies w B 2 u0 (entR lg)) := hl
  have HY : Hid (Nums w base u1 ys) := hy
  have HN : Hid (Nums w base u2 ns) := hn
  have HM : Hid (Nums w base u3 ms) := hm
  have HS : Hid (ShortC ⟨ci, cp, ct, cv, cr, cd, cb, cbt, lg, cc, ys, ns, ms⟩) := hs
  obtain ⟨A0, c0, rfl, _⟩ := ent_look hl
  obtain ⟨A1, c1, rfl, _⟩ := hy.shape
  obtain ⟨A2, c2, rfl, _⟩ := hn.shape
  obtain ⟨A3, c3, rfl, _⟩ := hm.shape
  clear hl hy hn hm hs hB
  generalize hg0 : lg.length = n0 at *
  generalize hg1 : ys.length = n1 at *
  generalize hg2 : ns.length = n2 at *
  generalize hg3 : ms.length = n3 at *
  clear hg0 hg1 hg2 hg3
  obtain ⟨W0, hW0⟩ : ∃ W0, W0 = (w.alloc (.cells #[.int .i64 ci, .int .i64 cp, .int .i64 ct, .int .i64 cv, .int .i64 cr, .int .i64 cd, .int .i64 cb, .int .i64 cbt, .slice A0 n0 c0, .int .i64 cc, .slice A1 n1 c1, .slice A2 n2 c2, .slice A3 n3 c3] 30)).alloc (.cells #[.int .i64 0, .int .i64 0, .int .i64 0, .int .i64 0, .int .i64 0, .int .i64 0, .int .i64 0, .int .i64 0, .slice none 0 0, .int .i64 0, .slice none 0 0, .slice none 0 0, .slice none 0 0] 30) := ⟨_, rfl⟩
  have B0 : Hid (Below w.heap.size w W0) := by unfold Hid; rw [hW0]; exact ((Below.refl _ w).alloc (Nat.le_refl _) _).alloc (by simp) _
  have KO0 : Hid (Blk W0 (w.heap.size) #[.int .i64 ci, .int .i64 cp, .int .i64 ct, .int .i64 cv, .int .i64 cr, .int .i64 cd, .int .i64 cb, .int .i64 cbt, .slice A0 n0 c0, .int .i64 cc, .slice A1 n1 c1, .slice A2 n2 c2, .slice A3 n3 c3] 30) := by unfold Hid; rw [hW0]; exact (Blk.new w _ _).alloc _
  have KR0 : Hid (Blk W0 (w.heap.size + 1) #[.int .i64 0, .int .i64 0, .int .i64 0, .int .i64 0, .int .i64 0, .int .i64 0, .int .i64 0, .int .i64 0, .slice none 0 0, .int .i64 0, .slice none 0 0, .slice none 0 0, .slice none 0 0] 30) := by unfold Hid; rw [hW0]; have := Blk.new (w.alloc (.cells #[.int .i64 ci, .int .i64 cp, .int .i64 ct, .int .i64 cv, .int .i64 cr, .int .i64 cd, .int .i64 cb, .int .i64 cbt, .slice A0 n0 c0, .int .i64 cc, .slice A1 n1 c1, .slice A2 n2 c2, .slice A3 n3 c3] 30)) #[.int .i64 0, .int .i64 0, .int .i64 0, .int .i64 0, .int .i64 0, .int .i64 0, .int .i64 0, .int .i64 0, .slice none 0 0, .int .i64 0, .slice none 0 0, .slice none 0 0, .slice none 0 0] 30; simp only [World.size_alloc] at this; exact this
  have HZ0 : Hid (w.heap.size + 1 + 1 ≤ W0.heap.size) := by unfold Hid; rw [hW0]; simp
  go_enter Try.func59, Try.ntmps59
  go_upto_region 1 with fail
  rw [← hW0]
  clear hW0
  have bz : Below W0.heap.size W0 (W0.alloc (.cells #[] 88)) := (Below.refl _ _).alloc (Nat.le_refl _) _
  have oe := Owns.empty W0 W0.heap.size 88 2 (Nat.le_refl _)
  have li := ((HL.out.on ((B0.out.trans (bz.mono B0.out.size)).mono HBB.out)).mono (Nat.le_trans HBB.out (B0.out.trans (bz.mono B0.out.size)).size))
  have ll := (KO0.out.alloc (.cells #[] 88)).cell 8 _ rfl
  have hln : ([] : List (List Value)).length + (entR lg).length ≤ 2097152 := by rw [entR_length]; have := HS.out.n; simp only [List.length_nil] at this ⊢; omega
  go_wp2_with (at_builtin; refine wpList_append_all rfl (.tmp 3) (.tmp 5) 28 88 (.agg #[.int .i64 0, .string ⟨#[]⟩]) 2 24 rfl Try.underlying28 Try.infoEnt rfl (by omega) W0.heap.size _ _ [] (entR lg) (W0.alloc (.cells #[] 88)).heap.size rfl oe li (ent_one _) rfl hln (by omega) bz.size ?_; intro qv W1 hO' hb' hk' hw'; obtain ⟨Bz, m0, k0, rfl⟩ := hO'.shape; refine Shut.out ?_)
  rw [List.nil_append] at hO'
  have hb : Below W0.heap.size W0 W1 := bz.trans hb'
  have hO := hO'
  clear hO' hb' hk' hw' bz oe li ll hln
  unfold Shut
  have B1 : Hid (Below w.heap.size w W1) := B0.out.trans (hb.mono B0.out.size)
  have KO1 : Hid (Blk W1 (w.heap.size) #[.int .i64 ci, .int .i64 cp, .int .i64 ct, .int .i64 cv, .int .i64 cr, .int .i64 cd, .int .i64 cb, .int .i64 cbt, .slice A0 n0 c0, .int .i64 cc, .slice A1 n1 c1, .slice A2 n2 c2, .slice A3 n3 c3] 30) := KO0.out.on hb KO0.out.lt
  have KR1 : Hid (Blk W1 (w.heap.size + 1) #[.int .i64 0, .int .i64 0, .int .i64 0, .int .i64 0, .int .i64 0, .int .i64 0, .int .i64 0, .int .i64 0, .slice none 0 0, .int .i64 0, .slice none 0 0, .slice none 0 0, .slice none 0 0] 30) := KR0.out.on hb KR0.out.lt
  have HZ1 : Hid (w.heap.size + 1 + 1 ≤ W1.heap.size) := Nat.le_trans HZ0.out hb.size
  have P1 : Hid (OwnF W1 (w.heap.size + 1 + 1) (.slice Bz m0 k0) (entR lg)) := (hO.mono HZ0.out).toF
  clear hO hb KO0 KR0 B0 HZ0 
  have c8 := KO1.out.cell 8 _ rfl
  have f8 := KO1.out.free 8
  obtain ⟨Y1, hY1⟩ : ∃ Y1, Y1 = W1.setCell ⟨w.heap.size, 8, none⟩ (.slice Bz m0 k0) := ⟨_, rfl⟩
  have KO1' : Hid (Blk Y1 (w.heap.size) #[.int .i64 ci, .int .i64 cp, .int .i64 ct, .int .i64 cv, .int .i64 cr, .int .i64 cd, .int .i64 cb, .int .i64 cbt, .slice Bz m0 k0, .int .i64 cc, .slice A1 n1 c1, .slice A2 n2 c2, .slice A3 n3 c3] 30) := by unfold Hid; rw [hY1]; exact KO1.out.set 8 _
  have KR1' : Hid (Blk Y1 (w.heap.size + 1) #[.int .i64 0, .int .i64 0, .int .i64 0, .int .i64 0, .int .i64 0, .int .i64 0, .int .i64 0, .int .i64 0, .slice none 0 0, .int .i64 0, .slice none 0 0, .slice none 0 0, .slice none 0 0] 30) := by unfold Hid; rw [hY1]; exact KR1.out.other (show w.heap.size + 1 ≠ w.heap.size by omega) 8 _
  have B1' : Hid (Below w.heap.size w Y1) := by unfold Hid; rw [hY1]; exact B1.out.setCell (Nat.le_refl _) _ (p := ⟨_, 8, none⟩)
  have HZ1' : Hid (w.heap.size + 1 + 1 ≤ Y1.heap.size) := by unfold Hid; rw [hY1]; simpa using HZ1.out
  have P1' : Hid (OwnF Y1 (w.heap.size + 1 + 1) (.slice Bz m0 k0) (entR lg)) := by unfold Hid; rw [hY1]; exact P1.out.low (show w.heap.size < w.heap.size + 1 + 1 by omega)
  clear KO1 KR1 B1 HZ1 P1
  go_upto_region 2 with fail
  rw [← hY1]
  clear hY1 c8 f8
  have bz : Below Y1.heap.size Y1 (Y1.alloc (.cells #[] 3)) := (Below.refl _ _).alloc (Nat.le_refl _) _
  have oe := Owns.empty Y1 Y1.heap.size 3 1 (Nat.le_refl _)
  have li := (nums_owns (HY.out.on (B1'.out.trans (bz.mono B1'.out.size)))).lies
  have ll := (KO1'.out.alloc (.cells #[] 3)).cell 10 _ rfl
  have hln : ([] : List (List Value)).length + (numR ys).length ≤ 2097152 := by rw [numR_length]; have := HS.out.y; simp only [List.length_nil] at this ⊢; omega
  go_wp2_with (at_builtin; refine wpList_append_all rfl (.tmp 8) (.tmp 10) 23 3 (.int .i64 0) 1 8 rfl Try.underlying23 Try.infoInt rfl (by omega) Y1.heap.size _ _ [] (numR ys) (Y1.alloc (.cells #[] 3)).heap.size rfl oe li (num_one _) rfl hln (by omega) bz.size ?_; intro qv W2 hO' hb' hk' hw'; obtain ⟨By, m1, k1, rfl⟩ := hO'.shape; refine Shut.out ?_)
  rw [List.nil_append] at hO'
  have hb : Below Y1.heap.size Y1 W2 := bz.trans hb'
  have hO := owns_nums hO'
  clear hO' hb' hk' hw' bz oe li ll hln
  unfold Shut
  have B2 : Hid (Below w.heap.size w W2) := B1'.out.trans (hb.mono B1'.out.size)
  have KO2 : Hid (Blk W2 (w.heap.size) #[.int .i64 ci, .int .i64 cp, .int .i64 ct, .int .i64 cv, .int .i64 cr, .int .i64 cd, .int .i64 cb, .int .i64 cbt, .slice Bz m0 k0, .int .i64 cc, .slice A1 n1 c1, .slice A2 n2 c2, .slice A3 n3 c3] 30) := KO1'.out.on hb KO1'.out.lt
  have KR2 : Hid (Blk W2 (w.heap.size + 1) #[.int .i64 0, .int .i64 0, .int .i64 0, .int .i64 0, .int .i64 0, .int .i64 0, .int .i64 0, .int .i64 0, .slice none 0 0, .int .i64 0, .slice none 0 0, .slice none 0 0, .slice none 0 0] 30) := KR1'.out.on hb KR1'.out.lt
  have HZ2 : Hid (w.heap.size + 1 + 1 ≤ W2.heap.size) := Nat.le_trans HZ1'.out hb.size
  have P1 : Hid (OwnF W2 (w.heap.size + 1 + 1) (.slice Bz m0 k0) (entR lg)) := P1'.out.on hb
  have P2 : Hid (Nums W2 (w.heap.size + 1 + 1) (.slice By m1 k1) ys) := hO.mono HZ1'.out
  clear hO hb KO1' KR1' B1' HZ1' P1'
  have c10 := KO2.out.cell 10 _ rfl
  have f10 := KO2.out.free 10
  obtain ⟨Y2, hY2⟩ : ∃ Y2, Y2 = W2.setCell ⟨w.heap.size, 10, none⟩ (.slice By m1 k1) := ⟨_, rfl⟩
  have KO2' : Hid (Blk Y2 (w.heap.size) #[.int .i64 ci, .int .i64 cp, .int .i64 ct, .int .i64 cv, .int .i64 cr, .int .i64 cd, .int .i64 cb, .int .i64 cbt, .slice Bz m0 k0, .int .i64 cc, .slice By m1 k1, .slice A2 n2 c2, .slice A3 n3 c3] 30) := by unfold Hid; rw [hY2]; exact KO2.out.set 10 _
  have KR2' : Hid (Blk Y2 (w.heap.size + 1) #[.int .i64 0, .int .i64 0, .int .i64 0, .int .i64 0, .int .i64 0, .int .i64 0, .int .i64 0, .int .i64 0, .slice none 0 0, .int .i64 0, .slice none 0 0, .slice none 0 0, .slice none 0 0] 30) := by unfold Hid; rw [hY2]; exact KR2.out.other (show w.heap.size + 1 ≠ w.heap.size by omega) 10 _
  have B2' : Hid (Below w.heap.size w Y2) := by unfold Hid; rw [hY2]; exact B2.out.setCell (Nat.le_refl _) _ (p := ⟨_, 10, none⟩)
  have HZ2' : Hid (w.heap.size + 1 + 1 ≤ Y2.heap.size) := by unfold Hid; rw [hY2]; simpa using HZ2.out
  have P1' : Hid (OwnF Y2 (w.heap.size + 1 + 1) (.slice Bz m0 k0) (entR lg)) := by unfold Hid; rw [hY2]; exact P1.out.low (show w.heap.size < w.heap.size + 1 + 1 by omega)
  have P2' : Hid (Nums Y2 (w.heap.size + 1 + 1) (.slice By m1 k1) ys) := by unfold Hid; rw [hY2]; exact P2.out.low (show w.heap.size < w.heap.size + 1 + 1 by omega)
  clear KO2 KR2 B2 HZ2 P1 P2
  go_upto_region 3 with fail
  rw [← hY2]
  clear hY2 c10 f10
  have bz : Below Y2.heap.size Y2 (Y2.alloc (.cells #[] 3)) := (Below.refl _ _).alloc (Nat.le_refl _) _
  have oe := Owns.empty Y2 Y2.heap.size 3 1 (Nat.le_refl _)
  have li := (nums_owns (HN.out.on (B2'.out.trans (bz.mono B2'.out.size)))).lies
  have ll := (KO2'.out.alloc (.cells #[] 3)).cell 11 _ rfl
  have hln : ([] : List (List Value)).length + (numR ns).length ≤ 2097152 := by rw [numR_length]; have := HS.out.q; simp only [List.length_nil] at this ⊢; omega
  go_wp2_with (at_builtin; refine wpList_append_all rfl (.tmp 13) (.tmp 15) 23 3 (.int .i64 0) 1 8 rfl Try.underlying23 Try.infoInt rfl (by omega) Y2.heap.size _ _ [] (numR ns) (Y2.alloc (.cells #[] 3)).heap.size rfl oe li (num_one _) rfl hln (by omega) bz.size ?_; intro qv W3 hO' hb' hk' hw'; obtain ⟨Bn, m2, k2, rfl⟩ := hO'.shape; refine Shut.out ?_)
  rw [List.nil_append] at hO'
  have hb : Below Y2.heap.size Y2 W3 := bz.trans hb'
  have hO := owns_nums hO'
  clear hO' hb' hk' hw' bz oe li ll hln
  unfold Shut
  have B3 : Hid (Below w.heap.size w W3) := B2'.out.trans (hb.mono B2'.out.size)
  have KO3 : Hid (Blk W3 (w.heap.size) #[.int .i64 ci, .int .i64 cp, .int .i64 ct, .int .i64 cv, .int .i64 cr, .int .i64 cd, .int .i64 cb, .int .i64 cbt, .slice Bz m0 k0, .int .i64 cc, .slice By m1 k1, .slice A2 n2 c2, .slice A3 n3 c3] 30) := KO2'.out.on hb KO2'.out.lt
  have KR3 : Hid (Blk W3 (w.heap.size + 1) #[.int .i64 0, .int .i64 0, .int .i64 0, .int .i64 0, .int .i64 0, .int .i64 0, .int .i64 0, .int .i64 0, .slice none 0 0, .int .i64 0, .slice none 0 0, .slice none 0 0, .slice none 0 0] 30) := KR2'.out.on hb KR2'.out.lt
  have HZ3 : Hid (w.heap.size + 1 + 1 ≤ W3.heap.size) := Nat.le_trans HZ2'.out hb.size
  have P1 : Hid (OwnF W3 (w.heap.size + 1 + 1) (.slice Bz m0 k0) (entR lg)) := P1'.out.on hb
  have P2 : Hid (Nums W3 (w.heap.size + 1 + 1) (.slice By m1 k1) ys) := P2'.out.on hb
  have P3 : Hid (Nums W3 (w.heap.size + 1 + 1) (.slice Bn m2 k2) ns) := hO.mono HZ2'.out
  have AP12 : Hid (Apart (.slice By m1 k1) (.slice Bn m2 k2)) := P2'.out.apart hO (Nat.le_refl _)
  clear hO hb KO2' KR2' B2' HZ2' P1' P2'
  have c11 := KO3.out.cell 11 _ rfl
  have f11 := KO3.out.free 11
  obtain ⟨Y3, hY3⟩ : ∃ Y3, Y3 = W3.setCell ⟨w.heap.size, 11, none⟩ (.slice Bn m2 k2) := ⟨_, rfl⟩
  have KO3' : Hid (Blk Y3 (w.heap.size) #[.int .i64 ci, .int .i64 cp, .int .i64 ct, .int .i64 cv, .int .i64 cr, .int .i64 cd, .int .i64 cb, .int .i64 cbt, .slice Bz m0 k0, .int .i64 cc, .slice By m1 k1, .slice Bn m2 k2, .slice A3 n3 c3] 30) := by unfold Hid; rw [hY3]; exact KO3.out.set 11 _
  have KR3' : Hid (Blk Y3 (w.heap.size + 1) #[.int .i64 0, .int .i64 0, .int .i64 0, .int .i64 0, .int .i64 0, .int .i64 0, .int .i64 0, .int .i64 0, .slice none 0 0, .int .i64 0, .slice none 0 0, .slice none 0 0, .slice none 0 0] 30) := by unfold Hid; rw [hY3]; exact KR3.out.other (show w.heap.size + 1 ≠ w.heap.size by omega) 11 _
  have B3' : Hid (Below w.heap.size w Y3) := by unfold Hid; rw [hY3]; exact B3.out.setCell (Nat.le_refl _) _ (p := ⟨_, 11, none⟩)
  have HZ3' : Hid (w.heap.size + 1 + 1 ≤ Y3.heap.size) := by unfold Hid; rw [hY3]; simpa using HZ3.out
  have P1' : Hid (OwnF Y3 (w.heap.size + 1 + 1) (.slice Bz m0 k0) (entR lg)) := by unfold Hid; rw [hY3]; exact P1.out.low (show w.heap.size < w.heap.size + 1 + 1 by omega)
  have P2' : Hid (Nums Y3 (w.heap.size + 1 + 1) (.slice By m1 k1) ys) := by unfold Hid; rw [hY3]; exact P2.out.low (show w.heap.size < w.heap.size + 1 + 1 by omega)
  have P3' : Hid (Nums Y3 (w.heap.size + 1 + 1) (.slice Bn m2 k2) ns) := by unfold Hid; rw [hY3]; exact P3.out.low (show w.heap.size < w.heap.size + 1 + 1 by omega)
  clear KO3 KR3 B3 HZ3 P1 P2 P3
  go_upto_region 4 with fail
  rw [← hY3]
  clear hY3 c11 f11
  have bz : Below Y3.heap.size Y3 (Y3.alloc (.cells #[] 3)) := (Below.refl _ _).alloc (Nat.le_refl _) _
  have oe := Owns.empty Y3 Y3.heap.size 3 1 (Nat.le_refl _)
  have li := (nums_owns (HM.out.on (B3'.out.trans (bz.mono B3'.out.size)))).lies
  have ll := (KO3'.out.alloc (.cells #[] 3)).cell 12 _ rfl
  have hln : ([] : List (List Value)).length + (numR ms).length ≤ 2097152 := by rw [numR_length]; have := HS.out.m; simp only [List.length_nil] at this ⊢; omega
  go_wp2_with (at_builtin; refine wpList_append_all rfl (.tmp 18) (.tmp 20) 23 3 (.int .i64 0) 1 8 rfl Try.underlying23 Try.infoInt rfl (by omega) Y3.heap.size _ _ [] (numR ms) (Y3.alloc (.cells #[] 3)).heap.size rfl oe li (num_one _) rfl hln (by omega) bz.size ?_; intro qv W4 hO' hb' hk' hw'; obtain ⟨Bm, m3, k3, rfl⟩ := hO'.shape; refine Shut.out ?_)
  rw [List.nil_append] at hO'
  have hb : Below Y3.heap.size Y3 W4 := bz.trans hb'
  have hO := owns_nums hO'
  clear hO' hb' hk' hw' bz oe li ll hln
  unfold Shut
  have B4 : Hid (Below w.heap.size w W4) := B3'.out.trans (hb.mono B3'.out.size)
  have KO4 : Hid (Blk W4 (w.heap.size) #[.int .i64 ci, .int .i64 cp, .int .i64 ct, .int .i64 cv, .int .i64 cr, .int .i64 cd, .int .i64 cb, .int .i64 cbt, .slice Bz m0 k0, .int .i64 cc, .slice By m1 k1, .slice Bn m2 k2, .slice A3 n3 c3] 30) := KO3'.out.on hb KO3'.out.lt
  have KR4 : Hid (Blk W4 (w.heap.size + 1) #[.int .i64 0, .int .i64 0, .int .i64 0, .int .i64 0, .int .i64 0, .int .i64 0, .int .i64 0, .int .i64 0, .slice none 0 0, .int .i64 0, .slice none 0 0, .slice none 0 0, .slice none 0 0] 30) := KR3'.out.on hb KR3'.out.lt
  have HZ4 : Hid (w.heap.size + 1 + 1 ≤ W4.heap.size) := Nat.le_trans HZ3'.out hb.size
  have P1 : Hid (OwnF W4 (w.heap.size + 1 + 1) (.slice Bz m0 k0) (entR lg)) := P1'.out.on hb
  have P2 : Hid (Nums W4 (w.heap.size + 1 + 1) (.slice By m1 k1) ys) := P2'.out.on hb
  have P3 : Hid (Nums W4 (w.heap.size + 1 + 1) (.slice Bn m2 k2) ns) := P3'.out.on hb
  have P4 : Hid (Nums W4 (w.heap.size + 1 + 1) (.slice Bm m3 k3) ms) := hO.mono HZ3'.out
  have AP13 : Hid (Apart (.slice By m1 k1) (.slice Bm m3 k3)) := P2'.out.apart hO (Nat.le_refl _)
  have AP23 : Hid (Apart (.slice Bn m2 k2) (.slice Bm m3 k3)) := P3'.out.apart hO (Nat.le_refl _)
  clear hO hb KO3' KR3' B3' HZ3' P1' P2' P3'
  have c12 := KO4.out.cell 12 _ rfl
  have f12 := KO4.out.free 12
  obtain ⟨Y4, hY4⟩ : ∃ Y4, Y4 = W4.setCell ⟨w.heap.size, 12, none⟩ (.slice Bm m3 k3) := ⟨_, rfl⟩
  have KO4' : Hid (Blk Y4 (w.heap.size) #[.int .i64 ci, .int .i64 cp, .int .i64 ct, .int .i64 cv, .int .i64 cr, .int .i64 cd, .int .i64 cb, .int .i64 cbt, .slice Bz m0 k0, .int .i64 cc, .slice By m1 k1, .slice Bn m2 k2, .slice Bm m3 k3] 30) := by unfold Hid; rw [hY4]; exact KO4.out.set 12 _
  have KR4' : Hid (Blk Y4 (w.heap.size + 1) #[.int .i64 0, .int .i64 0, .int .i64 0, .int .i64 0, .int .i64 0, .int .i64 0, .int .i64 0, .int .i64 0, .slice none 0 0, .int .i64 0, .slice none 0 0, .slice none 0 0, .slice none 0 0] 30) := by unfold Hid; rw [hY4]; exact KR4.out.other (show w.heap.size + 1 ≠ w.heap.size by omega) 12 _
  have B4' : Hid (Below w.heap.size w Y4) := by unfold Hid; rw [hY4]; exact B4.out.setCell (Nat.le_refl _) _ (p := ⟨_, 12, none⟩)
  have HZ4' : Hid (w.heap.size + 1 + 1 ≤ Y4.heap.size) := by unfold Hid; rw [hY4]; simpa using HZ4.out
  have P1' : Hid (OwnF Y4 (w.heap.size + 1 + 1) (.slice Bz m0 k0) (entR lg)) := by unfold Hid; rw [hY4]; exact P1.out.low (show w.heap.size < w.heap.size + 1 + 1 by omega)
  have P2' : Hid (Nums Y4 (w.heap.size + 1 + 1) (.slice By m1 k1) ys) := by unfold Hid; rw [hY4]; exact P2.out.low (show w.heap.size < w.heap.size + 1 + 1 by omega)
  have P3' : Hid (Nums Y4 (w.heap.size + 1 + 1) (.slice Bn m2 k2) ns) := by unfold Hid; rw [hY4]; exact P3.out.low (show w.heap.size < w.heap.size + 1 + 1 by omega)
  have P4' : Hid (Nums Y4 (w.heap.size + 1 + 1) (.slice Bm m3 k3) ms) := by unfold Hid; rw [hY4]; exact P4.out.low (show w.heap.size < w.heap.size + 1 + 1 by omega)
  clear KO4 KR4 B4 HZ4 P1 P2 P3 P4
  go_upto_region 5 with fail
  rw [← hY4]
  clear hY4 c12 f12
  have RW : Hid (CoRows Y4 (w.heap.size + 1 + 1) ⟨ci, cp, ct, cv, cr, cd, cb, cbt, lg, cc, ys, ns, ms⟩ (.slice Bz m0 k0) (.slice By m1 k1) (.slice Bn m2 k2) (.slice Bm m3 k3)) := ⟨P1'.out, P2'.out, P3'.out, P4'.out, AP12.out, AP13.out, AP23.out⟩
  clear P1' P2' P3' P4' AP12 AP13 AP23 HZ4'
  have hgr : w.heap.size + 1 < w.heap.size + 1 + 1 := by omega
  have HW0 : Hid (w.heap.size ≤ w.heap.size + 1) := by unfold Hid; omega
  have HW1 : Hid (w.heap.size ≤ w.heap.size + 1 + 1) := by unfold Hid; omega
  have d0 := KO4'.out.cell 0 _ rfl
  have d1 := KO4'.out.cell 1 _ rfl
  have d2 := KO4'.out.cell 2 _ rfl
  have d3 := KO4'.out.cell 3 _ rfl
  have d4 := KO4'.out.cell 4 _ rfl
  have d5 := KO4'.out.cell 5 _ rfl
  have d6 := KO4'.out.cell 6 _ rfl
  have d7 := KO4'.out.cell 7 _ rfl
  have d8 := KO4'.out.cell 8 _ rfl
  have d9 := KO4'.out.cell 9 _ rfl
  have d10 := KO4'.out.cell 10 _ rfl
  have d11 := KO4'.out.cell 11 _ rfl
  have d12 := KO4'.out.cell 12 _ rfl
  obtain ⟨⟨r0, g0⟩, ⟨r1, g1⟩, ⟨r2, g2⟩, ⟨r3, g3⟩, ⟨r4, g4⟩, ⟨r5, g5⟩, ⟨r6, g6⟩, ⟨r7, g7⟩, ⟨r8, g8⟩, ⟨r9, g9⟩, ⟨r10, g10⟩, ⟨r11, g11⟩, ⟨r12, g12⟩, z0, z1, z2, z3, z4, z5, z6, z7, z8, z9, z10, z11, z12⟩ := resC13 (x0 := .int .i64 ci) (x1 := .int .i64 cp) (x2 := .int .i64 ct) (x3 := .int .i64 cv) (x4 := .int .i64 cr) (x5 := .int .i64 cd) (x6 := .int .i64 cb) (x7 := .int .i64 cbt) (x8 := .slice Bz m0 k0) (x9 := .int .i64 cc) (x10 := .slice By m1 k1) (x11 := .slice Bn m2 k2) (x12 := .slice Bm m3 k3) KR4'.out
  have FO := Hid.mk (rowsC13 RW.out hgr (.int .i64 ci) (.int .i64 cp) (.int .i64 ct) (.int .i64 cv) (.int .i64 cr) (.int .i64 cd) (.int .i64 cb) (.int .i64 cbt) (.slice Bz m0 k0) (.int .i64 cc) (.slice By m1 k1) (.slice Bn m2 k2) (.slice Bm m3 k3))
  have FB := Hid.mk (belowC13 B4'.out HW0.out (.int .i64 ci) (.int .i64 cp) (.int .i64 ct) (.int .i64 cv) (.int .i64 cr) (.int .i64 cd) (.int .i64 cb) (.int .i64 cbt) (.slice Bz m0 k0) (.int .i64 cc) (.slice By m1 k1) (.slice Bn m2 k2) (.slice Bm m3 k3))
  clear KO4' KR4' RW B4'
  go_wp2_with fail
  exact bodyPost_ret (v := .agg #[.int .i64 ci, .int .i64 cp, .int .i64 ct, .int .i64 cv, .int .i64 cr, .int .i64 cd, .int .i64 cb, .int .i64 cbt, .slice Bz m0 k0, .int .i64 cc, .slice By m1 k1, .slice Bn m2 k2, .slice Bm m3 k3]) (by simp [results, go_sem, z0, z1, z2, z3, z4, z5, z6, z7, z8, z9, z10, z11, z12]) rfl ⟨_, rfl, ⟨_, _, _, _, rfl, FO.out.mono HW1.out⟩, FB.out⟩
end Go.Proofs.Ytjejcpieajeflaa
