/- CoCpS CoKc CoAll CoBt CoBi CoMk2 CoS0 CoTo -/
import Derived.Test.YtlhoonohpfpkbaaRows
import Derived.Test.YtlhoonohpfpkbaaQb3
import Derived.Test.YtlhoonohpfpkbaaQb1
import Derived.Deep.Cut
import Derived.Handy
import Derived.Test.YtlhoonohpfpkbaaQb5
import Derived.Test.YtlhoonohpfpkbaaQb4
import Derived.Test.YtlhoonohpfpkbaaQb2
import Derived.Deep.CutRange
open List (setIfInBounds_toArray set_cons_zero set_cons_succ)
namespace Go.Proofs.Ytlhoonohpfpkbaa
open Go.ChangeShapes Go.WideShapes Go.ChangeAt Go.RowKit Go.PlainAid
set_option linter.unusedVariables false
def numR (l : List Int) : List (List Value) := l.map fun z => [.int .i64 z]
theorem numR_length (l : List Int) : (numR l).length = l.length := by simp [numR]
theorem numR_flat (l : List Int) : (numR l).flatten = numCells l := by
 induction l with
 | nil => rfl
 | cons x l ih =>
  simp only [numR, numCells, List.map_cons, List.flatten_cons, List.cons_append, List.nil_append] at ih ⊢
  rw [ih]
theorem owns_nums {w : World} {b : Nat} {v : Value} {l : List Int} (h : Owns w b 3 1 v (numR l)) : Nums w b v l := by
 have := h.2
 rw [numR_length, numR_flat] at this
 exact this
theorem nums_owns {w : World} {b : Nat} {v : Value} {l : List Int} (h : Nums w b v l) : Owns w b 3 1 v (numR l) := by
 refine ⟨fun r hr => ?_, ?_⟩
 ·obtain ⟨z, _, rfl⟩ := List.mem_map.1 hr
  rfl
 ·rw [numR_length, numR_flat]
  exact h
theorem num_one (l : List Int) : ∀ r ∈ numR l, ∀ y ∈ r, y.oneCell' = true := by
 intro r hr y hy
 obtain ⟨z, _, rfl⟩ := List.mem_map.1 hr
 simp only [List.mem_cons, List.not_mem_nil, or_false] at hy
 subst hy
 rfl
set_option maxRecDepth 20000 in
set_option maxHeartbeats 16000000 in
theorem copyCoS (ci cp ct cv cr cd cb cbt : Int) (lg : List Ent) (cc : Int) (ys ns ms : List Int) (u0 u1 u2 u3 : Value) (w : World) (B base : Nat) (hl : Lies w B 2 u0 (entR lg)) (hy : Nums w base u1 ys) (hn : Nums w base u2 ns) (hm : Nums w base u3 ms) (hs : ShortC ⟨ci, cp, ct, cv, cr, cd, cb, cbt, lg, cc, ys, ns, ms⟩) (hB : B ≤ w.heap.size) :
  Calls Try.prog 23 #[.agg #[.int .i64 ci, .int .i64 cp, .int .i64 ct, .int .i64 cv, .int .i64 cr, .int .i64 cd, .int .i64 cb, .int .i64 cbt, u0, .int .i64 cc, u1, u2, u3]] w fun e w' => ∃ u, e = .returned u ∧ CorO w' w.heap.size u ⟨ci, cp, ct, cv, cr, cd, cb, cbt, lg, cc, ys, ns, ms⟩ ∧ Below w.heap.size w w' := by
 have HBB : Hid (B ≤ w.heap.size) := hB
 have HL : Hid (Lies w B 2 u0 (entR lg)) := hl
 have HY : Hid (Nums w base u1 ys) := hy
 have HN : Hid (Nums w base u2 ns) := hn
 have HM : Hid (Nums w base u3 ms) := hm
 have HS : Hid (ShortC ⟨ci, cp, ct, cv, cr, cd, cb, cbt, lg, cc, ys, ns, ms⟩) := hs
 obtain ⟨A0, c0, rfl, _⟩ := ent_look hl
 obtain ⟨A1, c1, rfl, _⟩ := hy.shape
 obtain ⟨A2, c2, rfl, _⟩ := hn.shape
 obtain ⟨A3, c3, rfl, _⟩ := hm.shape
 clear hl hy hn hm hs hB
 generalize hg0 : lg.length = n0 at *
 generalize hg1 : ys.length = n1 at *
 generalize hg2 : ns.length = n2 at *
 generalize hg3 : ms.length = n3 at *
 clear hg0 hg1 hg2 hg3
 obtain ⟨W0, hW0⟩ : ∃ W0, W0 = (w.alloc (.cells #[.int .i64 ci, .int .i64 cp, .int .i64 ct, .int .i64 cv, .int .i64 cr, .int .i64 cd, .int .i64 cb, .int .i64 cbt, .slice A0 n0 c0, .int .i64 cc, .slice A1 n1 c1, .slice A2 n2 c2, .slice A3 n3 c3] 29)).alloc (.cells #[.int .i64 0, .int .i64 0, .int .i64 0, .int .i64 0, .int .i64 0, .int .i64 0, .int .i64 0, .int .i64 0, .slice none 0 0, .int .i64 0, .slice none 0 0, .slice none 0 0, .slice none 0 0] 29) := ⟨_, rfl⟩
 have B0 : Hid (Below w.heap.size w W0) := by unfold Hid; rw [hW0]; exact ((Below.refl _ w).alloc (Nat.le_refl _) _).alloc (by simp) _
 have KO0 : Hid (Blk W0 (w.heap.size) #[.int .i64 ci, .int .i64 cp, .int .i64 ct, .int .i64 cv, .int .i64 cr, .int .i64 cd, .int .i64 cb, .int .i64 cbt, .slice A0 n0 c0, .int .i64 cc, .slice A1 n1 c1, .slice A2 n2 c2, .slice A3 n3 c3] 29) := by unfold Hid; rw [hW0]; exact (Blk.new w _ _).alloc _
 have KR0 : Hid (Blk W0 (w.heap.size + 1) #[.int .i64 0, .int .i64 0, .int .i64 0, .int .i64 0, .int .i64 0, .int .i64 0, .int .i64 0, .int .i64 0, .slice none 0 0, .int .i64 0, .slice none 0 0, .slice none 0 0, .slice none 0 0] 29) := by unfold Hid; rw [hW0]; have := Blk.new (w.alloc (.cells #[.int .i64 ci, .int .i64 cp, .int .i64 ct, .int .i64 cv, .int .i64 cr, .int .i64 cd, .int .i64 cb, .int .i64 cbt, .slice A0 n0 c0, .int .i64 cc, .slice A1 n1 c1, .slice A2 n2 c2, .slice A3 n3 c3] 29)) #[.int .i64 0, .int .i64 0, .int .i64 0, .int .i64 0, .int .i64 0, .int .i64 0, .int .i64 0, .int .i64 0, .slice none 0 0, .int .i64 0, .slice none 0 0, .slice none 0 0, .slice none 0 0] 29; simp only [World.size_alloc] at this; exact this
 have HZ0 : Hid (w.heap.size + 1 + 1 ≤ W0.heap.size) := by unfold Hid; rw [hW0]; simp
 go_enter Try.func23, Try.ntmps23
 go_upto_region 1 with fail
 rw [← hW0]
 clear hW0
 have bz : Below W0.heap.size W0 (W0.alloc (.cells #[] 71)) := (Below.refl _ _).alloc (Nat.le_refl _) _
 have oe := Owns.empty W0 W0.heap.size 71 2 (Nat.le_refl _)
 have li := ((HL.out.on ((B0.out.trans (bz.mono B0.out.size)).mono HBB.out)).mono (Nat.le_trans HBB.out (B0.out.trans (bz.mono B0.out.size)).size))
 have ll := (KO0.out.alloc (.cells #[] 71)).cell 8 _ rfl
 have hln : ([] : List (List Value)).length + (entR lg).length ≤ 2097152 := by rw [entR_length]; have := HS.out.n; simp only [List.length_nil] at this ⊢; omega
 go_wp2_with (at_builtin; refine wpList_append_all rfl (.tmp 3) (.tmp 5) 27 71 (.agg #[.int .i64 0, .string ⟨#[]⟩]) 2 24 rfl Try.underlying27 Try.infoEnt rfl (by omega) W0.heap.size _ _ [] (entR lg) (W0.alloc (.cells #[] 71)).heap.size rfl oe li (ent_one _) rfl hln (by omega) bz.size ?_; intro qv W1 hO' hb' hk' hw'; obtain ⟨Bz, m0, k0, rfl⟩ := hO'.shape; refine Shut.out ?_)
 rw [List.nil_append] at hO'
 have hb : Below W0.heap.size W0 W1 := bz.trans hb'
 have hO := hO'
 clear hO' hb' hk' hw' bz oe li ll hln
 unfold Shut
 have B1 : Hid (Below w.heap.size w W1) := B0.out.trans (hb.mono B0.out.size)
 have KO1 : Hid (Blk W1 (w.heap.size) #[.int .i64 ci, .int .i64 cp, .int .i64 ct, .int .i64 cv, .int .i64 cr, .int .i64 cd, .int .i64 cb, .int .i64 cbt, .slice A0 n0 c0, .int .i64 cc, .slice A1 n1 c1, .slice A2 n2 c2, .slice A3 n3 c3] 29) := KO0.out.on hb KO0.out.lt
 have KR1 : Hid (Blk W1 (w.heap.size + 1) #[.int .i64 0, .int .i64 0, .int .i64 0, .int .i64 0, .int .i64 0, .int .i64 0, .int .i64 0, .int .i64 0, .slice none 0 0, .int .i64 0, .slice none 0 0, .slice none 0 0, .slice none 0 0] 29) := KR0.out.on hb KR0.out.lt
 have HZ1 : Hid (w.heap.size + 1 + 1 ≤ W1.heap.size) := Nat.le_trans HZ0.out hb.size
 have P1 : Hid (OwnF W1 (w.heap.size + 1 + 1) (.slice Bz m0 k0) (entR lg)) := (hO.mono HZ0.out).toF
 clear hO hb KO0 KR0 B0 HZ0 
 have c8 := KO1.out.cell 8 _ rfl
 have f8 := KO1.out.free 8
 obtain ⟨Y1, hY1⟩ : ∃ Y1, Y1 = W1.setCell ⟨w.heap.size, 8, none⟩ (.slice Bz m0 k0) := ⟨_, rfl⟩
 have KO1' : Hid (Blk Y1 (w.heap.size) #[.int .i64 ci, .int .i64 cp, .int .i64 ct, .int .i64 cv, .int .i64 cr, .int .i64 cd, .int .i64 cb, .int .i64 cbt, .slice Bz m0 k0, .int .i64 cc, .slice A1 n1 c1, .slice A2 n2 c2, .slice A3 n3 c3] 29) := by unfold Hid; rw [hY1]; exact KO1.out.set 8 _
 have KR1' : Hid (Blk Y1 (w.heap.size + 1) #[.int .i64 0, .int .i64 0, .int .i64 0, .int .i64 0, .int .i64 0, .int .i64 0, .int .i64 0, .int .i64 0, .slice none 0 0, .int .i64 0, .slice none 0 0, .slice none 0 0, .slice none 0 0] 29) := by unfold Hid; rw [hY1]; exact KR1.out.other (show w.heap.size + 1 ≠ w.heap.size by omega) 8 _
 have B1' : Hid (Below w.heap.size w Y1) := by unfold Hid; rw [hY1]; exact B1.out.setCell (Nat.le_refl _) _ (p := ⟨_, 8, none⟩)
 have HZ1' : Hid (w.heap.size + 1 + 1 ≤ Y1.heap.size) := by unfold Hid; rw [hY1]; simpa using HZ1.out
 have P1' : Hid (OwnF Y1 (w.heap.size + 1 + 1) (.slice Bz m0 k0) (entR lg)) := by unfold Hid; rw [hY1]; exact P1.out.low (show w.heap.size < w.heap.size + 1 + 1 by omega)
 clear KO1 KR1 B1 HZ1 P1
 go_upto_region 2 with fail
 rw [← hY1]
 clear hY1 c8 f8
 have bz : Below Y1.heap.size Y1 (Y1.alloc (.cells #[] 3)) := (Below.refl _ _).alloc (Nat.le_refl _) _
 have oe := Owns.empty Y1 Y1.heap.size 3 1 (Nat.le_refl _)
 have li := (nums_owns (HY.out.on (B1'.out.trans (bz.mono B1'.out.size)))).lies
 have ll := (KO1'.out.alloc (.cells #[] 3)).cell 10 _ rfl
 have hln : ([] : List (List Value)).length + (numR ys).length ≤ 2097152 := by rw [numR_length]; have := HS.out.y; simp only [List.length_nil] at this ⊢; omega
 go_wp2_with (at_builtin; refine wpList_append_all rfl (.tmp 8) (.tmp 10) 23 3 (.int .i64 0) 1 8 rfl Try.underlying23 Try.infoInt rfl (by omega) Y1.heap.size _ _ [] (numR ys) (Y1.alloc (.cells #[] 3)).heap.size rfl oe li (num_one _) rfl hln (by omega) bz.size ?_; intro qv W2 hO' hb' hk' hw'; obtain ⟨By, m1, k1, rfl⟩ := hO'.shape; refine Shut.out ?_)
 rw [List.nil_append] at hO'
 have hb : Below Y1.heap.size Y1 W2 := bz.trans hb'
 have hO := owns_nums hO'
 clear hO' hb' hk' hw' bz oe li ll hln
 unfold Shut
 have B2 : Hid (Below w.heap.size w W2) := B1'.out.trans (hb.mono B1'.out.size)
 have KO2 : Hid (Blk W2 (w.heap.size) #[.int .i64 ci, .int .i64 cp, .int .i64 ct, .int .i64 cv, .int .i64 cr, .int .i64 cd, .int .i64 cb, .int .i64 cbt, .slice Bz m0 k0, .int .i64 cc, .slice A1 n1 c1, .slice A2 n2 c2, .slice A3 n3 c3] 29) := KO1'.out.on hb KO1'.out.lt
 have KR2 : Hid (Blk W2 (w.heap.size + 1) #[.int .i64 0, .int .i64 0, .int .i64 0, .int .i64 0, .int .i64 0, .int .i64 0, .int .i64 0, .int .i64 0, .slice none 0 0, .int .i64 0, .slice none 0 0, .slice none 0 0, .slice none 0 0] 29) := KR1'.out.on hb KR1'.out.lt
 have HZ2 : Hid (w.heap.size + 1 + 1 ≤ W2.heap.size) := Nat.le_trans HZ1'.out hb.size
 have P1 : Hid (OwnF W2 (w.heap.size + 1 + 1) (.slice Bz m0 k0) (entR lg)) := P1'.out.on hb
 have P2 : Hid (Nums W2 (w.heap.size + 1 + 1) (.slice By m1 k1) ys) := hO.mono HZ1'.out
 clear hO hb KO1' KR1' B1' HZ1' P1'
 have c10 := KO2.out.cell 10 _ rfl
 have f10 := KO2.out.free 10
 obtain ⟨Y2, hY2⟩ : ∃ Y2, Y2 = W2.setCell ⟨w.heap.size, 10, none⟩ (.slice By m1 k1) := ⟨_, rfl⟩
 have KO2' : Hid (Blk Y2 (w.heap.size) #[.int .i64 ci, .int .i64 cp, .int .i64 ct, .int .i64 cv, .int .i64 cr, .int .i64 cd, .int .i64 cb, .int .i64 cbt, .slice Bz m0 k0, .int .i64 cc, .slice By m1 k1, .slice A2 n2 c2, .slice A3 n3 c3] 29) := by unfold Hid; rw [hY2]; exact KO2.out.set 10 _
 have KR2' : Hid (Blk Y2 (w.heap.size + 1) #[.int .i64 0, .int .i64 0, .int .i64 0, .int .i64 0, .int .i64 0, .int .i64 0, .int .i64 0, .int .i64 0, .slice none 0 0, .int .i64 0, .slice none 0 0, .slice none 0 0, .slice none 0 0] 29) := by unfold Hid; rw [hY2]; exact KR2.out.other (show w.heap.size + 1 ≠ w.heap.size by omega) 10 _
 have B2' : Hid (Below w.heap.size w Y2) := by unfold Hid; rw [hY2]; exact B2.out.setCell (Nat.le_refl _) _ (p := ⟨_, 10, none⟩)
 have HZ2' : Hid (w.heap.size + 1 + 1 ≤ Y2.heap.size) := by unfold Hid; rw [hY2]; simpa using HZ2.out
 have P1' : Hid (OwnF Y2 (w.heap.size + 1 + 1) (.slice Bz m0 k0) (entR lg)) := by unfold Hid; rw [hY2]; exact P1.out.low (show w.heap.size < w.heap.size + 1 + 1 by omega)
 have P2' : Hid (Nums Y2 (w.heap.size + 1 + 1) (.slice By m1 k1) ys) := by unfold Hid; rw [hY2]; exact P2.out.low (show w.heap.size < w.heap.size + 1 + 1 by omega)
 clear KO2 KR2 B2 HZ2 P1 P2
 go_upto_region 3 with fail
 rw [← hY2]
 clear hY2 c10 f10
 have bz : Below Y2.heap.size Y2 (Y2.alloc (.cells #[] 3)) := (Below.refl _ _).alloc (Nat.le_refl _) _
 have oe := Owns.empty Y2 Y2.heap.size 3 1 (Nat.le_refl _)
 have li := (nums_owns (HN.out.on (B2'.out.trans (bz.mono B2'.out.size)))).lies
 have ll := (KO2'.out.alloc (.cells #[] 3)).cell 11 _ rfl
 have hln : ([] : List (List Value)).length + (numR ns).length ≤ 2097152 := by rw [numR_length]; have := HS.out.q; simp only [List.length_nil] at this ⊢; omega
 go_wp2_with (at_builtin; refine wpList_append_all rfl (.tmp 13) (.tmp 15) 23 3 (.int .i64 0) 1 8 rfl Try.underlying23 Try.infoInt rfl (by omega) Y2.heap.size _ _ [] (numR ns) (Y2.alloc (.cells #[] 3)).heap.size rfl oe li (num_one _) rfl hln (by omega) bz.size ?_; intro qv W3 hO' hb' hk' hw'; obtain ⟨Bn, m2, k2, rfl⟩ := hO'.shape; refine Shut.out ?_)
 rw [List.nil_append] at hO'
 have hb : Below Y2.heap.size Y2 W3 := bz.trans hb'
 have hO := owns_nums hO'
 clear hO' hb' hk' hw' bz oe li ll hln
 unfold Shut
 have B3 : Hid (Below w.heap.size w W3) := B2'.out.trans (hb.mono B2'.out.size)
 have KO3 : Hid (Blk W3 (w.heap.size) #[.int .i64 ci, .int .i64 cp, .int .i64 ct, .int .i64 cv, .int .i64 cr, .int .i64 cd, .int .i64 cb, .int .i64 cbt, .slice Bz m0 k0, .int .i64 cc, .slice By m1 k1, .slice A2 n2 c2, .slice A3 n3 c3] 29) := KO2'.out.on hb KO2'.out.lt
 have KR3 : Hid (Blk W3 (w.heap.size + 1) #[.int .i64 0, .int .i64 0, .int .i64 0, .int .i64 0, .int .i64 0, .int .i64 0, .int .i64 0, .int .i64 0, .slice none 0 0, .int .i64 0, .slice none 0 0, .slice none 0 0, .slice none 0 0] 29) := KR2'.out.on hb KR2'.out.lt
 have HZ3 : Hid (w.heap.size + 1 + 1 ≤ W3.heap.size) := Nat.le_trans HZ2'.out hb.size
 have P1 : Hid (OwnF W3 (w.heap.size + 1 + 1) (.slice Bz m0 k0) (entR lg)) := P1'.out.on hb
 have P2 : Hid (Nums W3 (w.heap.size + 1 + 1) (.slice By m1 k1) ys) := P2'.out.on hb
 have P3 : Hid (Nums W3 (w.heap.size + 1 + 1) (.slice Bn m2 k2) ns) := hO.mono HZ2'.out
 have AP12 : Hid (Apart (.slice By m1 k1) (.slice Bn m2 k2)) := P2'.out.apart hO (Nat.le_refl _)
 clear hO hb KO2' KR2' B2' HZ2' P1' P2'
 have c11 := KO3.out.cell 11 _ rfl
 have f11 := KO3.out.free 11
 obtain ⟨Y3, hY3⟩ : ∃ Y3, Y3 = W3.setCell ⟨w.heap.size, 11, none⟩ (.slice Bn m2 k2) := ⟨_, rfl⟩
 have KO3' : Hid (Blk Y3 (w.heap.size) #[.int .i64 ci, .int .i64 cp, .int .i64 ct, .int .i64 cv, .int .i64 cr, .int .i64 cd, .int .i64 cb, .int .i64 cbt, .slice Bz m0 k0, .int .i64 cc, .slice By m1 k1, .slice Bn m2 k2, .slice A3 n3 c3] 29) := by unfold Hid; rw [hY3]; exact KO3.out.set 11 _
 have KR3' : Hid (Blk Y3 (w.heap.size + 1) #[.int .i64 0, .int .i64 0, .int .i64 0, .int .i64 0, .int .i64 0, .int .i64 0, .int .i64 0, .int .i64 0, .slice none 0 0, .int .i64 0, .slice none 0 0, .slice none 0 0, .slice none 0 0] 29) := by unfold Hid; rw [hY3]; exact KR3.out.other (show w.heap.size + 1 ≠ w.heap.size by omega) 11 _
 have B3' : Hid (Below w.heap.size w Y3) := by unfold Hid; rw [hY3]; exact B3.out.setCell (Nat.le_refl _) _ (p := ⟨_, 11, none⟩)
 have HZ3' : Hid (w.heap.size + 1 + 1 ≤ Y3.heap.size) := by unfold Hid; rw [hY3]; simpa using HZ3.out
 have P1' : Hid (OwnF Y3 (w.heap.size + 1 + 1) (.slice Bz m0 k0) (entR lg)) := by unfold Hid; rw [hY3]; exact P1.out.low (show w.heap.size < w.heap.size + 1 + 1 by omega)
 have P2' : Hid (Nums Y3 (w.heap.size + 1 + 1) (.slice By m1 k1) ys) := by unfold Hid; rw [hY3]; exact P2.out.low (show w.heap.size < w.heap.size + 1 + 1 by omega)
 have P3' : Hid (Nums Y3 (w.heap.size + 1 + 1) (.slice Bn m2 k2) ns) := by unfold Hid; rw [hY3]; exact P3.out.low (show w.heap.size < w.heap.size + 1 + 1 by omega)
 clear KO3 KR3 B3 HZ3 P1 P2 P3
 go_upto_region 4 with fail
 rw [← hY3]
 clear hY3 c11 f11
 have bz : Below Y3.heap.size Y3 (Y3.alloc (.cells #[] 3)) := (Below.refl _ _).alloc (Nat.le_refl _) _
 have oe := Owns.empty Y3 Y3.heap.size 3 1 (Nat.le_refl _)
 have li := (nums_owns (HM.out.on (B3'.out.trans (bz.mono B3'.out.size)))).lies
 have ll := (KO3'.out.alloc (.cells #[] 3)).cell 12 _ rfl
 have hln : ([] : List (List Value)).length + (numR ms).length ≤ 2097152 := by rw [numR_length]; have := HS.out.m; simp only [List.length_nil] at this ⊢; omega
 go_wp2_with (at_builtin; refine wpList_append_all rfl (.tmp 18) (.tmp 20) 23 3 (.int .i64 0) 1 8 rfl Try.underlying23 Try.infoInt rfl (by omega) Y3.heap.size _ _ [] (numR ms) (Y3.alloc (.cells #[] 3)).heap.size rfl oe li (num_one _) rfl hln (by omega) bz.size ?_; intro qv W4 hO' hb' hk' hw'; obtain ⟨Bm, m3, k3, rfl⟩ := hO'.shape; refine Shut.out ?_)
 rw [List.nil_append] at hO'
 have hb : Below Y3.heap.size Y3 W4 := bz.trans hb'
 have hO := owns_nums hO'
 clear hO' hb' hk' hw' bz oe li ll hln
 unfold Shut
 have B4 : Hid (Below w.heap.size w W4) := B3'.out.trans (hb.mono B3'.out.size)
 have KO4 : Hid (Blk W4 (w.heap.size) #[.int .i64 ci, .int .i64 cp, .int .i64 ct, .int .i64 cv, .int .i64 cr, .int .i64 cd, .int .i64 cb, .int .i64 cbt, .slice Bz m0 k0, .int .i64 cc, .slice By m1 k1, .slice Bn m2 k2, .slice A3 n3 c3] 29) := KO3'.out.on hb KO3'.out.lt
 have KR4 : Hid (Blk W4 (w.heap.size + 1) #[.int .i64 0, .int .i64 0, .int .i64 0, .int .i64 0, .int .i64 0, .int .i64 0, .int .i64 0, .int .i64 0, .slice none 0 0, .int .i64 0, .slice none 0 0, .slice none 0 0, .slice none 0 0] 29) := KR3'.out.on hb KR3'.out.lt
 have HZ4 : Hid (w.heap.size + 1 + 1 ≤ W4.heap.size) := Nat.le_trans HZ3'.out hb.size
 have P1 : Hid (OwnF W4 (w.heap.size + 1 + 1) (.slice Bz m0 k0) (entR lg)) := P1'.out.on hb
 have P2 : Hid (Nums W4 (w.heap.size + 1 + 1) (.slice By m1 k1) ys) := P2'.out.on hb
 have P3 : Hid (Nums W4 (w.heap.size + 1 + 1) (.slice Bn m2 k2) ns) := P3'.out.on hb
 have P4 : Hid (Nums W4 (w.heap.size + 1 + 1) (.slice Bm m3 k3) ms) := hO.mono HZ3'.out
 have AP13 : Hid (Apart (.slice By m1 k1) (.slice Bm m3 k3)) := P2'.out.apart hO (Nat.le_refl _)
 have AP23 : Hid (Apart (.slice Bn m2 k2) (.slice Bm m3 k3)) := P3'.out.apart hO (Nat.le_refl _)
 clear hO hb KO3' KR3' B3' HZ3' P1' P2' P3'
 have c12 := KO4.out.cell 12 _ rfl
 have f12 := KO4.out.free 12
 obtain ⟨Y4, hY4⟩ : ∃ Y4, Y4 = W4.setCell ⟨w.heap.size, 12, none⟩ (.slice Bm m3 k3) := ⟨_, rfl⟩
 have KO4' : Hid (Blk Y4 (w.heap.size) #[.int .i64 ci, .int .i64 cp, .int .i64 ct, .int .i64 cv, .int .i64 cr, .int .i64 cd, .int .i64 cb, .int .i64 cbt, .slice Bz m0 k0, .int .i64 cc, .slice By m1 k1, .slice Bn m2 k2, .slice Bm m3 k3] 29) := by unfold Hid; rw [hY4]; exact KO4.out.set 12 _
 have KR4' : Hid (Blk Y4 (w.heap.size + 1) #[.int .i64 0, .int .i64 0, .int .i64 0, .int .i64 0, .int .i64 0, .int .i64 0, .int .i64 0, .int .i64 0, .slice none 0 0, .int .i64 0, .slice none 0 0, .slice none 0 0, .slice none 0 0] 29) := by unfold Hid; rw [hY4]; exact KR4.out.other (show w.heap.size + 1 ≠ w.heap.size by omega) 12 _
 have B4' : Hid (Below w.heap.size w Y4) := by unfold Hid; rw [hY4]; exact B4.out.setCell (Nat.le_refl _) _ (p := ⟨_, 12, none⟩)
 have HZ4' : Hid (w.heap.size + 1 + 1 ≤ Y4.heap.size) := by unfold Hid; rw [hY4]; simpa using HZ4.out
 have P1' : Hid (OwnF Y4 (w.heap.size + 1 + 1) (.slice Bz m0 k0) (entR lg)) := by unfold Hid; rw [hY4]; exact P1.out.low (show w.heap.size < w.heap.size + 1 + 1 by omega)
 have P2' : Hid (Nums Y4 (w.heap.size + 1 + 1) (.slice By m1 k1) ys) := by unfold Hid; rw [hY4]; exact P2.out.low (show w.heap.size < w.heap.size + 1 + 1 by omega)
 have P3' : Hid (Nums Y4 (w.heap.size + 1 + 1) (.slice Bn m2 k2) ns) := by unfold Hid; rw [hY4]; exact P3.out.low (show w.heap.size < w.heap.size + 1 + 1 by omega)
 have P4' : Hid (Nums Y4 (w.heap.size + 1 + 1) (.slice Bm m3 k3) ms) := by unfold Hid; rw [hY4]; exact P4.out.low (show w.heap.size < w.heap.size + 1 + 1 by omega)
 clear KO4 KR4 B4 HZ4 P1 P2 P3 P4
 go_upto_region 5 with fail
 rw [← hY4]
 clear hY4 c12 f12
 have RW : Hid (CoRows Y4 (w.heap.size + 1 + 1) ⟨ci, cp, ct, cv, cr, cd, cb, cbt, lg, cc, ys, ns, ms⟩ (.slice Bz m0 k0) (.slice By m1 k1) (.slice Bn m2 k2) (.slice Bm m3 k3)) := ⟨P1'.out, P2'.out, P3'.out, P4'.out, AP12.out, AP13.out, AP23.out⟩
 clear P1' P2' P3' P4' AP12 AP13 AP23 HZ4'
 have hgr : w.heap.size + 1 < w.heap.size + 1 + 1 := by omega
 have HW0 : Hid (w.heap.size ≤ w.heap.size + 1) := by unfold Hid; omega
 have HW1 : Hid (w.heap.size ≤ w.heap.size + 1 + 1) := by unfold Hid; omega
 have d0 := KO4'.out.cell 0 _ rfl
 have d1 := KO4'.out.cell 1 _ rfl
 have d2 := KO4'.out.cell 2 _ rfl
 have d3 := KO4'.out.cell 3 _ rfl
 have d4 := KO4'.out.cell 4 _ rfl
 have d5 := KO4'.out.cell 5 _ rfl
 have d6 := KO4'.out.cell 6 _ rfl
 have d7 := KO4'.out.cell 7 _ rfl
 have d8 := KO4'.out.cell 8 _ rfl
 have d9 := KO4'.out.cell 9 _ rfl
 have d10 := KO4'.out.cell 10 _ rfl
 have d11 := KO4'.out.cell 11 _ rfl
 have d12 := KO4'.out.cell 12 _ rfl
 obtain ⟨⟨r0, g0⟩, ⟨r1, g1⟩, ⟨r2, g2⟩, ⟨r3, g3⟩, ⟨r4, g4⟩, ⟨r5, g5⟩, ⟨r6, g6⟩, ⟨r7, g7⟩, ⟨r8, g8⟩, ⟨r9, g9⟩, ⟨r10, g10⟩, ⟨r11, g11⟩, ⟨r12, g12⟩, z0, z1, z2, z3, z4, z5, z6, z7, z8, z9, z10, z11, z12⟩ := resC13 (x0 := .int .i64 ci) (x1 := .int .i64 cp) (x2 := .int .i64 ct) (x3 := .int .i64 cv) (x4 := .int .i64 cr) (x5 := .int .i64 cd) (x6 := .int .i64 cb) (x7 := .int .i64 cbt) (x8 := .slice Bz m0 k0) (x9 := .int .i64 cc) (x10 := .slice By m1 k1) (x11 := .slice Bn m2 k2) (x12 := .slice Bm m3 k3) KR4'.out
 have FO := Hid.mk (rowsC13 RW.out hgr (.int .i64 ci) (.int .i64 cp) (.int .i64 ct) (.int .i64 cv) (.int .i64 cr) (.int .i64 cd) (.int .i64 cb) (.int .i64 cbt) (.slice Bz m0 k0) (.int .i64 cc) (.slice By m1 k1) (.slice Bn m2 k2) (.slice Bm m3 k3))
 have FB := Hid.mk (belowC13 B4'.out HW0.out (.int .i64 ci) (.int .i64 cp) (.int .i64 ct) (.int .i64 cv) (.int .i64 cr) (.int .i64 cd) (.int .i64 cb) (.int .i64 cbt) (.slice Bz m0 k0) (.int .i64 cc) (.slice By m1 k1) (.slice Bn m2 k2) (.slice Bm m3 k3))
 clear KO4' KR4' RW B4'
 go_wp2_with fail
 exact bodyPost_ret (v := .agg #[.int .i64 ci, .int .i64 cp, .int .i64 ct, .int .i64 cv, .int .i64 cr, .int .i64 cd, .int .i64 cb, .int .i64 cbt, .slice Bz m0 k0, .int .i64 cc, .slice By m1 k1, .slice Bn m2 k2, .slice Bm m3 k3]) (by simp [results, go_sem, z0, z1, z2, z3, z4, z5, z6, z7, z8, z9, z10, z11, z12]) rfl ⟨_, rfl, ⟨_, _, _, _, rfl, FO.out.mono HW1.out⟩, FB.out⟩
end Go.Proofs.Ytlhoonohpfpkbaa
namespace Go.Proofs.Ytlhoonohpfpkbaa
open Go.ChangeShapes Go.WideShapes Go.ChangeAt Go.RowKit Go.PlainAid
set_option linter.unusedVariables false
theorem Spk.low {w : World} {bs g j p : Nat} {v : Value} {x : Cor} {M : List Mg} (h : Spk w bs p x M) (hl : g < bs) : Spk (w.setCell ⟨g, j, none⟩ v) bs p x M := by
 obtain ⟨ul, uy, un, um, us, L, h, e⟩ := h
 exact ⟨ul, uy, un, um, us, L, ⟨h.b.other (by have := h.p; omega) j v, h.r.low hl, h.m.low hl, h.a, h.p⟩, e⟩
end Go.Proofs.Ytlhoonohpfpkbaa
namespace Go.Proofs.Ytlhoonohpfpkbaa
open Go.ChangeShapes Go.WideShapes Go.ChangeAt Go.RowKit Go.PlainAid
set_option linter.unusedVariables false
def toAll (x : Cor) : List Mg := (othL x.id x.peers.toNat).map (sendM x)
theorem take_snocI (l : List Int) (k : Nat) (h : k < l.length) (f : Int → Mg) : (l.take (k + 1)).map f = (l.take k).map f ++ [f (l.getD k 0)] := by
 rw [take_num l k h, List.map_append]
 rfl
set_option maxRecDepth 20000 in
set_option maxHeartbeats 8000000 in
theorem sendAI (ci cp ct cv cr cd cb cbt : Int) (lg : List Ent) (cc : Int) (ys ns ms : List Int) (M : List Mg) (w : World) (base p : Nat) (hsp : Spk w base p ⟨ci, cp, ct, cv, cr, cd, cb, cbt, lg, cc, ys, ns, ms⟩ M) (hs : ShortC ⟨ci, cp, ct, cv, cr, cd, cb, cbt, lg, cc, ys, ns, ms⟩) (h0 : 0 ≤ cb) (h1 : cb ≤ 100000) (hln : lg.length ≤ 60) (hp0 : 1 ≤ cp) (hp5 : cp ≤ 5) (hnl : (ns.length : Int) = cp) (hnx : ∀ j, j < ns.length → 1 ≤ ns.getD j 0 ∧ ns.getD j 0 ≤ cb + (lg.length : Int) + 1) (hM : M.length ≤ 100) (hbs : base ≤ w.heap.size) :
  Calls Try.prog 63 #[.pointer (some ⟨p, 0, none⟩)] w fun e w' => e = .returned (.tuple #[]) ∧ Spk w' base p ⟨ci, cp, ct, cv, cr, cd, cb, cbt, lg, cc, ys, ns, ms⟩ (M ++ toAll ⟨ci, cp, ct, cv, cr, cd, cb, cbt, lg, cc, ys, ns, ms⟩) ∧ Below base w w' := by
 have HSp := Hid.mk hsp
 have HBS : Hid (base ≤ w.heap.size) := hbs
 obtain ⟨n, hn⟩ : ∃ n : Nat, cp = (n : Int) := ⟨cp.toNat, by omega⟩
 subst hn
 have HTA : Hid (toAll ⟨ci, (n : Int), ct, cv, cr, cd, cb, cbt, lg, cc, ys, ns, ms⟩ = (othL ci n).map (sendM ⟨ci, (n : Int), ct, cv, cr, cd, cb, cbt, lg, cc, ys, ns, ms⟩)) := by unfold Hid toAll; simp only [Int.toNat_natCast]
 have HIn : Hid (∀ k, k < (othL ci n).length → ∃ j : Nat, (othL ci n).getD k 0 = (j : Int) ∧ j < ns.length) := fun k hk => by
  have hm : (othL ci n).getD k 0 ∈ othL ci n := by rw [List.getD_eq_getElem?_getD, List.getElem?_eq_getElem hk]; exact List.getElem_mem hk
  have := othL_in ci n _ hm
  exact ⟨((othL ci n).getD k 0).toNat, by omega, by omega⟩
 have HL5 : Hid ((othL ci n).length ≤ 5) := by have := othL_len ci n; unfold Hid; omega
 have cE := fun Mx (t : Nat) wx h ht (hMx : Mx.length ≤ 500) hb => sendEI ci (n : Int) ct cv cr cd cb cbt lg cc ys ns ms Mx t wx base p h hs h0 h1 hln ht (hnx t ht).1 (hnx t ht).2 hMx hb
 have HMl : Hid (M.length ≤ 100) := hM
 have HTk : Hid (∀ k, k < (othL ci n).length → ((othL ci n).take (k + 1)).map (sendM ⟨ci, (n : Int), ct, cv, cr, cd, cb, cbt, lg, cc, ys, ns, ms⟩) = ((othL ci n).take k).map (sendM ⟨ci, (n : Int), ct, cv, cr, cd, cb, cbt, lg, cc, ys, ns, ms⟩) ++ [sendM ⟨ci, (n : Int), ct, cv, cr, cd, cb, cbt, lg, cc, ys, ns, ms⟩ ((othL ci n).getD k 0)]) := fun k hk => take_snocI _ k hk _
 have HTA2 : Hid ((othL ci n).take (othL ci n).length = othL ci n) := List.take_length
 obtain ⟨ul, uy, un, um, us, L, hso, hLM⟩ := hsp
 obtain ⟨A0, An0, Ac0, A1, An1, Ac1, A2, An2, Ac2, A3, An3, Ac3, A4, An4, Ac4, rfl, rfl, rfl, rfl, rfl⟩ := hso.shape
 have KP : Hid (Blk w p #[.int .i64 ci, .int .i64 (n : Int), .int .i64 ct, .int .i64 cv, .int .i64 cr, .int .i64 cd, .int .i64 cb, .int .i64 cbt, .slice A0 An0 Ac0, .int .i64 cc, .slice A1 An1 Ac1, .slice A2 An2 Ac2, .slice A3 An3 Ac3, .slice A4 An4 Ac4] 74) := hso.b
 have cO := fun wx => othersI ci ct cv cr cd cb cbt cc n (.slice A0 An0 Ac0) (.slice A1 An1 Ac1) (.slice A2 An2 Ac2) (.slice A3 An3 Ac3) wx (by omega)
 obtain ⟨k0, k1, k2, k3, k4, k5, k6, k7, k8, k9, k10, k11, k12, k13⟩ := cells14 KP.out
 clear hso hLM hnl hnx hbs hM hs
 go_enter Try.func63, Try.ntmps63
 go_wp2_with fail
 refine (cO w).mono ?_
 rintro e w1 ⟨⟨u, rfl, hN⟩, hb1⟩
 obtain ⟨Ao, co, rfl, _, _⟩ := hN.shape
 have NN := Hid.mk hN
 have V1 := Hid.mk hb1
 have SP1 := Hid.mk (HSp.out.on hb1)
 clear hN hb1 cO k0 k1 k2 k3 k4 k5 k6 k7 k8 k9 k10 k11 k12 k13 KP
 generalize hol : othL ci n = ol at *
 clear hol
 have HNl : Hid (Nums w1 w.heap.size (.slice Ao ol.length co) ol) := NN.out
 generalize hon : ol.length = on at *
 clear NN
 have hon5 : on ≤ 5 := HL5.out
 go_wp2_with fail
 go_loopw [3, 10] (fun v3 v10 wr => ∃ k : Nat, k ≤ on ∧ v10 = .int .i64 (k : Int) ∧ Spk wr base p ⟨ci, (n : Int), ct, cv, cr, cd, cb, cbt, lg, cc, ys, ns, ms⟩ (M ++ (ol.take k).map (sendM ⟨ci, (n : Int), ct, cv, cr, cd, cb, cbt, lg, cc, ys, ns, ms⟩)) ∧ Below base w wr ∧ KeepI w1 wr) (fun _ v _ => on - (intOf v).toNat)
 case atStart => exact ⟨0, by omega, rfl, by simpa using SP1.out, V1.out.mono HBS.out, fun _ _ _ _ => rfl⟩
 case round =>
  obtain ⟨k, hk, rfl, hS, hB, hK⟩ := hrel
  have SR := Hid.mk hS
  have BR := Hid.mk hB
  have KR := Hid.mk hK
  clear hS hB hK
  by_cases hlt : k < on
  ·have q2 : (k : Int) < (on : Int) := by omega
   have hNr := HNl.out.keepI KR.out
   have hNr2 : Nums wr w.heap.size (.slice Ao on co) ol := hNr
   obtain ⟨go, hge, _, _⟩ := hNr2.block (by omega)
   subst hge
   have d0 := hNr2.cell k (by omega)
   obtain ⟨j, hj, hjn⟩ := HIn.out k (by omega)
   have HT := Hid.mk (HTk.out k (by omega))
   rw [hj] at d0
   have HJ : Hid (ol.getD k 0 = (j : Int)) := hj
   have hml : (M ++ (ol.take k).map (sendM ⟨ci, (n : Int), ct, cv, cr, cd, cb, cbt, lg, cc, ys, ns, ms⟩)).length ≤ 500 := by
    rw [List.length_append, List.length_map, List.length_take]
    have := HMl.out
    have := HL5.out
    omega
   have c1 := cE _ j wr SR.out hjn hml (Nat.le_trans HBS.out BR.out.size)
   clear hNr hNr2 hj hml
   go_wp2_with fail
   refine c1.mono ?_
   rintro e w3 ⟨rfl, hS, hb, hki⟩
   have SF : Hid (Spk w3 base p ⟨ci, (n : Int), ct, cv, cr, cd, cb, cbt, lg, cc, ys, ns, ms⟩ (M ++ (ol.take (k + 1)).map (sendM ⟨ci, (n : Int), ct, cv, cr, cd, cb, cbt, lg, cc, ys, ns, ms⟩))) := by unfold Hid; rw [HT.out, HJ.out, ← List.append_assoc]; exact hS
   have BF : Hid (Below base w w3) := BR.out.trans hb
   have KF := Hid.mk (KR.out.trans hki)
   clear hS hb hki c1
   go_wp2_with fail
   go_roundw
   case rel => exact ⟨k + 1, by omega, by go_num, SF.out, BF.out, KF.out⟩
   case measure => simp [intOf]; omega
  ·obtain rfl : k = on := by omega
   have SF : Hid (Spk wr base p ⟨ci, (n : Int), ct, cv, cr, cd, cb, cbt, lg, cc, ys, ns, ms⟩ (M ++ toAll ⟨ci, (n : Int), ct, cv, cr, cd, cb, cbt, lg, cc, ys, ns, ms⟩)) := by
    unfold Hid
    rw [HTA.out]
    have := SR.out
    rw [← hon, List.take_length] at this
    exact this
   clear hon
   go_wp2_with fail
   exact bodyPost_end (v := .tuple #[]) (by simp [results, go_sem]) rfl ⟨rfl, SF.out, BR.out⟩
end Go.Proofs.Ytlhoonohpfpkbaa
namespace Go.Proofs.Ytlhoonohpfpkbaa
open Go.ChangeShapes Go.WideShapes Go.ChangeAt Go.RowKit Go.PlainAid
set_option linter.unusedVariables false
def beatM (x : Cor) : List Mg := if x.role = 3 then toAll x else []
theorem beatM_yes {x : Cor} (h : x.role = 3) : beatM x = toAll x := if_pos h
theorem beatM_no {x : Cor} (h : ¬ x.role = 3) : beatM x = [] := if_neg h
theorem COk.lead {x : Cor} (h : COk x) (hr : x.role = 3) : RLead x := by
 rcases h.2 with ⟨e, _⟩ | ⟨e, _⟩ | ⟨_, q⟩
 ·omega
 ·omega
 ·exact q
set_option maxRecDepth 20000 in
set_option maxHeartbeats 8000000 in
theorem beatL (ci cp ct cv cr cd cb cbt : Int) (lg : List Ent) (cc : Int) (ys ns ms : List Int) (w : World) (base p : Nat) (hsp : Spk w base p ⟨ci, cp, ct, cv, cr, cd, cb, cbt, lg, cc, ys, ns, ms⟩ []) (hok : COk ⟨ci, cp, ct, cv, cr, cd, cb, cbt, lg, cc, ys, ns, ms⟩) (hs : ShortC ⟨ci, cp, ct, cv, cr, cd, cb, cbt, lg, cc, ys, ns, ms⟩) (hbs : base ≤ w.heap.size) :
  Calls Try.prog 41 (#[.pointer (some ⟨p, 0, none⟩)] ++ #[]) w fun e w' => e = .returned (.tuple #[]) ∧ Spk w' base p ⟨ci, cp, ct, cv, cr, cd, cb, cbt, lg, cc, ys, ns, ms⟩ (beatM ⟨ci, cp, ct, cv, cr, cd, cb, cbt, lg, cc, ys, ns, ms⟩) ∧ Below base w w' := by
 obtain ⟨w0, w1, w2, w3, w4, w5, w6⟩ := walOk_in hok.1.w
 have hcl := hok.1.c.2
 have hpp := hok.1.p
 simp only [corW] at w2 w3 w4 w5
 simp only at hpp
 have HSp := Hid.mk hsp
 have cB : Calls Try.prog 42 #[.pointer (some ⟨p, 0, none⟩)] w fun e w' => e = .returned (.tuple #[]) ∧ Spk w' base p ⟨ci, cp, ct, cv, cr, cd, cb, cbt, lg, cc, ys, ns, ms⟩ (beatM ⟨ci, cp, ct, cv, cr, cd, cb, cbt, lg, cc, ys, ns, ms⟩) ∧ Below base w w' := by
  obtain ⟨ul, uy, un, um, us, L, hso, hLM⟩ := hsp
  obtain ⟨A0, An0, Ac0, A1, An1, Ac1, A2, An2, Ac2, A3, An3, Ac3, A4, An4, Ac4, rfl, rfl, rfl, rfl, rfl⟩ := hso.shape
  have k4 := hso.b.cell 4 _ rfl
  by_cases hr : cr = 3
  ·have hl := hok.lead hr
   have hy := beatM_yes (x := ⟨ci, cp, ct, cv, cr, cd, cb, cbt, lg, cc, ys, ns, ms⟩) hr
   have e1 : (cr == 3) = true := beq_iff_eq.2 hr
   have c1 := sendAI ci cp ct cv cr cd cb cbt lg cc ys ns ms [] w base p HSp.out hs (by omega) (by omega) (by omega) hpp.1 hpp.2 hl.n (fun j hj => by
    have hm := hl.m
    have hn := hl.n
    simp only at hm hn
    have := hl.a j (by simp only; omega)
    unfold cLast at this
    simp only at this
    omega) (by simp) hbs
   rw [List.nil_append, ← hy] at c1
   clear hr hl hy hso hLM w0 w1 w2 w3 w4 w5 w6 hcl hpp hok hs
   go_enter Try.func42, Try.ntmps42
   go_wp2_with fail
   refine c1.mono ?_
   rintro e wz ⟨rfl, hS, hb⟩
   have FS := Hid.mk hS
   have FB := Hid.mk hb
   clear hS hb c1
   go_wp2_with fail
   exact bodyPost_end (v := .tuple #[]) (by simp [results, go_sem]) rfl ⟨rfl, FS.out, FB.out⟩
  ·have HE := Hid.mk (beatM_no (x := ⟨ci, cp, ct, cv, cr, cd, cb, cbt, lg, cc, ys, ns, ms⟩) hr)
   have e1 : (cr == 3) = false := beq_eq_false_iff_ne.2 hr
   clear hr hso hLM w0 w1 w2 w3 w4 w5 w6 hcl hpp hok hs
   go_enter Try.func42, Try.ntmps42
   go_wp2_with fail
   exact bodyPost_end (v := .tuple #[]) (by simp [results, go_sem]) rfl ⟨rfl, by rw [HE.out]; exact HSp.out, Below.refl _ _⟩
 clear hsp hok hs w0 w1 w2 w3 w4 w5 w6 hcl hpp
 show Calls Try.prog 41 #[.pointer (some ⟨p, 0, none⟩)] w _
 go_enter Try.func41, Try.ntmps41
 go_wp2_with fail
 refine cB.mono ?_
 rintro e wz ⟨rfl, hS, hb⟩
 have FS := Hid.mk hS
 have FB := Hid.mk hb
 clear hS hb cB
 go_wp2_with fail
 exact bodyPost_end (v := .tuple #[]) (by simp [results, go_sem]) rfl ⟨rfl, FS.out, FB.out⟩
end Go.Proofs.Ytlhoonohpfpkbaa
namespace Go.Proofs.Ytlhoonohpfpkbaa
open Go.ChangeShapes Go.WideShapes Go.ChangeAt Go.RowKit Go.PlainAid
set_option linter.unusedVariables false
def CoMs (w : World) (b : Nat) (u us : Value) (y : Cor) (M : List Mg) : Prop := ∃ ul uy un um L, u = vCo y ul uy un um ∧ CoRows w b y ul uy un um ∧ MsO w b us L ∧ L.map Prod.fst = M ∧ ∀ q ∈ L, ∀ k, q.2.ownBlock = some k → blkF ul ≠ some k
noncomputable def beatX (x : Cor) : Cor × List Mg := if corOk x = true then (x, beatM x) else (⟨0, 0, 0, 0, 0, 0, 0, 0, [], 0, [], [], []⟩, [])
theorem beatX_yes {x : Cor} (h : corOk x = true) : beatX x = (x, beatM x) := if_pos h
theorem beatX_no {x : Cor} (h : corOk x = false) : beatX x = (⟨0, 0, 0, 0, 0, 0, 0, 0, [], 0, [], [], []⟩, []) := by unfold beatX; rw [if_neg (by rw [h]; exact Bool.false_ne_true)]
theorem CoMs.zero (w : World) (b : Nat) : CoMs w b (vCo ⟨0, 0, 0, 0, 0, 0, 0, 0, [], 0, [], [], []⟩ (.slice none 0 0) (.slice none 0 0) (.slice none 0 0) (.slice none 0 0)) (.slice none 0 0) ⟨0, 0, 0, 0, 0, 0, 0, 0, [], 0, [], [], []⟩ [] := ⟨_, _, _, _, [], rfl, ⟨.inl ⟨rfl, none, 0, rfl, fun _ => rfl⟩, Nums.nil _ _, Nums.nil _ _, Nums.nil _ _, fun g h => (by cases h), fun g h => (by cases h), fun g h => (by cases h)⟩, MsO.nil _ _, rfl, fun q hq => (by cases hq)⟩
set_option maxRecDepth 20000 in
set_option maxHeartbeats 16000000 in
theorem implBeat (ci cp ct cv cr cd cb cbt : Int) (lg : List Ent) (cc : Int) (ys ns ms : List Int) (u0 u1 u2 u3 : Value) (w : World) (base0 : Nat) (hr : CoRows w base0 ⟨ci, cp, ct, cv, cr, cd, cb, cbt, lg, cc, ys, ns, ms⟩ u0 u1 u2 u3) (hs : ShortC ⟨ci, cp, ct, cv, cr, cd, cb, cbt, lg, cc, ys, ns, ms⟩) :
  Calls Try.prog 17 #[.agg #[.int .i64 ci, .int .i64 cp, .int .i64 ct, .int .i64 cv, .int .i64 cr, .int .i64 cd, .int .i64 cb, .int .i64 cbt, u0, .int .i64 cc, u1, u2, u3]] w fun e w' => (∃ u us, e = .returned (.tuple #[u, us]) ∧ CoMs w' w.heap.size u us (beatX ⟨ci, cp, ct, cv, cr, cd, cb, cbt, lg, cc, ys, ns, ms⟩).1 (beatX ⟨ci, cp, ct, cv, cr, cd, cb, cbt, lg, cc, ys, ns, ms⟩).2) ∧ Below w.heap.size w w' := by
 have HR : Hid (CoRows w base0 ⟨ci, cp, ct, cv, cr, cd, cb, cbt, lg, cc, ys, ns, ms⟩ u0 u1 u2 u3) := hr
 have HS : Hid (ShortC ⟨ci, cp, ct, cv, cr, cd, cb, cbt, lg, cc, ys, ns, ms⟩) := hs
 obtain ⟨A0, Ac0, A1, Ac1, A2, Ac2, A3, Ac3, rfl, rfl, rfl, rfl⟩ := hr.shape
 simp only at HR ⊢
 generalize lg.length = An0 at HR ⊢
 generalize ys.length = An1 at HR ⊢
 generalize ns.length = An2 at HR ⊢
 generalize ms.length = An3 at HR ⊢
 clear hr hs
 have HX0 : Hid (corOk ⟨ci, cp, ct, cv, cr, cd, cb, cbt, lg, cc, ys, ns, ms⟩ = false → beatX ⟨ci, cp, ct, cv, cr, cd, cb, cbt, lg, cc, ys, ns, ms⟩ = (⟨0, 0, 0, 0, 0, 0, 0, 0, [], 0, [], [], []⟩, [])) := beatX_no
 have HX1 : Hid (corOk ⟨ci, cp, ct, cv, cr, cd, cb, cbt, lg, cc, ys, ns, ms⟩ = true → beatX ⟨ci, cp, ct, cv, cr, cd, cb, cbt, lg, cc, ys, ns, ms⟩ = (⟨ci, cp, ct, cv, cr, cd, cb, cbt, lg, cc, ys, ns, ms⟩, beatM ⟨ci, cp, ct, cv, cr, cd, cb, cbt, lg, cc, ys, ns, ms⟩)) := beatX_yes
 obtain ⟨W0, hW0⟩ : ∃ W0, W0 = (w.alloc (.cells #[.int .i64 ci, .int .i64 cp, .int .i64 ct, .int .i64 cv, .int .i64 cr, .int .i64 cd, .int .i64 cb, .int .i64 cbt, .slice A0 An0 Ac0, .int .i64 cc, .slice A1 An1 Ac1, .slice A2 An2 Ac2, .slice A3 An3 Ac3] 29)).alloc (.cells #[.int .i64 0, .int .i64 0, .int .i64 0, .int .i64 0, .int .i64 0, .int .i64 0, .int .i64 0, .int .i64 0, .slice none 0 0, .int .i64 0, .slice none 0 0, .slice none 0 0, .slice none 0 0] 29) := ⟨_, rfl⟩
 have B0 : Hid (Below w.heap.size w W0) := by unfold Hid; rw [hW0]; exact ((Below.refl _ w).alloc (Nat.le_refl _) _).alloc (by simp) _
 have K0 : Hid (Blk W0 w.heap.size #[.int .i64 ci, .int .i64 cp, .int .i64 ct, .int .i64 cv, .int .i64 cr, .int .i64 cd, .int .i64 cb, .int .i64 cbt, .slice A0 An0 Ac0, .int .i64 cc, .slice A1 An1 Ac1, .slice A2 An2 Ac2, .slice A3 An3 Ac3] 29) := by unfold Hid; rw [hW0]; exact (Blk.new w _ _).alloc _
 have R0 : Hid (Blk W0 (w.heap.size + 1) #[.int .i64 0, .int .i64 0, .int .i64 0, .int .i64 0, .int .i64 0, .int .i64 0, .int .i64 0, .int .i64 0, .slice none 0 0, .int .i64 0, .slice none 0 0, .slice none 0 0, .slice none 0 0] 29) := by unfold Hid; rw [hW0]; have := Blk.new (w.alloc (.cells #[.int .i64 ci, .int .i64 cp, .int .i64 ct, .int .i64 cv, .int .i64 cr, .int .i64 cd, .int .i64 cb, .int .i64 cbt, .slice A0 An0 Ac0, .int .i64 cc, .slice A1 An1 Ac1, .slice A2 An2 Ac2, .slice A3 An3 Ac3] 29)) #[.int .i64 0, .int .i64 0, .int .i64 0, .int .i64 0, .int .i64 0, .int .i64 0, .int .i64 0, .int .i64 0, .slice none 0 0, .int .i64 0, .slice none 0 0, .slice none 0 0, .slice none 0 0] 29; simp only [World.size_alloc] at this; exact this
 have HZ0 : Hid (W0.heap.size = w.heap.size + 2) := by unfold Hid; rw [hW0]; simp
 have cA := coreAfterV ci cp ct cv cr cd cb cbt lg cc ys ns ms (.slice A0 An0 Ac0) (.slice A1 An1 Ac1) (.slice A2 An2 Ac2) (.slice A3 An3 Ac3) W0 base0 (HR.out.on B0.out) HS.out 41 #[] ⟨ci, cp, ct, cv, cr, cd, cb, cbt, lg, cc, ys, ns, ms⟩ (beatM ⟨ci, cp, ct, cv, cr, cd, cb, cbt, lg, cc, ys, ns, ms⟩) W0.heap.size (fun _ => True) (Nat.le_refl _) (enters_of Try.func41 (by kernel_rfl) rfl) (fun w1 p hok hb1 hz1 hsp => (beatL ci cp ct cv cr cd cb cbt lg cc ys ns ms w1 (W0.heap.size + 2) p hsp hok HS.out hz1).mono (fun e w2 h => ⟨h.1, h.2.1, BelowX.of h.2.2, trivial⟩))
 have y0 := K0.out.cell 0 _ rfl
 have y1 := K0.out.cell 1 _ rfl
 have y2 := K0.out.cell 2 _ rfl
 have y3 := K0.out.cell 3 _ rfl
 have y4 := K0.out.cell 4 _ rfl
 have y5 := K0.out.cell 5 _ rfl
 have y6 := K0.out.cell 6 _ rfl
 have y7 := K0.out.cell 7 _ rfl
 have y8 := K0.out.cell 8 _ rfl
 have y9 := K0.out.cell 9 _ rfl
 have y10 := K0.out.cell 10 _ rfl
 have y11 := K0.out.cell 11 _ rfl
 have y12 := K0.out.cell 12 _ rfl
 rw [hW0] at y0 y1 y2 y3 y4 y5 y6 y7 y8 y9 y10 y11 y12
 go_enter Try.func17, Try.ntmps17
 go_wp2_with fail
 rw [← hW0]
 clear hW0 y0 y1 y2 y3 y4 y5 y6 y7 y8 y9 y10 y11 y12
 refine cA.mono ?_
 rintro e W1 HQ
 have HQ1 : Hid (∃ (u us : Value) (R : Cor) (M : List Mg), e = .returned (.tuple #[u, us]) ∧ CoMs W1 W0.heap.size u us R M ∧ beatX ⟨ci, cp, ct, cv, cr, cd, cb, cbt, lg, cc, ys, ns, ms⟩ = (R, M) ∧ Below w.heap.size w W1 ∧ Blk W1 (w.heap.size + 1) #[.int .i64 0, .int .i64 0, .int .i64 0, .int .i64 0, .int .i64 0, .int .i64 0, .int .i64 0, .int .i64 0, .slice none 0 0, .int .i64 0, .slice none 0 0, .slice none 0 0, .slice none 0 0] 29) := by
  have hz := HZ0.out
  rcases HQ with ⟨h1, ⟨u, us, L, h2, ⟨ul, uy, un, um, rfl, h3⟩, h4, h5, h8⟩, h6, _⟩ | ⟨h1, h2, h6⟩
  ·have hb := h6.below (Nat.le_refl _)
   exact ⟨_, us, _, _, h2, ⟨ul, uy, un, um, L, rfl, h3, h4, h5, h8 ul uy un um rfl⟩, HX1.out h1, B0.out.trans (hb.mono (by omega)), R0.out.on hb (by omega)⟩
  ·exact ⟨_, _, _, _, h2, CoMs.zero _ _, HX0.out h1, B0.out.trans (h6.mono (by omega)), R0.out.on h6 (by omega)⟩
 clear HQ cA HX0 HX1 K0 R0 B0
 obtain ⟨u, us, R, M, rfl, hO, hE, hb1, hR1⟩ := HQ1.out
 clear HQ1
 obtain ⟨ul, uy, un, um, L, rfl, hO', hM, hLM, hAp⟩ := hO
 obtain ⟨G0, Gc0, G1, Gc1, G2, Gc2, G3, Gc3, rfl, rfl, rfl, rfl⟩ := hO'.shape
 obtain ⟨G4, Gn4, Gc4, rfl⟩ := hM.r.shape
 obtain ⟨e0, e1, e2, e3, e4, e5, e6, e7, el, e9, ey, en, em⟩ := R
 unfold vCo
 simp only at hO' hAp ⊢
 generalize el.length = Gn0 at *
 generalize ey.length = Gn1 at *
 generalize en.length = Gn2 at *
 generalize em.length = Gn3 at *
 have HE : Hid (beatX ⟨ci, cp, ct, cv, cr, cd, cb, cbt, lg, cc, ys, ns, ms⟩ = (⟨e0, e1, e2, e3, e4, e5, e6, e7, el, e9, ey, en, em⟩, M)) := hE
 have O1 : Hid (CoRows W1 (w.heap.size + 2) ⟨e0, e1, e2, e3, e4, e5, e6, e7, el, e9, ey, en, em⟩ (.slice G0 Gn0 Gc0) (.slice G1 Gn1 Gc1) (.slice G2 Gn2 Gc2) (.slice G3 Gn3 Gc3)) := by rw [HZ0.out] at hO'; exact hO'
 have M1 : Hid (MsO W1 (w.heap.size + 2) (.slice G4 Gn4 Gc4) L) := by rw [HZ0.out] at hM; exact hM
 have HLM : Hid (L.map Prod.fst = M) := hLM
 have HAp : Hid (∀ q ∈ L, ∀ k, q.2.ownBlock = some k → blkF (.slice G0 Gn0 Gc0) ≠ some k) := hAp
 have B1 : Hid (Below w.heap.size w W1) := hb1
 clear hO' hM hLM hAp hE hb1 HZ0
 obtain ⟨⟨r0, g0⟩, ⟨r1, g1⟩, ⟨r2, g2⟩, ⟨r3, g3⟩, ⟨r4, g4⟩, ⟨r5, g5⟩, ⟨r6, g6⟩, ⟨r7, g7⟩, ⟨r8, g8⟩, ⟨r9, g9⟩, ⟨r10, g10⟩, ⟨r11, g11⟩, ⟨r12, g12⟩, z0, z1, z2, z3, z4, z5, z6, z7, z8, z9, z10, z11, z12⟩ := resC13 (x0 := .int .i64 e0) (x1 := .int .i64 e1) (x2 := .int .i64 e2) (x3 := .int .i64 e3) (x4 := .int .i64 e4) (x5 := .int .i64 e5) (x6 := .int .i64 e6) (x7 := .int .i64 e7) (x8 := .slice G0 Gn0 Gc0) (x9 := .int .i64 e9) (x10 := .slice G1 Gn1 Gc1) (x11 := .slice G2 Gn2 Gc2) (x12 := .slice G3 Gn3 Gc3) hR1
 have FO := Hid.mk (rowsC13 O1.out (show w.heap.size + 1 < w.heap.size + 2 by omega) (.int .i64 e0) (.int .i64 e1) (.int .i64 e2) (.int .i64 e3) (.int .i64 e4) (.int .i64 e5) (.int .i64 e6) (.int .i64 e7) (.slice G0 Gn0 Gc0) (.int .i64 e9) (.slice G1 Gn1 Gc1) (.slice G2 Gn2 Gc2) (.slice G3 Gn3 Gc3))
 have FM := Hid.mk (rowsM13 M1.out (show w.heap.size + 1 < w.heap.size + 2 by omega) (.int .i64 e0) (.int .i64 e1) (.int .i64 e2) (.int .i64 e3) (.int .i64 e4) (.int .i64 e5) (.int .i64 e6) (.int .i64 e7) (.slice G0 Gn0 Gc0) (.int .i64 e9) (.slice G1 Gn1 Gc1) (.slice G2 Gn2 Gc2) (.slice G3 Gn3 Gc3))
 have FB := Hid.mk (belowC13 B1.out (show w.heap.size ≤ w.heap.size + 1 by omega) (.int .i64 e0) (.int .i64 e1) (.int .i64 e2) (.int .i64 e3) (.int .i64 e4) (.int .i64 e5) (.int .i64 e6) (.int .i64 e7) (.slice G0 Gn0 Gc0) (.int .i64 e9) (.slice G1 Gn1 Gc1) (.slice G2 Gn2 Gc2) (.slice G3 Gn3 Gc3))
 have HWW : Hid (w.heap.size ≤ w.heap.size + 2) := by unfold Hid; omega
 clear O1 M1 B1 hR1
 go_wp2_with fail
 exact bodyPost_ret (v := .tuple #[.agg #[.int .i64 e0, .int .i64 e1, .int .i64 e2, .int .i64 e3, .int .i64 e4, .int .i64 e5, .int .i64 e6, .int .i64 e7, .slice G0 Gn0 Gc0, .int .i64 e9, .slice G1 Gn1 Gc1, .slice G2 Gn2 Gc2, .slice G3 Gn3 Gc3], .slice G4 Gn4 Gc4]) (by simp [results, go_sem, z0, z1, z2, z3, z4, z5, z6, z7, z8, z9, z10, z11, z12]) rfl ⟨⟨_, _, rfl, by rw [HE.out]; exact ⟨_, _, _, _, L, rfl, FO.out.mono HWW.out, FM.out.mono HWW.out, HLM.out, HAp.out⟩⟩, FB.out⟩
end Go.Proofs.Ytlhoonohpfpkbaa
namespace Go.Proofs.Ytlhoonohpfpkbaa
open Go.ChangeShapes Go.WideShapes Go.ChangeAt Go.RowKit Go.PlainAid
set_option linter.unusedVariables false
theorem CoMs.sh {w : World} {b : Nat} {u us : Value} {y : Cor} {M : List Mg} (h : CoMs w b u us y M) : ∃ A0 n0 c0 A1 n1 c1 A2 n2 c2 A3 n3 c3 A4 n4 c4 L, u = vCo y (.slice A0 n0 c0) (.slice A1 n1 c1) (.slice A2 n2 c2) (.slice A3 n3 c3) ∧ us = .slice A4 n4 c4 ∧ CoRows w b y (.slice A0 n0 c0) (.slice A1 n1 c1) (.slice A2 n2 c2) (.slice A3 n3 c3) ∧ MsO w b (.slice A4 n4 c4) L ∧ L.map Prod.fst = M ∧ ∀ q ∈ L, ∀ k, q.2.ownBlock = some k → blkF (.slice A0 n0 c0) ≠ some k := by
 obtain ⟨ul, uy, un, um, L, rfl, hr, hm, e, ha⟩ := h
 obtain ⟨A0, c0, A1, c1, A2, c2, A3, c3, rfl, rfl, rfl, rfl⟩ := hr.shape
 obtain ⟨A4, n4, c4, rfl⟩ := hm.r.shape
 exact ⟨A0, _, c0, A1, _, c1, A2, _, c2, A3, _, c3, A4, n4, c4, L, rfl, rfl, hr, hm, e, ha⟩
theorem MsO.markC {w w' : World} {b : Nat} {y : Cor} {ul uy un um us : Value} {L : List (Mg × Value)} (h : MsO w b us L) (hr : CoRows w b y ul uy un um) (ha : ∀ q ∈ L, ∀ k, q.2.ownBlock = some k → blkF ul ≠ some k) (hk : ∀ g, g < w.heap.size → NotC ul uy un um g → w'.heap[g]? = w.heap[g]?) : MsO w' b us L := by
 refine ⟨h.r.kept fun g hg e => hk g hg ?_, fun q hq => (h.e q hq).kept fun g hg e => hk g hg ?_, h.a⟩
 ·obtain ⟨cs, fz, e1⟩ := h.r.kind e
  exact hr.notBlk e1 (by decide) (by decide)
 ·obtain ⟨cs, fz, e1⟩ := (h.e q hq).kind e
  exact ⟨ha q hq g e, hr.y.notBlk e1 (by decide), hr.n.notBlk e1 (by decide), hr.m.notBlk e1 (by decide)⟩
theorem CoMks.markM {w w' : World} {b b' : Nat} {y : Cor} {ul uy un um us : Value} {L : List (Mg × Value)} (h : CoMks w b y ul uy un um) (hm : MsO w b' us L) (ha : ∀ q ∈ L, ∀ k, q.2.ownBlock = some k → blkF ul ≠ some k) (hk : ∀ g, g < w.heap.size → us.ownBlock ≠ some g → (∀ q ∈ L, q.2.ownBlock ≠ some g) → w'.heap[g]? = w.heap[g]?) : CoMks w' b y ul uy un um := by
 have hn : ∀ (v : Value) (l : List Int), Nums w b v l → Nums w' b v l := fun v l hv => hv.kept fun g hg e => by
  obtain ⟨cs, fz, e1⟩ := hv.kind e
  exact hk g hg (hm.r.notBlk e1 (by decide)) fun q hq => (hm.e q hq).notBlk e1 (by decide)
 refine ⟨h.l.kept fun g hg e => ?_, hn _ _ h.y, hn _ _ h.n, hn _ _ h.m⟩
 obtain ⟨cs, fz, e1⟩ := h.l.ents e
 exact hk g hg (hm.r.notBlk e1 (by decide)) fun q hq e2 => ha q hq g e2 e
theorem MsO.viewM {w : World} {base : Nat} {v : Value} {L : List (Mg × Value)} {M : List Mg} (h : MsO w base v L) (e : L.map Prod.fst = M) : MsV w w.heap.size v M := e ▸ h.view
theorem MsO.notOf {w : World} {base g : Nat} {v : Value} {L : List (Mg × Value)} {cs : Array Value} {t : TypeId} {fz : Nat × Nat} (h : MsO w base v L) (hB : w.heap[g]? = some (.cells cs t fz)) (h1 : t ≠ 48) (h2 : t ≠ 71) : v.ownBlock ≠ some g ∧ ∀ q ∈ L, q.2.ownBlock ≠ some g := ⟨h.r.notBlk hB h1, fun q hq => (h.e q hq).notBlk hB h2⟩
end Go.Proofs.Ytlhoonohpfpkbaa
namespace Go.Proofs.Ytlhoonohpfpkbaa
open Go.ChangeShapes Go.WideShapes Go.ChangeAt Go.RowKit Go.PlainAid
set_option linter.unusedVariables false
theorem inIt_mk {x lo hi : Int} (h1 : lo ≤ x) (h2 : x ≤ hi) : inIt x lo hi = true := by unfold inIt; rw [decide_eq_true h1, decide_eq_true h2]; rfl
theorem Owns.lowM {X : World} {bs g j sz : Nat} {e : TypeId} {v u : Value} {r : List (List Value)} (h : Owns X bs e sz u r) (hl : g < bs) : Owns (X.setCell ⟨g, j, none⟩ v) bs e sz u r := h.other (h.below hl) j v
theorem resW5 {w : World} {g : Nat} {a0 a1 a2 a3 a4 x0 x1 x2 x3 x4 : Value} {t : TypeId} (h : Blk w g #[a0, a1, a2, a3, a4] t) :
  (w.cell? ⟨g, 0, none⟩ = some a0 ∧ w.frozen? ⟨g, 0, none⟩ = false) ∧ ((w.setCell ⟨g, 0, none⟩ x0).cell? ⟨g, 1, none⟩ = some a1 ∧ (w.setCell ⟨g, 0, none⟩ x0).frozen? ⟨g, 1, none⟩ = false) ∧ (((w.setCell ⟨g, 0, none⟩ x0).setCell ⟨g, 1, none⟩ x1).cell? ⟨g, 2, none⟩ = some a2 ∧ ((w.setCell ⟨g, 0, none⟩ x0).setCell ⟨g, 1, none⟩ x1).frozen? ⟨g, 2, none⟩ = false) ∧ ((((w.setCell ⟨g, 0, none⟩ x0).setCell ⟨g, 1, none⟩ x1).setCell ⟨g, 2, none⟩ x2).cell? ⟨g, 3, none⟩ = some a3 ∧ (((w.setCell ⟨g, 0, none⟩ x0).setCell ⟨g, 1, none⟩ x1).setCell ⟨g, 2, none⟩ x2).frozen? ⟨g, 3, none⟩ = false) ∧ (((((w.setCell ⟨g, 0, none⟩ x0).setCell ⟨g, 1, none⟩ x1).setCell ⟨g, 2, none⟩ x2).setCell ⟨g, 3, none⟩ x3).cell? ⟨g, 4, none⟩ = some a4 ∧ ((((w.setCell ⟨g, 0, none⟩ x0).setCell ⟨g, 1, none⟩ x1).setCell ⟨g, 2, none⟩ x2).setCell ⟨g, 3, none⟩ x3).frozen? ⟨g, 4, none⟩ = false) ∧
  (((((w.setCell ⟨g, 0, none⟩ x0).setCell ⟨g, 1, none⟩ x1).setCell ⟨g, 2, none⟩ x2).setCell ⟨g, 3, none⟩ x3).setCell ⟨g, 4, none⟩ x4).cell? ⟨g, 0, none⟩ = some x0 ∧ (((((w.setCell ⟨g, 0, none⟩ x0).setCell ⟨g, 1, none⟩ x1).setCell ⟨g, 2, none⟩ x2).setCell ⟨g, 3, none⟩ x3).setCell ⟨g, 4, none⟩ x4).cell? ⟨g, 1, none⟩ = some x1 ∧ (((((w.setCell ⟨g, 0, none⟩ x0).setCell ⟨g, 1, none⟩ x1).setCell ⟨g, 2, none⟩ x2).setCell ⟨g, 3, none⟩ x3).setCell ⟨g, 4, none⟩ x4).cell? ⟨g, 2, none⟩ = some x2 ∧ (((((w.setCell ⟨g, 0, none⟩ x0).setCell ⟨g, 1, none⟩ x1).setCell ⟨g, 2, none⟩ x2).setCell ⟨g, 3, none⟩ x3).setCell ⟨g, 4, none⟩ x4).cell? ⟨g, 3, none⟩ = some x3 ∧ (((((w.setCell ⟨g, 0, none⟩ x0).setCell ⟨g, 1, none⟩ x1).setCell ⟨g, 2, none⟩ x2).setCell ⟨g, 3, none⟩ x3).setCell ⟨g, 4, none⟩ x4).cell? ⟨g, 4, none⟩ = some x4 := by
 have h1 : Blk (w.setCell ⟨g, 0, none⟩ x0) g #[x0, a1, a2, a3, a4] t := h.set 0 x0
 have h2 : Blk ((w.setCell ⟨g, 0, none⟩ x0).setCell ⟨g, 1, none⟩ x1) g #[x0, x1, a2, a3, a4] t := h1.set 1 x1
 have h3 : Blk (((w.setCell ⟨g, 0, none⟩ x0).setCell ⟨g, 1, none⟩ x1).setCell ⟨g, 2, none⟩ x2) g #[x0, x1, x2, a3, a4] t := h2.set 2 x2
 have h4 : Blk ((((w.setCell ⟨g, 0, none⟩ x0).setCell ⟨g, 1, none⟩ x1).setCell ⟨g, 2, none⟩ x2).setCell ⟨g, 3, none⟩ x3) g #[x0, x1, x2, x3, a4] t := h3.set 3 x3
 have h5 : Blk (((((w.setCell ⟨g, 0, none⟩ x0).setCell ⟨g, 1, none⟩ x1).setCell ⟨g, 2, none⟩ x2).setCell ⟨g, 3, none⟩ x3).setCell ⟨g, 4, none⟩ x4) g #[x0, x1, x2, x3, x4] t := h4.set 4 x4
 exact ⟨⟨h.cell 0 _ rfl, h.free 0⟩, ⟨h1.cell 1 _ rfl, h1.free 1⟩, ⟨h2.cell 2 _ rfl, h2.free 2⟩, ⟨h3.cell 3 _ rfl, h3.free 3⟩, ⟨h4.cell 4 _ rfl, h4.free 4⟩, h5.cell 0 _ rfl, h5.cell 1 _ rfl, h5.cell 2 _ rfl, h5.cell 3 _ rfl, h5.cell 4 _ rfl⟩
theorem belowW5 {w w' : World} {B g : Nat} (h : Below B w w') (hg : B ≤ g) (x0 x1 x2 x3 x4 : Value) : Below B w (((((w'.setCell ⟨g, 0, none⟩ x0).setCell ⟨g, 1, none⟩ x1).setCell ⟨g, 2, none⟩ x2).setCell ⟨g, 3, none⟩ x3).setCell ⟨g, 4, none⟩ x4) := (((((h.setCell hg _).setCell hg _).setCell hg _).setCell hg _).setCell hg _)
theorem ownsW5 {w : World} {bs g sz : Nat} {e : TypeId} {u : Value} {r : List (List Value)} (h : Owns w bs e sz u r) (hl : g < bs) (x0 x1 x2 x3 x4 : Value) : Owns (((((w.setCell ⟨g, 0, none⟩ x0).setCell ⟨g, 1, none⟩ x1).setCell ⟨g, 2, none⟩ x2).setCell ⟨g, 3, none⟩ x3).setCell ⟨g, 4, none⟩ x4) bs e sz u r := (((((h.lowM hl).lowM hl).lowM hl).lowM hl).lowM hl)
set_option maxHeartbeats 1000000 in
theorem lastS (ci cp ct cv cr cd cb cbt : Int) (cc : Int) (A0 : Option Addr) (n0 c0 : Nat) (u1 u2 u3 : Value) (w : World) (h0 : 0 ≤ cb) (h1 : cb ≤ 200000) (hn : n0 ≤ 1048576) : Calls Try.prog 25 #[.agg #[.int .i64 ci, .int .i64 cp, .int .i64 ct, .int .i64 cv, .int .i64 cr, .int .i64 cd, .int .i64 cb, .int .i64 cbt, .slice A0 n0 c0, .int .i64 cc, u1, u2, u3]] w fun e w' => e = .returned (.int .i64 (cb + (n0 : Int))) ∧ Below w.heap.size w w' := by
 have w1 : IntKind.i64.wrap (cb + (n0 : Int)) = cb + (n0 : Int) := by rw [IntKind.wrap_i64]; omega
 have q : (n0 : Int) ≤ 1048576 := by omega
 go_enter Try.func25, Try.ntmps25
 go_wp2
 go_ret
 exact ⟨rfl, (Below.refl _ _).alloc (Nat.le_refl _) _⟩
set_option maxHeartbeats 2000000 in
theorem hasS (l : List Int) (v : Value) (x : Int) (w : World) (B : Nat) (hv : NumsV w B v l) (hn : l.length ≤ 1048576) : Calls Try.prog 50 #[v, .int .i64 x] w fun e w' => e = .returned (.bool (decide (x ∈ l))) ∧ w = w' := by
 obtain ⟨A, cap, rfl, _, _, hc⟩ := hv
 have HC : Hid (∀ j, j < l.length → ∃ g off, A = some ⟨g, off, none⟩ ∧ g < B ∧ w.cell? ⟨g, off + j, none⟩ = some (.int .i64 (l.getD j 0))) := hc
 have HMem : Hid (∀ j, j < l.length → l.getD j 0 ∈ l) := fun j hj => by rw [List.getD_eq_getElem?_getD, List.getElem?_eq_getElem hj]; exact List.getElem_mem hj
 have HAll : Hid ((∀ j, j < l.length → l.getD j 0 ≠ x) → x ∉ l) := fun h hm => by
  obtain ⟨j, hj, e⟩ := List.getElem_of_mem hm
  exact h j hj (by rw [List.getD_eq_getElem?_getD, List.getElem?_eq_getElem hj]; exact e)
 have q1 : (l.length : Int) ≤ 1048576 := by omega
 have HD : Hid (∀ b, (x ∈ l ↔ b = true) → decide (x ∈ l) = b) := fun b h => by cases b <;> simp_all
 clear hc
 generalize hN : l.length = n at *
 clear hN
 generalize decide (x ∈ l) = dd at *
 go_enter Try.func50, Try.ntmps50
 go_wp2_with fail
 go_loopw [5] (fun v5 wr => ∃ k : Nat, k ≤ n ∧ v5 = .int .i64 (k : Int) ∧ w = wr ∧ Hid (∀ j, j < k → l.getD j 0 ≠ x)) (fun v _ => n - (intOf v).toNat)
 case atStart => exact ⟨0, by omega, rfl, rfl, fun j hj => by omega⟩
 case round =>
  obtain ⟨k, hk, rfl, rfl, HR⟩ := hrel
  by_cases hlt : k < n
  ·have q2 : (k : Int) < (n : Int) := by omega
   obtain ⟨g, off, rfl, hg, d0⟩ := HC.out k hlt
   have HM : Hid (l.getD k 0 ∈ l) := HMem.out k hlt
   have HNx : Hid (∀ j, j < k + 1 → j = k ∨ l.getD j 0 ≠ x) := fun j hj => by
    by_cases h : j = k
    ·exact .inl h
    ·exact .inr (HR.out j (by omega))
   generalize hy : l.getD k 0 = y at *
   by_cases he : y = x
   ·subst he
    have HT : Hid (dd = true) := HD.out true ⟨fun _ => rfl, fun _ => HM.out⟩
    go_wp2_with fail
    go_ret
    exact ⟨by rw [HT.out]; rfl, rfl⟩
   ·have e1 : (y == x) = false := beq_eq_false_iff_ne.2 he
    have HNy : Hid (¬ y = x) := he
    have HY : Hid (l.getD k 0 = y) := hy
    clear hy he
    go_wp2_with fail
    go_roundw
    case rel => exact ⟨k + 1, by omega, by go_num, by trivial, fun j hj => (HNx.out j hj).elim (fun h => by rw [h, HY.out]; exact HNy.out) id⟩
    case measure => simp [intOf]; omega
  ·obtain rfl : k = n := by omega
   have HF : Hid (dd = false) := HD.out false ⟨fun h => absurd h (HAll.out HR.out), fun h => by cases h⟩
   go_wp2_with fail
   go_ret
   exact ⟨by rw [HF.out]; rfl, rfl⟩
set_option maxRecDepth 20000 in
set_option maxHeartbeats 4000000 in
theorem walS (ci cp ct cv cr cd cb cbt : Int) (lg : List Ent) (cc : Int) (A0 : Option Addr) (n0 c0 : Nat) (u1 u2 u3 : Value) (w : World) (B : Nat) (hv : Lies w B 2 (.slice A0 n0 c0) (entR lg)) (hn : lg.length ≤ 1048576) (hB : B ≤ w.heap.size) : Calls Try.prog 49 #[.agg #[.int .i64 ci, .int .i64 cp, .int .i64 ct, .int .i64 cv, .int .i64 cr, .int .i64 cd, .int .i64 cb, .int .i64 cbt, .slice A0 n0 c0, .int .i64 cc, u1, u2, u3]] w fun e w' => (∃ u, e = .returned (.agg #[.int .i64 ct, .int .i64 cv, .int .i64 cb, .int .i64 cbt, u]) ∧ Owns w' w.heap.size 71 2 u (entR lg)) ∧ Below w.heap.size w w' := by
 have HV : Hid (Lies w B 2 (.slice A0 n0 c0) (entR lg)) := hv
 have HBB : Hid (B ≤ w.heap.size) := hB
 have HLn : Hid ((entR ([] : List Ent)).length + (entR lg).length ≤ 2097152) := by unfold Hid; rw [entR_length, entR_length]; simp only [List.length_nil]; omega
 clear hv hB hn
 obtain ⟨X0, hX0⟩ : ∃ X0, X0 = (w.alloc (.cells #[.int .i64 ci, .int .i64 cp, .int .i64 ct, .int .i64 cv, .int .i64 cr, .int .i64 cd, .int .i64 cb, .int .i64 cbt, .slice A0 n0 c0, .int .i64 cc, u1, u2, u3] 29)).alloc (.cells #[.int .i64 0, .int .i64 0, .int .i64 0, .int .i64 0, .slice none 0 0] 68) := ⟨_, rfl⟩
 have B0 : Hid (Below w.heap.size w X0) := by unfold Hid; rw [hX0]; exact ((Below.refl _ w).alloc (Nat.le_refl _) _).alloc (by simp) _
 have K0 : Hid (Blk X0 w.heap.size #[.int .i64 ci, .int .i64 cp, .int .i64 ct, .int .i64 cv, .int .i64 cr, .int .i64 cd, .int .i64 cb, .int .i64 cbt, .slice A0 n0 c0, .int .i64 cc, u1, u2, u3] 29) := by unfold Hid; rw [hX0]; exact (Blk.new w _ _).alloc _
 have R0 : Hid (Blk X0 (w.heap.size + 1) #[.int .i64 0, .int .i64 0, .int .i64 0, .int .i64 0, .slice none 0 0] 68) := by unfold Hid; rw [hX0]; have := Blk.new (w.alloc (.cells #[.int .i64 ci, .int .i64 cp, .int .i64 ct, .int .i64 cv, .int .i64 cr, .int .i64 cd, .int .i64 cb, .int .i64 cbt, .slice A0 n0 c0, .int .i64 cc, u1, u2, u3] 29)) #[.int .i64 0, .int .i64 0, .int .i64 0, .int .i64 0, .slice none 0 0] 68; simp only [World.size_alloc] at this; exact this
 have HZ : Hid (X0.heap.size = w.heap.size + 2) := by unfold Hid; rw [hX0]; simp
 go_enter Try.func49, Try.ntmps49
 go_wp2_with fail
 rw [← hX0]
 clear hX0
 refine wp_region_until (fun w' => w'.cell? ⟨w.heap.size, 0, none⟩ = some (.int .i64 ci) ∧ w'.cell? ⟨w.heap.size, 1, none⟩ = some (.int .i64 cp) ∧ w'.cell? ⟨w.heap.size, 2, none⟩ = some (.int .i64 ct) ∧ w'.cell? ⟨w.heap.size, 3, none⟩ = some (.int .i64 cv) ∧ w'.cell? ⟨w.heap.size, 4, none⟩ = some (.int .i64 cr) ∧ w'.cell? ⟨w.heap.size, 5, none⟩ = some (.int .i64 cd) ∧ w'.cell? ⟨w.heap.size, 6, none⟩ = some (.int .i64 cb) ∧ w'.cell? ⟨w.heap.size, 7, none⟩ = some (.int .i64 cbt) ∧ w'.cell? ⟨w.heap.size, 8, none⟩ = some (.slice A0 n0 c0) ∧ w'.cell? ⟨w.heap.size, 9, none⟩ = some (.int .i64 cc) ∧ w'.cell? ⟨w.heap.size, 10, none⟩ = some (u1) ∧ w'.cell? ⟨w.heap.size, 11, none⟩ = some (u2) ∧ w'.cell? ⟨w.heap.size, 12, none⟩ = some (u3)) (fun i => i == 13) 14 (by rfl) (by kernel_rfl) ?_
 have V0 : Hid (Below X0.heap.size X0 X0.drew) := (Below.refl _ _).drew
 generalize X0.drew = Y0 at *
 have SS0 := Hid.mk (cellsC13 (K0.out.on V0.out K0.out.lt))
 refine tF 0 SS0.out ?_
 refine tF 1 SS0.out ?_
 refine tF 2 SS0.out ?_
 refine tF 3 SS0.out ?_
 refine tF 4 SS0.out ?_
 refine tF 5 SS0.out ?_
 refine tF 6 SS0.out ?_
 refine tF 7 SS0.out ?_
 refine tF 9 SS0.out ?_
 refine tF 10 SS0.out ?_
 refine uNe 8 (fun K hK => ?_)
 go_simp
 have ob := Owns.empty Y0 X0.heap.size 71 2 V0.out.size
 have bz : Below Y0.heap.size Y0 (Y0.alloc (.cells #[] 71)) := (Below.refl _ _).alloc (Nat.le_refl _) _
 generalize Y0.alloc (.cells #[] 71) = Y1 at *
 have V1 : Hid (Below X0.heap.size X0 Y1) := V0.out.trans (bz.mono V0.out.size)
 have OB1 : Hid (Owns Y1 X0.heap.size 71 2 (.slice (some ⟨Y0.heap.size, 0, none⟩) 0 0) (entR [])) := ob
 clear ob bz
 refine hK.out _ _ (fun _ _ => cellsC13 (K0.out.on V1.out K0.out.lt)) ?_
 clear hK K
 try simp only [Act.put, zQ1, zQ2, zQ3]
 refine uNe 11 (fun K hK => ?_)
 obtain ⟨Ap, mp, kp, Y2, hr, hOp, hbp, hkp⟩ := run_append_allC (P := Try.prog) Y1 27 27 71 (.agg #[.int .i64 0, .string ⟨#[]⟩]) 2 24 Try.underlying27 Try.infoEnt rfl (by omega) X0.heap.size _ _ (entR []) (entR lg) Y1.heap.size OB1.out ((HV.out.on ((B0.out.trans (V1.out.mono B0.out.size)).mono HBB.out)).mono (Nat.le_trans HBB.out (B0.out.trans (V1.out.mono B0.out.size)).size)) (ent_one _) HLn.out (by omega) V1.out.size
 refine step_append_run (by rfl) (.tmp 11) (.tmp 13) 27 (by rfl) _ _ _ _ (by rfl) (by rfl) hr ?_
 have V2 : Hid (Below X0.heap.size X0 Y2) := V1.out.trans hbp
 have OA2 : Hid (Owns Y2 X0.heap.size 71 2 (.slice Ap mp kp) (entR lg)) := hOp
 clear hr hOp hbp hkp
 refine hK.out _ _ (fun _ _ => cellsC13 (K0.out.on V2.out K0.out.lt)) ?_
 clear hK K
 try simp only [Act.put, zQ1, zQ2, zQ3]
 refine pF 12 ?_
 have RY := Hid.mk (R0.out.on V2.out R0.out.lt)
 have BY : Hid (Below w.heap.size w Y2) := B0.out.trans (V2.out.mono B0.out.size)
 refine uNe 13 (fun K hK => ?_)
 obtain ⟨⟨r0, g0⟩, ⟨r1, g1⟩, ⟨r2, g2⟩, ⟨r3, g3⟩, ⟨r4, g4⟩, z0, z1, z2, z3, z4⟩ := resW5 (x0 := .int .i64 ct) (x1 := .int .i64 cv) (x2 := .int .i64 cb) (x3 := .int .i64 cbt) (x4 := .slice Ap mp kp) RY.out
 go_simp
 refine hK.out _ _ (fun h => by cases h) ?_
 clear hK K r0 g0 r1 g1 r2 g2 r3 g3 r4 g4
 try simp only [Act.put, zQ1, zQ2, zQ3]
 refine until_done (by kernel_rfl) ?_ _
 have FO := Hid.mk (ownsW5 OA2.out (show w.heap.size + 1 < X0.heap.size by rw [HZ.out]; omega) (.int .i64 ct) (.int .i64 cv) (.int .i64 cb) (.int .i64 cbt) (.slice Ap mp kp))
 have FB := Hid.mk (belowW5 BY.out (show w.heap.size ≤ w.heap.size + 1 by omega) (.int .i64 ct) (.int .i64 cv) (.int .i64 cb) (.int .i64 cbt) (.slice Ap mp kp))
 have HX : Hid (w.heap.size ≤ X0.heap.size) := B0.out.size
 try go_wp2_with fail
 exact bodyPost_ret (v := .agg #[.int .i64 ct, .int .i64 cv, .int .i64 cb, .int .i64 cbt, .slice Ap mp kp]) (by simp [results, go_sem, z0, z1, z2, z3, z4]) rfl ⟨⟨_, rfl, FO.out.mono HX.out⟩, FB.out⟩
end Go.Proofs.Ytlhoonohpfpkbaa
namespace Go.Proofs.Ytlhoonohpfpkbaa
open Go.ChangeShapes Go.WideShapes Go.ChangeAt Go.RowKit Go.PlainAid
set_option linter.unusedVariables false
theorem resM10 {w : World} {g : Nat} {a0 a1 a2 a3 a4 a5 a6 a7 a8 a9 x0 x1 x2 x3 x4 x5 x6 x7 x8 x9 : Value} {t : TypeId} (h : Blk w g #[a0, a1, a2, a3, a4, a5, a6, a7, a8, a9] t) :
  (w.cell? ⟨g, 0, none⟩ = some a0 ∧ w.frozen? ⟨g, 0, none⟩ = false) ∧ ((w.setCell ⟨g, 0, none⟩ x0).cell? ⟨g, 1, none⟩ = some a1 ∧ (w.setCell ⟨g, 0, none⟩ x0).frozen? ⟨g, 1, none⟩ = false) ∧ (((w.setCell ⟨g, 0, none⟩ x0).setCell ⟨g, 1, none⟩ x1).cell? ⟨g, 2, none⟩ = some a2 ∧ ((w.setCell ⟨g, 0, none⟩ x0).setCell ⟨g, 1, none⟩ x1).frozen? ⟨g, 2, none⟩ = false) ∧ ((((w.setCell ⟨g, 0, none⟩ x0).setCell ⟨g, 1, none⟩ x1).setCell ⟨g, 2, none⟩ x2).cell? ⟨g, 3, none⟩ = some a3 ∧ (((w.setCell ⟨g, 0, none⟩ x0).setCell ⟨g, 1, none⟩ x1).setCell ⟨g, 2, none⟩ x2).frozen? ⟨g, 3, none⟩ = false) ∧ (((((w.setCell ⟨g, 0, none⟩ x0).setCell ⟨g, 1, none⟩ x1).setCell ⟨g, 2, none⟩ x2).setCell ⟨g, 3, none⟩ x3).cell? ⟨g, 4, none⟩ = some a4 ∧ ((((w.setCell ⟨g, 0, none⟩ x0).setCell ⟨g, 1, none⟩ x1).setCell ⟨g, 2, none⟩ x2).setCell ⟨g, 3, none⟩ x3).frozen? ⟨g, 4, none⟩ = false) ∧ ((((((w.setCell ⟨g, 0, none⟩ x0).setCell ⟨g, 1, none⟩ x1).setCell ⟨g, 2, none⟩ x2).setCell ⟨g, 3, none⟩ x3).setCell ⟨g, 4, none⟩ x4).cell? ⟨g, 5, none⟩ = some a5 ∧ (((((w.setCell ⟨g, 0, none⟩ x0).setCell ⟨g, 1, none⟩ x1).setCell ⟨g, 2, none⟩ x2).setCell ⟨g, 3, none⟩ x3).setCell ⟨g, 4, none⟩ x4).frozen? ⟨g, 5, none⟩ = false) ∧ (((((((w.setCell ⟨g, 0, none⟩ x0).setCell ⟨g, 1, none⟩ x1).setCell ⟨g, 2, none⟩ x2).setCell ⟨g, 3, none⟩ x3).setCell ⟨g, 4, none⟩ x4).setCell ⟨g, 5, none⟩ x5).cell? ⟨g, 6, none⟩ = some a6 ∧ ((((((w.setCell ⟨g, 0, none⟩ x0).setCell ⟨g, 1, none⟩ x1).setCell ⟨g, 2, none⟩ x2).setCell ⟨g, 3, none⟩ x3).setCell ⟨g, 4, none⟩ x4).setCell ⟨g, 5, none⟩ x5).frozen? ⟨g, 6, none⟩ = false) ∧ ((((((((w.setCell ⟨g, 0, none⟩ x0).setCell ⟨g, 1, none⟩ x1).setCell ⟨g, 2, none⟩ x2).setCell ⟨g, 3, none⟩ x3).setCell ⟨g, 4, none⟩ x4).setCell ⟨g, 5, none⟩ x5).setCell ⟨g, 6, none⟩ x6).cell? ⟨g, 7, none⟩ = some a7 ∧ (((((((w.setCell ⟨g, 0, none⟩ x0).setCell ⟨g, 1, none⟩ x1).setCell ⟨g, 2, none⟩ x2).setCell ⟨g, 3, none⟩ x3).setCell ⟨g, 4, none⟩ x4).setCell ⟨g, 5, none⟩ x5).setCell ⟨g, 6, none⟩ x6).frozen? ⟨g, 7, none⟩ = false) ∧ (((((((((w.setCell ⟨g, 0, none⟩ x0).setCell ⟨g, 1, none⟩ x1).setCell ⟨g, 2, none⟩ x2).setCell ⟨g, 3, none⟩ x3).setCell ⟨g, 4, none⟩ x4).setCell ⟨g, 5, none⟩ x5).setCell ⟨g, 6, none⟩ x6).setCell ⟨g, 7, none⟩ x7).cell? ⟨g, 8, none⟩ = some a8 ∧ ((((((((w.setCell ⟨g, 0, none⟩ x0).setCell ⟨g, 1, none⟩ x1).setCell ⟨g, 2, none⟩ x2).setCell ⟨g, 3, none⟩ x3).setCell ⟨g, 4, none⟩ x4).setCell ⟨g, 5, none⟩ x5).setCell ⟨g, 6, none⟩ x6).setCell ⟨g, 7, none⟩ x7).frozen? ⟨g, 8, none⟩ = false) ∧ ((((((((((w.setCell ⟨g, 0, none⟩ x0).setCell ⟨g, 1, none⟩ x1).setCell ⟨g, 2, none⟩ x2).setCell ⟨g, 3, none⟩ x3).setCell ⟨g, 4, none⟩ x4).setCell ⟨g, 5, none⟩ x5).setCell ⟨g, 6, none⟩ x6).setCell ⟨g, 7, none⟩ x7).setCell ⟨g, 8, none⟩ x8).cell? ⟨g, 9, none⟩ = some a9 ∧ (((((((((w.setCell ⟨g, 0, none⟩ x0).setCell ⟨g, 1, none⟩ x1).setCell ⟨g, 2, none⟩ x2).setCell ⟨g, 3, none⟩ x3).setCell ⟨g, 4, none⟩ x4).setCell ⟨g, 5, none⟩ x5).setCell ⟨g, 6, none⟩ x6).setCell ⟨g, 7, none⟩ x7).setCell ⟨g, 8, none⟩ x8).frozen? ⟨g, 9, none⟩ = false) ∧
  ((((((((((w.setCell ⟨g, 0, none⟩ x0).setCell ⟨g, 1, none⟩ x1).setCell ⟨g, 2, none⟩ x2).setCell ⟨g, 3, none⟩ x3).setCell ⟨g, 4, none⟩ x4).setCell ⟨g, 5, none⟩ x5).setCell ⟨g, 6, none⟩ x6).setCell ⟨g, 7, none⟩ x7).setCell ⟨g, 8, none⟩ x8).setCell ⟨g, 9, none⟩ x9).cell? ⟨g, 0, none⟩ = some x0 ∧ ((((((((((w.setCell ⟨g, 0, none⟩ x0).setCell ⟨g, 1, none⟩ x1).setCell ⟨g, 2, none⟩ x2).setCell ⟨g, 3, none⟩ x3).setCell ⟨g, 4, none⟩ x4).setCell ⟨g, 5, none⟩ x5).setCell ⟨g, 6, none⟩ x6).setCell ⟨g, 7, none⟩ x7).setCell ⟨g, 8, none⟩ x8).setCell ⟨g, 9, none⟩ x9).cell? ⟨g, 1, none⟩ = some x1 ∧ ((((((((((w.setCell ⟨g, 0, none⟩ x0).setCell ⟨g, 1, none⟩ x1).setCell ⟨g, 2, none⟩ x2).setCell ⟨g, 3, none⟩ x3).setCell ⟨g, 4, none⟩ x4).setCell ⟨g, 5, none⟩ x5).setCell ⟨g, 6, none⟩ x6).setCell ⟨g, 7, none⟩ x7).setCell ⟨g, 8, none⟩ x8).setCell ⟨g, 9, none⟩ x9).cell? ⟨g, 2, none⟩ = some x2 ∧ ((((((((((w.setCell ⟨g, 0, none⟩ x0).setCell ⟨g, 1, none⟩ x1).setCell ⟨g, 2, none⟩ x2).setCell ⟨g, 3, none⟩ x3).setCell ⟨g, 4, none⟩ x4).setCell ⟨g, 5, none⟩ x5).setCell ⟨g, 6, none⟩ x6).setCell ⟨g, 7, none⟩ x7).setCell ⟨g, 8, none⟩ x8).setCell ⟨g, 9, none⟩ x9).cell? ⟨g, 3, none⟩ = some x3 ∧ ((((((((((w.setCell ⟨g, 0, none⟩ x0).setCell ⟨g, 1, none⟩ x1).setCell ⟨g, 2, none⟩ x2).setCell ⟨g, 3, none⟩ x3).setCell ⟨g, 4, none⟩ x4).setCell ⟨g, 5, none⟩ x5).setCell ⟨g, 6, none⟩ x6).setCell ⟨g, 7, none⟩ x7).setCell ⟨g, 8, none⟩ x8).setCell ⟨g, 9, none⟩ x9).cell? ⟨g, 4, none⟩ = some x4 ∧ ((((((((((w.setCell ⟨g, 0, none⟩ x0).setCell ⟨g, 1, none⟩ x1).setCell ⟨g, 2, none⟩ x2).setCell ⟨g, 3, none⟩ x3).setCell ⟨g, 4, none⟩ x4).setCell ⟨g, 5, none⟩ x5).setCell ⟨g, 6, none⟩ x6).setCell ⟨g, 7, none⟩ x7).setCell ⟨g, 8, none⟩ x8).setCell ⟨g, 9, none⟩ x9).cell? ⟨g, 5, none⟩ = some x5 ∧ ((((((((((w.setCell ⟨g, 0, none⟩ x0).setCell ⟨g, 1, none⟩ x1).setCell ⟨g, 2, none⟩ x2).setCell ⟨g, 3, none⟩ x3).setCell ⟨g, 4, none⟩ x4).setCell ⟨g, 5, none⟩ x5).setCell ⟨g, 6, none⟩ x6).setCell ⟨g, 7, none⟩ x7).setCell ⟨g, 8, none⟩ x8).setCell ⟨g, 9, none⟩ x9).cell? ⟨g, 6, none⟩ = some x6 ∧ ((((((((((w.setCell ⟨g, 0, none⟩ x0).setCell ⟨g, 1, none⟩ x1).setCell ⟨g, 2, none⟩ x2).setCell ⟨g, 3, none⟩ x3).setCell ⟨g, 4, none⟩ x4).setCell ⟨g, 5, none⟩ x5).setCell ⟨g, 6, none⟩ x6).setCell ⟨g, 7, none⟩ x7).setCell ⟨g, 8, none⟩ x8).setCell ⟨g, 9, none⟩ x9).cell? ⟨g, 7, none⟩ = some x7 ∧ ((((((((((w.setCell ⟨g, 0, none⟩ x0).setCell ⟨g, 1, none⟩ x1).setCell ⟨g, 2, none⟩ x2).setCell ⟨g, 3, none⟩ x3).setCell ⟨g, 4, none⟩ x4).setCell ⟨g, 5, none⟩ x5).setCell ⟨g, 6, none⟩ x6).setCell ⟨g, 7, none⟩ x7).setCell ⟨g, 8, none⟩ x8).setCell ⟨g, 9, none⟩ x9).cell? ⟨g, 8, none⟩ = some x8 ∧ ((((((((((w.setCell ⟨g, 0, none⟩ x0).setCell ⟨g, 1, none⟩ x1).setCell ⟨g, 2, none⟩ x2).setCell ⟨g, 3, none⟩ x3).setCell ⟨g, 4, none⟩ x4).setCell ⟨g, 5, none⟩ x5).setCell ⟨g, 6, none⟩ x6).setCell ⟨g, 7, none⟩ x7).setCell ⟨g, 8, none⟩ x8).setCell ⟨g, 9, none⟩ x9).cell? ⟨g, 9, none⟩ = some x9 := by
 have h1 : Blk (w.setCell ⟨g, 0, none⟩ x0) g #[x0, a1, a2, a3, a4, a5, a6, a7, a8, a9] t := h.set 0 x0
 have h2 : Blk ((w.setCell ⟨g, 0, none⟩ x0).setCell ⟨g, 1, none⟩ x1) g #[x0, x1, a2, a3, a4, a5, a6, a7, a8, a9] t := h1.set 1 x1
 have h3 : Blk (((w.setCell ⟨g, 0, none⟩ x0).setCell ⟨g, 1, none⟩ x1).setCell ⟨g, 2, none⟩ x2) g #[x0, x1, x2, a3, a4, a5, a6, a7, a8, a9] t := h2.set 2 x2
 have h4 : Blk ((((w.setCell ⟨g, 0, none⟩ x0).setCell ⟨g, 1, none⟩ x1).setCell ⟨g, 2, none⟩ x2).setCell ⟨g, 3, none⟩ x3) g #[x0, x1, x2, x3, a4, a5, a6, a7, a8, a9] t := h3.set 3 x3
 have h5 : Blk (((((w.setCell ⟨g, 0, none⟩ x0).setCell ⟨g, 1, none⟩ x1).setCell ⟨g, 2, none⟩ x2).setCell ⟨g, 3, none⟩ x3).setCell ⟨g, 4, none⟩ x4) g #[x0, x1, x2, x3, x4, a5, a6, a7, a8, a9] t := h4.set 4 x4
 have h6 : Blk ((((((w.setCell ⟨g, 0, none⟩ x0).setCell ⟨g, 1, none⟩ x1).setCell ⟨g, 2, none⟩ x2).setCell ⟨g, 3, none⟩ x3).setCell ⟨g, 4, none⟩ x4).setCell ⟨g, 5, none⟩ x5) g #[x0, x1, x2, x3, x4, x5, a6, a7, a8, a9] t := h5.set 5 x5
 have h7 : Blk (((((((w.setCell ⟨g, 0, none⟩ x0).setCell ⟨g, 1, none⟩ x1).setCell ⟨g, 2, none⟩ x2).setCell ⟨g, 3, none⟩ x3).setCell ⟨g, 4, none⟩ x4).setCell ⟨g, 5, none⟩ x5).setCell ⟨g, 6, none⟩ x6) g #[x0, x1, x2, x3, x4, x5, x6, a7, a8, a9] t := h6.set 6 x6
 have h8 : Blk ((((((((w.setCell ⟨g, 0, none⟩ x0).setCell ⟨g, 1, none⟩ x1).setCell ⟨g, 2, none⟩ x2).setCell ⟨g, 3, none⟩ x3).setCell ⟨g, 4, none⟩ x4).setCell ⟨g, 5, none⟩ x5).setCell ⟨g, 6, none⟩ x6).setCell ⟨g, 7, none⟩ x7) g #[x0, x1, x2, x3, x4, x5, x6, x7, a8, a9] t := h7.set 7 x7
 have h9 : Blk (((((((((w.setCell ⟨g, 0, none⟩ x0).setCell ⟨g, 1, none⟩ x1).setCell ⟨g, 2, none⟩ x2).setCell ⟨g, 3, none⟩ x3).setCell ⟨g, 4, none⟩ x4).setCell ⟨g, 5, none⟩ x5).setCell ⟨g, 6, none⟩ x6).setCell ⟨g, 7, none⟩ x7).setCell ⟨g, 8, none⟩ x8) g #[x0, x1, x2, x3, x4, x5, x6, x7, x8, a9] t := h8.set 8 x8
 have h10 : Blk ((((((((((w.setCell ⟨g, 0, none⟩ x0).setCell ⟨g, 1, none⟩ x1).setCell ⟨g, 2, none⟩ x2).setCell ⟨g, 3, none⟩ x3).setCell ⟨g, 4, none⟩ x4).setCell ⟨g, 5, none⟩ x5).setCell ⟨g, 6, none⟩ x6).setCell ⟨g, 7, none⟩ x7).setCell ⟨g, 8, none⟩ x8).setCell ⟨g, 9, none⟩ x9) g #[x0, x1, x2, x3, x4, x5, x6, x7, x8, x9] t := h9.set 9 x9
 exact ⟨⟨h.cell 0 _ rfl, h.free 0⟩, ⟨h1.cell 1 _ rfl, h1.free 1⟩, ⟨h2.cell 2 _ rfl, h2.free 2⟩, ⟨h3.cell 3 _ rfl, h3.free 3⟩, ⟨h4.cell 4 _ rfl, h4.free 4⟩, ⟨h5.cell 5 _ rfl, h5.free 5⟩, ⟨h6.cell 6 _ rfl, h6.free 6⟩, ⟨h7.cell 7 _ rfl, h7.free 7⟩, ⟨h8.cell 8 _ rfl, h8.free 8⟩, ⟨h9.cell 9 _ rfl, h9.free 9⟩, h10.cell 0 _ rfl, h10.cell 1 _ rfl, h10.cell 2 _ rfl, h10.cell 3 _ rfl, h10.cell 4 _ rfl, h10.cell 5 _ rfl, h10.cell 6 _ rfl, h10.cell 7 _ rfl, h10.cell 8 _ rfl, h10.cell 9 _ rfl⟩
theorem blkM10 {w : World} {g : Nat} {a0 a1 a2 a3 a4 a5 a6 a7 a8 a9 x0 x1 x2 x3 x4 x5 x6 x7 x8 x9 : Value} {t : TypeId} (h : Blk w g #[a0, a1, a2, a3, a4, a5, a6, a7, a8, a9] t) : Blk ((((((((((w.setCell ⟨g, 0, none⟩ x0).setCell ⟨g, 1, none⟩ x1).setCell ⟨g, 2, none⟩ x2).setCell ⟨g, 3, none⟩ x3).setCell ⟨g, 4, none⟩ x4).setCell ⟨g, 5, none⟩ x5).setCell ⟨g, 6, none⟩ x6).setCell ⟨g, 7, none⟩ x7).setCell ⟨g, 8, none⟩ x8).setCell ⟨g, 9, none⟩ x9) g #[x0, x1, x2, x3, x4, x5, x6, x7, x8, x9] t := by
 have h1 : Blk (w.setCell ⟨g, 0, none⟩ x0) g #[x0, a1, a2, a3, a4, a5, a6, a7, a8, a9] t := h.set 0 x0
 have h2 : Blk ((w.setCell ⟨g, 0, none⟩ x0).setCell ⟨g, 1, none⟩ x1) g #[x0, x1, a2, a3, a4, a5, a6, a7, a8, a9] t := h1.set 1 x1
 have h3 : Blk (((w.setCell ⟨g, 0, none⟩ x0).setCell ⟨g, 1, none⟩ x1).setCell ⟨g, 2, none⟩ x2) g #[x0, x1, x2, a3, a4, a5, a6, a7, a8, a9] t := h2.set 2 x2
 have h4 : Blk ((((w.setCell ⟨g, 0, none⟩ x0).setCell ⟨g, 1, none⟩ x1).setCell ⟨g, 2, none⟩ x2).setCell ⟨g, 3, none⟩ x3) g #[x0, x1, x2, x3, a4, a5, a6, a7, a8, a9] t := h3.set 3 x3
 have h5 : Blk (((((w.setCell ⟨g, 0, none⟩ x0).setCell ⟨g, 1, none⟩ x1).setCell ⟨g, 2, none⟩ x2).setCell ⟨g, 3, none⟩ x3).setCell ⟨g, 4, none⟩ x4) g #[x0, x1, x2, x3, x4, a5, a6, a7, a8, a9] t := h4.set 4 x4
 have h6 : Blk ((((((w.setCell ⟨g, 0, none⟩ x0).setCell ⟨g, 1, none⟩ x1).setCell ⟨g, 2, none⟩ x2).setCell ⟨g, 3, none⟩ x3).setCell ⟨g, 4, none⟩ x4).setCell ⟨g, 5, none⟩ x5) g #[x0, x1, x2, x3, x4, x5, a6, a7, a8, a9] t := h5.set 5 x5
 have h7 : Blk (((((((w.setCell ⟨g, 0, none⟩ x0).setCell ⟨g, 1, none⟩ x1).setCell ⟨g, 2, none⟩ x2).setCell ⟨g, 3, none⟩ x3).setCell ⟨g, 4, none⟩ x4).setCell ⟨g, 5, none⟩ x5).setCell ⟨g, 6, none⟩ x6) g #[x0, x1, x2, x3, x4, x5, x6, a7, a8, a9] t := h6.set 6 x6
 have h8 : Blk ((((((((w.setCell ⟨g, 0, none⟩ x0).setCell ⟨g, 1, none⟩ x1).setCell ⟨g, 2, none⟩ x2).setCell ⟨g, 3, none⟩ x3).setCell ⟨g, 4, none⟩ x4).setCell ⟨g, 5, none⟩ x5).setCell ⟨g, 6, none⟩ x6).setCell ⟨g, 7, none⟩ x7) g #[x0, x1, x2, x3, x4, x5, x6, x7, a8, a9] t := h7.set 7 x7
 have h9 : Blk (((((((((w.setCell ⟨g, 0, none⟩ x0).setCell ⟨g, 1, none⟩ x1).setCell ⟨g, 2, none⟩ x2).setCell ⟨g, 3, none⟩ x3).setCell ⟨g, 4, none⟩ x4).setCell ⟨g, 5, none⟩ x5).setCell ⟨g, 6, none⟩ x6).setCell ⟨g, 7, none⟩ x7).setCell ⟨g, 8, none⟩ x8) g #[x0, x1, x2, x3, x4, x5, x6, x7, x8, a9] t := h8.set 8 x8
 have h10 : Blk ((((((((((w.setCell ⟨g, 0, none⟩ x0).setCell ⟨g, 1, none⟩ x1).setCell ⟨g, 2, none⟩ x2).setCell ⟨g, 3, none⟩ x3).setCell ⟨g, 4, none⟩ x4).setCell ⟨g, 5, none⟩ x5).setCell ⟨g, 6, none⟩ x6).setCell ⟨g, 7, none⟩ x7).setCell ⟨g, 8, none⟩ x8).setCell ⟨g, 9, none⟩ x9) g #[x0, x1, x2, x3, x4, x5, x6, x7, x8, x9] t := h9.set 9 x9
 exact h10
theorem belowM10 {w w' : World} {B g : Nat} (h : Below B w w') (hg : B ≤ g) (x0 x1 x2 x3 x4 x5 x6 x7 x8 x9 : Value) : Below B w ((((((((((w'.setCell ⟨g, 0, none⟩ x0).setCell ⟨g, 1, none⟩ x1).setCell ⟨g, 2, none⟩ x2).setCell ⟨g, 3, none⟩ x3).setCell ⟨g, 4, none⟩ x4).setCell ⟨g, 5, none⟩ x5).setCell ⟨g, 6, none⟩ x6).setCell ⟨g, 7, none⟩ x7).setCell ⟨g, 8, none⟩ x8).setCell ⟨g, 9, none⟩ x9) := ((((((((((h.setCell hg _).setCell hg _).setCell hg _).setCell hg _).setCell hg _).setCell hg _).setCell hg _).setCell hg _).setCell hg _).setCell hg _)
theorem ownsM10 {w : World} {bs g sz : Nat} {e : TypeId} {u : Value} {r : List (List Value)} (h : Owns w bs e sz u r) (hl : g < bs) (x0 x1 x2 x3 x4 x5 x6 x7 x8 x9 : Value) : Owns ((((((((((w.setCell ⟨g, 0, none⟩ x0).setCell ⟨g, 1, none⟩ x1).setCell ⟨g, 2, none⟩ x2).setCell ⟨g, 3, none⟩ x3).setCell ⟨g, 4, none⟩ x4).setCell ⟨g, 5, none⟩ x5).setCell ⟨g, 6, none⟩ x6).setCell ⟨g, 7, none⟩ x7).setCell ⟨g, 8, none⟩ x8).setCell ⟨g, 9, none⟩ x9) bs e sz u r := ((((((((((h.lowM hl).lowM hl).lowM hl).lowM hl).lowM hl).lowM hl).lowM hl).lowM hl).lowM hl).lowM hl)
set_option maxRecDepth 20000 in
set_option maxHeartbeats 8000000 in
theorem toS0 (ci cp ct cv cr cd cb cbt : Int) (lg : List Ent) (cc : Int) (ys ns ms : List Int) (u0 u1 u2 u3 : Value) (t : Nat) (w : World) (base0 : Nat) (hr : CoRows w base0 ⟨ci, cp, ct, cv, cr, cd, cb, cbt, lg, cc, ys, ns, ms⟩ u0 u1 u2 u3) (hs : ShortC ⟨ci, cp, ct, cv, cr, cd, cb, cbt, lg, cc, ys, ns, ms⟩) (h0 : 0 ≤ cb) (h1 : cb ≤ 100000) (hln : lg.length ≤ 60) (ht : t < ns.length) (hnx0 : 1 ≤ ns.getD t 0) (hnx1 : ns.getD t 0 ≤ cb + (lg.length : Int) + 1) (hle0 : ns.getD t 0 ≤ cb) : Calls Try.prog 62 #[.agg #[.int .i64 ci, .int .i64 cp, .int .i64 ct, .int .i64 cv, .int .i64 cr, .int .i64 cd, .int .i64 cb, .int .i64 cbt, u0, .int .i64 cc, u1, u2, u3], .int .i64 (t : Int)] w fun e w' => (∃ u, e = .returned (vMg (sendM ⟨ci, cp, ct, cv, cr, cd, cb, cbt, lg, cc, ys, ns, ms⟩ (t : Int)) u) ∧ Owns w' w.heap.size 71 2 u (entR (sendM ⟨ci, cp, ct, cv, cr, cd, cb, cbt, lg, cc, ys, ns, ms⟩ (t : Int)).ents)) ∧ Below w.heap.size w w' := by
 have HS : Hid (ShortC ⟨ci, cp, ct, cv, cr, cd, cb, cbt, lg, cc, ys, ns, ms⟩) := hs
 have HR := Hid.mk hr
 obtain ⟨A0, Ac0, A1, Ac1, A2, Ac2, A3, Ac3, rfl, rfl, rfl, rfl⟩ := hr.shape
 obtain ⟨g2, hg2e, _, hg2w⟩ := hr.n.block (by simp only; omega)
 subst hg2e
 have d0 := hr.n.cell t (by simp only; omega)
 simp only at d0
 have HSm : Hid (sendM ⟨ci, cp, ct, cv, cr, cd, cb, cbt, lg, cc, ys, ns, ms⟩ (t : Int) = if ns.getD t 0 ≤ cb then ⟨5, ci, (t : Int), ct, cb, cbt, 0, false, [], ⟨#[]⟩⟩ else ⟨3, ci, (t : Int), ct, ns.getD t 0 - 1, termAt ⟨ci, cp, ct, cv, cr, cd, cb, cbt, lg, cc, ys, ns, ms⟩ (ns.getD t 0 - 1), cc, false, (lg.drop (ns.getD t 0 - 1 - cb).toNat).take 4, ⟨#[]⟩⟩) := by unfold Hid sendM; simp only [Int.toNat_natCast]
 have q1 : (t : Int) < (ns.length : Int) := by omega
 simp only at HR ⊢
 have HLi : Hid (Lies w w.heap.size 2 (.slice A0 lg.length Ac0) (entR lg)) := hr.l.lies
 generalize hn0 : lg.length = An0 at *
 generalize hn1 : ys.length = An1 at *
 generalize hn2 : ns.length = An2 at *
 generalize hn3 : ms.length = An3 at *
 clear hr hs hn1 hn2 hn3
 generalize hnx : ns.getD t 0 = nx at *
 clear hnx
 obtain ⟨X0, hX0⟩ : ∃ X0, X0 = (w.alloc (.cells #[.int .i64 ci, .int .i64 cp, .int .i64 ct, .int .i64 cv, .int .i64 cr, .int .i64 cd, .int .i64 cb, .int .i64 cbt, .slice A0 An0 Ac0, .int .i64 cc, .slice A1 An1 Ac1, .slice (some ⟨g2, 0, none⟩) An2 Ac2, .slice A3 An3 Ac3] 29)).alloc (.cells #[.int .i64 0, .int .i64 0, .int .i64 0, .int .i64 0, .int .i64 0, .int .i64 0, .int .i64 0, .bool false, .slice none 0 0, .string ⟨#[]⟩] 48) := ⟨_, rfl⟩
 have B0 : Hid (Below w.heap.size w X0) := by unfold Hid; rw [hX0]; exact ((Below.refl _ w).alloc (Nat.le_refl _) _).alloc (by simp) _
 have K0 : Hid (Blk X0 w.heap.size #[.int .i64 ci, .int .i64 cp, .int .i64 ct, .int .i64 cv, .int .i64 cr, .int .i64 cd, .int .i64 cb, .int .i64 cbt, .slice A0 An0 Ac0, .int .i64 cc, .slice A1 An1 Ac1, .slice (some ⟨g2, 0, none⟩) An2 Ac2, .slice A3 An3 Ac3] 29) := by unfold Hid; rw [hX0]; exact (Blk.new w _ _).alloc _
 have R0 : Hid (Blk X0 (w.heap.size + 1) #[.int .i64 0, .int .i64 0, .int .i64 0, .int .i64 0, .int .i64 0, .int .i64 0, .int .i64 0, .bool false, .slice none 0 0, .string ⟨#[]⟩] 48) := by unfold Hid; rw [hX0]; have := Blk.new (w.alloc (.cells #[.int .i64 ci, .int .i64 cp, .int .i64 ct, .int .i64 cv, .int .i64 cr, .int .i64 cd, .int .i64 cb, .int .i64 cbt, .slice A0 An0 Ac0, .int .i64 cc, .slice A1 An1 Ac1, .slice (some ⟨g2, 0, none⟩) An2 Ac2, .slice A3 An3 Ac3] 29)) #[.int .i64 0, .int .i64 0, .int .i64 0, .int .i64 0, .int .i64 0, .int .i64 0, .int .i64 0, .bool false, .slice none 0 0, .string ⟨#[]⟩] 48; simp only [World.size_alloc] at this; exact this
 have HZ0 : Hid (w.heap.size + 2 ≤ X0.heap.size) := by unfold Hid; rw [hX0]; simp
 have d1 : X0.cell? ⟨g2, t, none⟩ = some (.int .i64 nx) := by rw [B0.out.cell (p := ⟨_, _, none⟩) hg2w]; exact d0
 clear d0
 have z1 : decide (nx ≤ cb) = true := decide_eq_true hle0
 have HE : Hid (sendM ⟨ci, cp, ct, cv, cr, cd, cb, cbt, lg, cc, ys, ns, ms⟩ (t : Int) = ⟨5, ci, (t : Int), ct, cb, cbt, 0, false, [], ⟨#[]⟩⟩) := by unfold Hid; rw [HSm.out, if_pos hle0]
 have FX : Hid (∀ (b c : Obj), Below w.heap.size w ((w.alloc b).alloc c)) := fun b c => ((Below.refl _ w).alloc (Nat.le_refl _) _).alloc (by simp) _
 clear hle0 HSm hn0
 rw [hX0] at d1
 clear hX0 B0 K0 R0 HZ0
 go_enter Try.func62, Try.ntmps62
 go_wp2_with fail
 exact bodyPost_ret (v := .agg #[.int .i64 5, .int .i64 ci, .int .i64 (t : Int), .int .i64 ct, .int .i64 cb, .int .i64 cbt, .int .i64 0, .bool false, .slice none 0 0, .string ⟨#[]⟩]) (by simp [results, go_sem]) rfl ⟨⟨.slice none 0 0, by rw [HE.out]; rfl, by rw [HE.out]; exact Owns.nil _ _ _ _⟩, FX.out _ _⟩
end Go.Proofs.Ytlhoonohpfpkbaa
