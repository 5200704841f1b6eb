/- CoTp CoTa CoS1 CoS2 -/
import Derived.Test.YtlhoonohpfpkbaaRows
import Derived.Test.YtlhoonohpfpkbaaQp9
import Derived.Deep.Cut
import Derived.Deep.CutRange
import Derived.Handy
import Derived.Test.YtlhoonohpfpkbaaQp5
import Derived.Test.YtlhoonohpfpkbaaQp6
import Derived.Test.YtlhoonohpfpkbaaQp3
open List (setIfInBounds_toArray set_cons_zero set_cons_succ)
namespace Go.Proofs.Ytlhoonohpfpkbaa
open Go.ChangeShapes Go.WideShapes Go.ChangeAt Go.RowKit Go.PlainAid
set_option linter.unusedVariables false
set_option maxRecDepth 20000 in
set_option maxHeartbeats 16000000 in
theorem toS1 (ci cp ct cv cr cd cb cbt : Int) (lg : List Ent) (cc : Int) (ys ns ms : List Int) (u0 u1 u2 u3 : Value) (t : Nat) (w : World) (base0 : Nat) (hr : CoRows w base0 ⟨ci, cp, ct, cv, cr, cd, cb, cbt, lg, cc, ys, ns, ms⟩ u0 u1 u2 u3) (hs : ShortC ⟨ci, cp, ct, cv, cr, cd, cb, cbt, lg, cc, ys, ns, ms⟩) (h0 : 0 ≤ cb) (h1 : cb ≤ 100000) (hln : lg.length ≤ 60) (ht : t < ns.length) (hnx0 : 1 ≤ ns.getD t 0) (hnx1 : ns.getD t 0 ≤ cb + (lg.length : Int) + 1) (hle0 : ¬ ns.getD t 0 ≤ cb) : Calls Try.prog 62 #[.agg #[.int .i64 ci, .int .i64 cp, .int .i64 ct, .int .i64 cv, .int .i64 cr, .int .i64 cd, .int .i64 cb, .int .i64 cbt, u0, .int .i64 cc, u1, u2, u3], .int .i64 (t : Int)] w fun e w' => (∃ u, e = .returned (vMg (sendM ⟨ci, cp, ct, cv, cr, cd, cb, cbt, lg, cc, ys, ns, ms⟩ (t : Int)) u) ∧ Owns w' w.heap.size 71 2 u (entR (sendM ⟨ci, cp, ct, cv, cr, cd, cb, cbt, lg, cc, ys, ns, ms⟩ (t : Int)).ents)) ∧ Below w.heap.size w w' := by
 have HS : Hid (ShortC ⟨ci, cp, ct, cv, cr, cd, cb, cbt, lg, cc, ys, ns, ms⟩) := hs
 have HR := Hid.mk hr
 obtain ⟨A0, Ac0, A1, Ac1, A2, Ac2, A3, Ac3, rfl, rfl, rfl, rfl⟩ := hr.shape
 obtain ⟨g2, hg2e, _, hg2w⟩ := hr.n.block (by simp only; omega)
 subst hg2e
 have d0 := hr.n.cell t (by simp only; omega)
 simp only at d0
 have HSm : Hid (sendM ⟨ci, cp, ct, cv, cr, cd, cb, cbt, lg, cc, ys, ns, ms⟩ (t : Int) = if ns.getD t 0 ≤ cb then ⟨5, ci, (t : Int), ct, cb, cbt, 0, false, [], ⟨#[]⟩⟩ else ⟨3, ci, (t : Int), ct, ns.getD t 0 - 1, termAt ⟨ci, cp, ct, cv, cr, cd, cb, cbt, lg, cc, ys, ns, ms⟩ (ns.getD t 0 - 1), cc, false, (lg.drop (ns.getD t 0 - 1 - cb).toNat).take 4, ⟨#[]⟩⟩) := by unfold Hid sendM; simp only [Int.toNat_natCast]
 have q1 : (t : Int) < (ns.length : Int) := by omega
 simp only at HR ⊢
 have HLi : Hid (Lies w w.heap.size 2 (.slice A0 lg.length Ac0) (entR lg)) := hr.l.lies
 generalize hn0 : lg.length = An0 at *
 generalize hn1 : ys.length = An1 at *
 generalize hn2 : ns.length = An2 at *
 generalize hn3 : ms.length = An3 at *
 clear hr hs hn1 hn2 hn3
 generalize hnx : ns.getD t 0 = nx at *
 clear hnx
 obtain ⟨X0, hX0⟩ : ∃ X0, X0 = (w.alloc (.cells #[.int .i64 ci, .int .i64 cp, .int .i64 ct, .int .i64 cv, .int .i64 cr, .int .i64 cd, .int .i64 cb, .int .i64 cbt, .slice A0 An0 Ac0, .int .i64 cc, .slice A1 An1 Ac1, .slice (some ⟨g2, 0, none⟩) An2 Ac2, .slice A3 An3 Ac3] 29)).alloc (.cells #[.int .i64 0, .int .i64 0, .int .i64 0, .int .i64 0, .int .i64 0, .int .i64 0, .int .i64 0, .bool false, .slice none 0 0, .string ⟨#[]⟩] 48) := ⟨_, rfl⟩
 have B0 : Hid (Below w.heap.size w X0) := by unfold Hid; rw [hX0]; exact ((Below.refl _ w).alloc (Nat.le_refl _) _).alloc (by simp) _
 have K0 : Hid (Blk X0 w.heap.size #[.int .i64 ci, .int .i64 cp, .int .i64 ct, .int .i64 cv, .int .i64 cr, .int .i64 cd, .int .i64 cb, .int .i64 cbt, .slice A0 An0 Ac0, .int .i64 cc, .slice A1 An1 Ac1, .slice (some ⟨g2, 0, none⟩) An2 Ac2, .slice A3 An3 Ac3] 29) := by unfold Hid; rw [hX0]; exact (Blk.new w _ _).alloc _
 have R0 : Hid (Blk X0 (w.heap.size + 1) #[.int .i64 0, .int .i64 0, .int .i64 0, .int .i64 0, .int .i64 0, .int .i64 0, .int .i64 0, .bool false, .slice none 0 0, .string ⟨#[]⟩] 48) := by unfold Hid; rw [hX0]; have := Blk.new (w.alloc (.cells #[.int .i64 ci, .int .i64 cp, .int .i64 ct, .int .i64 cv, .int .i64 cr, .int .i64 cd, .int .i64 cb, .int .i64 cbt, .slice A0 An0 Ac0, .int .i64 cc, .slice A1 An1 Ac1, .slice (some ⟨g2, 0, none⟩) An2 Ac2, .slice A3 An3 Ac3] 29)) #[.int .i64 0, .int .i64 0, .int .i64 0, .int .i64 0, .int .i64 0, .int .i64 0, .int .i64 0, .bool false, .slice none 0 0, .string ⟨#[]⟩] 48; simp only [World.size_alloc] at this; exact this
 have HZ0 : Hid (w.heap.size + 2 ≤ X0.heap.size) := by unfold Hid; rw [hX0]; simp
 have d1 : X0.cell? ⟨g2, t, none⟩ = some (.int .i64 nx) := by rw [B0.out.cell (p := ⟨_, _, none⟩) hg2w]; exact d0
 clear d0
 have z1 : decide (nx ≤ cb) = false := decide_eq_false hle0
 obtain ⟨kb, hkb⟩ : ∃ kb : Nat, nx - 1 - cb = (kb : Int) := ⟨(nx - 1 - cb).toNat, by omega⟩
 have HE : Hid (sendM ⟨ci, cp, ct, cv, cr, cd, cb, cbt, lg, cc, ys, ns, ms⟩ (t : Int) = ⟨3, ci, (t : Int), ct, nx - 1, termAt ⟨ci, cp, ct, cv, cr, cd, cb, cbt, lg, cc, ys, ns, ms⟩ (nx - 1), cc, false, (lg.drop kb).take 4, ⟨#[]⟩⟩) := by unfold Hid; rw [HSm.out, if_neg hle0, show (nx - 1 - cb).toNat = kb by omega]
 have w1 : IntKind.i64.wrap (nx - 1) = nx - 1 := by rw [IntKind.wrap_i64]; omega
 have w4 : IntKind.i64.wrap (nx + 4) = nx + 4 := by rw [IntKind.wrap_i64]; omega
 have hln0 := hn0
 have cT := fun wx h hb => termS ci cp ct cv cr cd cb cbt lg cc ys ns ms A0 An0 Ac0 (.slice A1 An1 Ac1) (.slice (some ⟨g2, 0, none⟩) An2 Ac2) (.slice A3 An3 Ac3) (nx - 1) wx w.heap.size h (by omega) h0 (by omega) (by omega) (by omega) hb
 have cL := fun wx => lastS ci cp ct cv cr cd cb cbt cc A0 An0 Ac0 (.slice A1 An1 Ac1) (.slice (some ⟨g2, 0, none⟩) An2 Ac2) (.slice A3 An3 Ac3) wx h0 (by omega) (by omega)
 have HLg : Hid (lg.length = An0) := hn0
 have hAn : An0 ≤ 60 := by omega
 have hkA : kb ≤ An0 := by omega
 have HKB : Hid (nx - 1 - cb = (kb : Int)) := hkb
 have HTk : Hid (∀ k, kb + k < An0 → (lg.drop kb).take (k + 1) = (lg.drop kb).take k ++ [lg.getD (kb + k) default]) := fun k hk => by
  have hlen : k < (lg.drop kb).length := by rw [List.length_drop, HLg.out]; omega
  rw [take_getD (lg.drop kb) k hlen, List.getD_eq_getElem?_getD, List.getElem?_drop, ← List.getD_eq_getElem?_getD]
 have HTe : Hid (∀ k, (An0 ≤ kb + k ∨ 4 ≤ k) → k ≤ 4 → (lg.drop kb).take k = (lg.drop kb).take 4) := fun k h h4 => by
  rcases h with h | h
  ·have hlen : (lg.drop kb).length ≤ k := by rw [List.length_drop, HLg.out]; omega
   rw [List.take_of_length_le hlen, List.take_of_length_le (by omega)]
  ·rw [show k = 4 by omega]
 generalize hte : termAt ⟨ci, cp, ct, cv, cr, cd, cb, cbt, lg, cc, ys, ns, ms⟩ (nx - 1) = te at *
 clear hle0 HSm hn0 hte hln0 hkb
 rw [hX0] at d1
 go_enter Try.func62, Try.ntmps62
 go_wp2_with fail
 rw [← hX0]
 clear hX0 d1
 go_cut [6] from 27 to 40 (fun s6 wx => ∃ gp, s6 = .pointer (some ⟨gp, 0, none⟩) ∧ Below X0.heap.size X0 wx ∧ Blk wx gp #[.int .i64 3, .int .i64 ci, .int .i64 (t : Int), .int .i64 ct, .int .i64 (nx - 1), .int .i64 te, .int .i64 cc, .bool false, .slice none 0 0, .string ⟨#[]⟩] 48 ∧ X0.heap.size ≤ gp)
 case first =>
  refine wp_region_until (fun w' => w'.cell? ⟨w.heap.size, 0, none⟩ = some (.int .i64 ci) ∧ w'.cell? ⟨w.heap.size, 1, none⟩ = some (.int .i64 cp) ∧ w'.cell? ⟨w.heap.size, 2, none⟩ = some (.int .i64 ct) ∧ w'.cell? ⟨w.heap.size, 3, none⟩ = some (.int .i64 cv) ∧ w'.cell? ⟨w.heap.size, 4, none⟩ = some (.int .i64 cr) ∧ w'.cell? ⟨w.heap.size, 5, none⟩ = some (.int .i64 cd) ∧ w'.cell? ⟨w.heap.size, 6, none⟩ = some (.int .i64 cb) ∧ w'.cell? ⟨w.heap.size, 7, none⟩ = some (.int .i64 cbt) ∧ w'.cell? ⟨w.heap.size, 8, none⟩ = some (.slice A0 An0 Ac0) ∧ w'.cell? ⟨w.heap.size, 9, none⟩ = some (.int .i64 cc) ∧ w'.cell? ⟨w.heap.size, 10, none⟩ = some (.slice A1 An1 Ac1) ∧ w'.cell? ⟨w.heap.size, 11, none⟩ = some (.slice (some ⟨g2, 0, none⟩) An2 Ac2) ∧ w'.cell? ⟨w.heap.size, 12, none⟩ = some (.slice A3 An3 Ac3)) (fun i => i == 15) 16 (by rfl) (by kernel_rfl) ?_
  have V0 : Hid (Below X0.heap.size X0 X0.drew) := (Below.refl _ _).drew
  generalize X0.drew = Y0 at *
  have SS0 := Hid.mk (show (fun w' => w'.cell? ⟨w.heap.size, 0, none⟩ = some (.int .i64 ci) ∧ w'.cell? ⟨w.heap.size, 1, none⟩ = some (.int .i64 cp) ∧ w'.cell? ⟨w.heap.size, 2, none⟩ = some (.int .i64 ct) ∧ w'.cell? ⟨w.heap.size, 3, none⟩ = some (.int .i64 cv) ∧ w'.cell? ⟨w.heap.size, 4, none⟩ = some (.int .i64 cr) ∧ w'.cell? ⟨w.heap.size, 5, none⟩ = some (.int .i64 cd) ∧ w'.cell? ⟨w.heap.size, 6, none⟩ = some (.int .i64 cb) ∧ w'.cell? ⟨w.heap.size, 7, none⟩ = some (.int .i64 cbt) ∧ w'.cell? ⟨w.heap.size, 8, none⟩ = some (.slice A0 An0 Ac0) ∧ w'.cell? ⟨w.heap.size, 9, none⟩ = some (.int .i64 cc) ∧ w'.cell? ⟨w.heap.size, 10, none⟩ = some (.slice A1 An1 Ac1) ∧ w'.cell? ⟨w.heap.size, 11, none⟩ = some (.slice (some ⟨g2, 0, none⟩) An2 Ac2) ∧ w'.cell? ⟨w.heap.size, 12, none⟩ = some (.slice A3 An3 Ac3)) Y0 from ⟨(K0.out.on V0.out K0.out.lt).cell 0 _ rfl, (K0.out.on V0.out K0.out.lt).cell 1 _ rfl, (K0.out.on V0.out K0.out.lt).cell 2 _ rfl, (K0.out.on V0.out K0.out.lt).cell 3 _ rfl, (K0.out.on V0.out K0.out.lt).cell 4 _ rfl, (K0.out.on V0.out K0.out.lt).cell 5 _ rfl, (K0.out.on V0.out K0.out.lt).cell 6 _ rfl, (K0.out.on V0.out K0.out.lt).cell 7 _ rfl, (K0.out.on V0.out K0.out.lt).cell 8 _ rfl, (K0.out.on V0.out K0.out.lt).cell 9 _ rfl, (K0.out.on V0.out K0.out.lt).cell 10 _ rfl, (K0.out.on V0.out K0.out.lt).cell 11 _ rfl, (K0.out.on V0.out K0.out.lt).cell 12 _ rfl⟩)
  refine tF 0 SS0.out ?_
  refine tF 1 SS0.out ?_
  refine tF 2 SS0.out ?_
  refine tF 3 SS0.out ?_
  refine tF 4 SS0.out ?_
  refine tF 5 SS0.out ?_
  refine tF 6 SS0.out ?_
  refine tF 7 SS0.out ?_
  refine tF 8 SS0.out ?_
  refine tF 9 SS0.out ?_
  refine tF 11 SS0.out ?_
  refine tF 12 SS0.out ?_
  refine until_two 10 14 (by rfl) (by rfl) (by kernel_rfl) (fun K hK => ?_) (fun K hK => ?_)
  ·skip
   go_simp
   refine (cT Y0 (HLi.out.on (B0.out.trans (V0.out.mono B0.out.size))) (B0.out.trans (V0.out.mono B0.out.size)).size).mono ?_
   rintro e Y1 ⟨rfl, hb⟩
   have V1 : Hid (Below X0.heap.size X0 Y1) := V0.out.trans (hb.mono V0.out.size)
   clear hb
   refine hK.out _ _ (fun _ _ => ⟨(K0.out.on V1.out K0.out.lt).cell 0 _ rfl, (K0.out.on V1.out K0.out.lt).cell 1 _ rfl, (K0.out.on V1.out K0.out.lt).cell 2 _ rfl, (K0.out.on V1.out K0.out.lt).cell 3 _ rfl, (K0.out.on V1.out K0.out.lt).cell 4 _ rfl, (K0.out.on V1.out K0.out.lt).cell 5 _ rfl, (K0.out.on V1.out K0.out.lt).cell 6 _ rfl, (K0.out.on V1.out K0.out.lt).cell 7 _ rfl, (K0.out.on V1.out K0.out.lt).cell 8 _ rfl, (K0.out.on V1.out K0.out.lt).cell 9 _ rfl, (K0.out.on V1.out K0.out.lt).cell 10 _ rfl, (K0.out.on V1.out K0.out.lt).cell 11 _ rfl, (K0.out.on V1.out K0.out.lt).cell 12 _ rfl⟩) ?_
   clear hK K
   try simp only [Act.put, zQ1, zQ2, zQ3]
   refine pF 13 ?_
   refine uNe 14 (fun K hK => ?_)
   go_simp
   have zk := Blk.new Y1 #[.int .i64 0, .int .i64 0, .int .i64 0, .int .i64 0, .int .i64 0, .int .i64 0, .int .i64 0, .bool false, .slice none 0 0, .string ⟨#[]⟩] 48
   have bz : Below Y1.heap.size Y1 (Y1.alloc (.cells #[.int .i64 0, .int .i64 0, .int .i64 0, .int .i64 0, .int .i64 0, .int .i64 0, .int .i64 0, .bool false, .slice none 0 0, .string ⟨#[]⟩] 48)) := (Below.refl _ _).alloc (Nat.le_refl _) _
   obtain ⟨gp, hgp⟩ : ∃ gp, gp = Y1.heap.size := ⟨_, rfl⟩
   have PL : Hid (X0.heap.size ≤ gp) := by unfold Hid; rw [hgp]; exact V1.out.size
   rw [← hgp] at zk ⊢
   generalize Y1.alloc (.cells #[.int .i64 0, .int .i64 0, .int .i64 0, .int .i64 0, .int .i64 0, .int .i64 0, .int .i64 0, .bool false, .slice none 0 0, .string ⟨#[]⟩] 48) = Y2 at *
   have V2 : Hid (Below X0.heap.size X0 Y2) := V1.out.trans (bz.mono V1.out.size)
   have P2 : Hid (Blk Y2 gp #[.int .i64 0, .int .i64 0, .int .i64 0, .int .i64 0, .int .i64 0, .int .i64 0, .int .i64 0, .bool false, .slice none 0 0, .string ⟨#[]⟩] 48) := zk
   clear zk bz hgp
   refine hK.out _ _ (fun _ _ => ⟨(K0.out.on V2.out K0.out.lt).cell 0 _ rfl, (K0.out.on V2.out K0.out.lt).cell 1 _ rfl, (K0.out.on V2.out K0.out.lt).cell 2 _ rfl, (K0.out.on V2.out K0.out.lt).cell 3 _ rfl, (K0.out.on V2.out K0.out.lt).cell 4 _ rfl, (K0.out.on V2.out K0.out.lt).cell 5 _ rfl, (K0.out.on V2.out K0.out.lt).cell 6 _ rfl, (K0.out.on V2.out K0.out.lt).cell 7 _ rfl, (K0.out.on V2.out K0.out.lt).cell 8 _ rfl, (K0.out.on V2.out K0.out.lt).cell 9 _ rfl, (K0.out.on V2.out K0.out.lt).cell 10 _ rfl, (K0.out.on V2.out K0.out.lt).cell 11 _ rfl, (K0.out.on V2.out K0.out.lt).cell 12 _ rfl⟩) ?_
   clear hK K
   try simp only [Act.put, zQ1, zQ2, zQ3]
   refine uNe 15 (fun K hK => ?_)
   obtain ⟨⟨r0, g0⟩, ⟨r1, g1⟩, ⟨r2, g2⟩, ⟨r3, g3⟩, ⟨r4, g4⟩, ⟨r5, g5⟩, ⟨r6, g6⟩, ⟨r7, g7⟩, ⟨r8, g8⟩, ⟨r9, g9⟩, z0, z1, z2, z3, z4, z5, z6, z7, z8, z9⟩ := resM10 (x0 := .int .i64 3) (x1 := .int .i64 ci) (x2 := .int .i64 (t : Int)) (x3 := .int .i64 ct) (x4 := .int .i64 (nx - 1)) (x5 := .int .i64 te) (x6 := .int .i64 cc) (x7 := .bool false) (x8 := .slice none 0 0) (x9 := .string ⟨#[]⟩) P2.out
   go_simp
   refine hK.out _ _ (fun h => by cases h) ?_
   clear hK K r0 g0 z0 r1 g1 z1 r2 g2 z2 r3 g3 z3 r4 g4 z4 r5 g5 z5 r6 g6 z6 r7 g7 z7 r8 g8 z8 r9 g9 z9
   try simp only [Act.put, zQ1, zQ2, zQ3]
   refine until_done (by kernel_rfl) ?_ _
   try go_wp2_with fail
   go_meet
   case rel =>
    exact ⟨gp, rfl, belowM10 V2.out PL.out (.int .i64 3) (.int .i64 ci) (.int .i64 (t : Int)) (.int .i64 ct) (.int .i64 (nx - 1)) (.int .i64 te) (.int .i64 cc) (.bool false) (.slice none 0 0) (.string ⟨#[]⟩), blkM10 P2.out, PL.out⟩
  ·skip
   go_simp
   have zk := Blk.new Y0 #[.int .i64 0, .int .i64 0, .int .i64 0, .int .i64 0, .int .i64 0, .int .i64 0, .int .i64 0, .bool false, .slice none 0 0, .string ⟨#[]⟩] 48
   have bz : Below Y0.heap.size Y0 (Y0.alloc (.cells #[.int .i64 0, .int .i64 0, .int .i64 0, .int .i64 0, .int .i64 0, .int .i64 0, .int .i64 0, .bool false, .slice none 0 0, .string ⟨#[]⟩] 48)) := (Below.refl _ _).alloc (Nat.le_refl _) _
   obtain ⟨gp, hgp⟩ : ∃ gp, gp = Y0.heap.size := ⟨_, rfl⟩
   have PL : Hid (X0.heap.size ≤ gp) := by unfold Hid; rw [hgp]; exact V0.out.size
   rw [← hgp] at zk ⊢
   generalize Y0.alloc (.cells #[.int .i64 0, .int .i64 0, .int .i64 0, .int .i64 0, .int .i64 0, .int .i64 0, .int .i64 0, .bool false, .slice none 0 0, .string ⟨#[]⟩] 48) = Y1 at *
   have V1 : Hid (Below X0.heap.size X0 Y1) := V0.out.trans (bz.mono V0.out.size)
   have P1 : Hid (Blk Y1 gp #[.int .i64 0, .int .i64 0, .int .i64 0, .int .i64 0, .int .i64 0, .int .i64 0, .int .i64 0, .bool false, .slice none 0 0, .string ⟨#[]⟩] 48) := zk
   clear zk bz hgp
   refine hK.out _ _ (fun _ _ => ⟨(K0.out.on V1.out K0.out.lt).cell 0 _ rfl, (K0.out.on V1.out K0.out.lt).cell 1 _ rfl, (K0.out.on V1.out K0.out.lt).cell 2 _ rfl, (K0.out.on V1.out K0.out.lt).cell 3 _ rfl, (K0.out.on V1.out K0.out.lt).cell 4 _ rfl, (K0.out.on V1.out K0.out.lt).cell 5 _ rfl, (K0.out.on V1.out K0.out.lt).cell 6 _ rfl, (K0.out.on V1.out K0.out.lt).cell 7 _ rfl, (K0.out.on V1.out K0.out.lt).cell 8 _ rfl, (K0.out.on V1.out K0.out.lt).cell 9 _ rfl, (K0.out.on V1.out K0.out.lt).cell 10 _ rfl, (K0.out.on V1.out K0.out.lt).cell 11 _ rfl, (K0.out.on V1.out K0.out.lt).cell 12 _ rfl⟩) ?_
   clear hK K
   try simp only [Act.put, zQ1, zQ2, zQ3]
   refine uNe 10 (fun K hK => ?_)
   go_simp
   refine (cT Y1 (HLi.out.on (B0.out.trans (V1.out.mono B0.out.size))) (B0.out.trans (V1.out.mono B0.out.size)).size).mono ?_
   rintro e Y2 ⟨rfl, hb⟩
   have V2 : Hid (Below X0.heap.size X0 Y2) := V1.out.trans (hb.mono V1.out.size)
   have P2 := Hid.mk (P1.out.on hb P1.out.lt)
   clear hb
   refine hK.out _ _ (fun _ _ => ⟨(K0.out.on V2.out K0.out.lt).cell 0 _ rfl, (K0.out.on V2.out K0.out.lt).cell 1 _ rfl, (K0.out.on V2.out K0.out.lt).cell 2 _ rfl, (K0.out.on V2.out K0.out.lt).cell 3 _ rfl, (K0.out.on V2.out K0.out.lt).cell 4 _ rfl, (K0.out.on V2.out K0.out.lt).cell 5 _ rfl, (K0.out.on V2.out K0.out.lt).cell 6 _ rfl, (K0.out.on V2.out K0.out.lt).cell 7 _ rfl, (K0.out.on V2.out K0.out.lt).cell 8 _ rfl, (K0.out.on V2.out K0.out.lt).cell 9 _ rfl, (K0.out.on V2.out K0.out.lt).cell 10 _ rfl, (K0.out.on V2.out K0.out.lt).cell 11 _ rfl, (K0.out.on V2.out K0.out.lt).cell 12 _ rfl⟩) ?_
   clear hK K
   try simp only [Act.put, zQ1, zQ2, zQ3]
   refine pF 13 ?_
   refine uNe 15 (fun K hK => ?_)
   obtain ⟨⟨r0, g0⟩, ⟨r1, g1⟩, ⟨r2, g2⟩, ⟨r3, g3⟩, ⟨r4, g4⟩, ⟨r5, g5⟩, ⟨r6, g6⟩, ⟨r7, g7⟩, ⟨r8, g8⟩, ⟨r9, g9⟩, z0, z1, z2, z3, z4, z5, z6, z7, z8, z9⟩ := resM10 (x0 := .int .i64 3) (x1 := .int .i64 ci) (x2 := .int .i64 (t : Int)) (x3 := .int .i64 ct) (x4 := .int .i64 (nx - 1)) (x5 := .int .i64 te) (x6 := .int .i64 cc) (x7 := .bool false) (x8 := .slice none 0 0) (x9 := .string ⟨#[]⟩) P2.out
   go_simp
   refine hK.out _ _ (fun h => by cases h) ?_
   clear hK K r0 g0 z0 r1 g1 z1 r2 g2 z2 r3 g3 z3 r4 g4 z4 r5 g5 z5 r6 g6 z6 r7 g7 z7 r8 g8 z8 r9 g9 z9
   try simp only [Act.put, zQ1, zQ2, zQ3]
   refine until_done (by kernel_rfl) ?_ _
   try go_wp2_with fail
   go_meet
   case rel =>
    exact ⟨gp, rfl, belowM10 V2.out PL.out (.int .i64 3) (.int .i64 ci) (.int .i64 (t : Int)) (.int .i64 ct) (.int .i64 (nx - 1)) (.int .i64 te) (.int .i64 cc) (.bool false) (.slice none 0 0) (.string ⟨#[]⟩), blkM10 P2.out, PL.out⟩
 case rest =>
 obtain ⟨gp, rfl, hbx, hkx, hpx⟩ := hcut
 generalize wc = W1 at *
 have B1 := Hid.mk hbx
 have P1 := Hid.mk hkx
 have PL : Hid (X0.heap.size ≤ gp) := hpx
 clear hbx hkx hpx
 go_wp2_with fail
 go_loopw [7] (fun v7 wr => ∃ (k : Nat) (Ae : Option Addr) (me ce : Nat), k ≤ 4 ∧ kb + k ≤ An0 ∧ v7 = .int .i64 (nx + (k : Int)) ∧ Blk wr gp #[.int .i64 3, .int .i64 ci, .int .i64 (t : Int), .int .i64 ct, .int .i64 (nx - 1), .int .i64 te, .int .i64 cc, .bool false, .slice Ae me ce, .string ⟨#[]⟩] 48 ∧ Owns wr X0.heap.size 71 2 (.slice Ae me ce) (entR ((lg.drop kb).take k)) ∧ Below X0.heap.size X0 wr) (fun v _ => (4 - (intOf v - nx).toNat))
 case atStart => exact ⟨0, none, 0, 0, by omega, by omega, by simp, P1.out, Owns.nil _ _ _ _, B1.out⟩
 case round =>
  obtain ⟨k, Ae, me, ce, hk4, hkn, rfl, hP, hO, hB⟩ := hrel
  have PR := Hid.mk hP
  have OR := Hid.mk hO
  have BR := Hid.mk hB
  have KR := Hid.mk (K0.out.on hB K0.out.lt)
  clear hP hO hB
  obtain ⟨k0, k1, k2, k3, k4, k5, k6, k7, k8, k9, k10, k11, k12⟩ := cellsC13 KR.out
  have c1 := cL wr
  by_cases hlt : kb + k < An0
  rotate_left
  ·have HEq := Hid.mk (HTe.out k (.inl (by omega)) hk4)
   have zz : decide (nx + (k : Int) ≤ cb + (An0 : Int)) = false := decide_eq_false (by have := HKB.out; omega)
   clear hlt
   go_wp2_with fail
   refine c1.mono ?_
   rintro e w2 ⟨rfl, hb2⟩
   have P2 := PR.out.on hb2 PR.out.lt
   have R2 := (R0.out.on BR.out R0.out.lt).on hb2 (Nat.lt_of_lt_of_le R0.out.lt BR.out.size)
   have O2 := Hid.mk (OR.out.on hb2)
   have BF0 : Hid (Below w.heap.size w w2) := (B0.out.trans (BR.out.mono B0.out.size)).trans (hb2.mono (B0.out.trans (BR.out.mono B0.out.size)).size)
   clear hb2 c1 k0 k1 k2 k3 k4 k5 k6 k7 k8 k9 k10 k11 k12
   have j0 := P2.cell 0 _ rfl
   have j1 := P2.cell 1 _ rfl
   have j2 := P2.cell 2 _ rfl
   have j3 := P2.cell 3 _ rfl
   have j4 := P2.cell 4 _ rfl
   have j5 := P2.cell 5 _ rfl
   have j6 := P2.cell 6 _ rfl
   have j7 := P2.cell 7 _ rfl
   have j8 := P2.cell 8 _ rfl
   have j9 := P2.cell 9 _ rfl
   obtain ⟨⟨r0, g0⟩, ⟨r1, g1⟩, ⟨r2, g2⟩, ⟨r3, g3⟩, ⟨r4, g4⟩, ⟨r5, g5⟩, ⟨r6, g6⟩, ⟨r7, g7⟩, ⟨r8, g8⟩, ⟨r9, g9⟩, z0, z1, z2, z3, z4, z5, z6, z7, z8, z9⟩ := resM10 (x0 := .int .i64 3) (x1 := .int .i64 ci) (x2 := .int .i64 (t : Int)) (x3 := .int .i64 ct) (x4 := .int .i64 (nx - 1)) (x5 := .int .i64 te) (x6 := .int .i64 cc) (x7 := .bool false) (x8 := .slice Ae me ce) (x9 := .string ⟨#[]⟩) R2
   have FO := Hid.mk (ownsM10 O2.out (show w.heap.size + 1 < X0.heap.size by have := HZ0.out; omega) (.int .i64 3) (.int .i64 ci) (.int .i64 (t : Int)) (.int .i64 ct) (.int .i64 (nx - 1)) (.int .i64 te) (.int .i64 cc) (.bool false) (.slice Ae me ce) (.string ⟨#[]⟩))
   have FB := Hid.mk (belowM10 BF0.out (show w.heap.size ≤ w.heap.size + 1 by omega) (.int .i64 3) (.int .i64 ci) (.int .i64 (t : Int)) (.int .i64 ct) (.int .i64 (nx - 1)) (.int .i64 te) (.int .i64 cc) (.bool false) (.slice Ae me ce) (.string ⟨#[]⟩))
   have HWW : Hid (w.heap.size ≤ X0.heap.size) := B0.out.size
   clear P2 R2 O2 BF0
   go_wp2_with fail
   refine bodyPost_ret (v := .agg #[.int .i64 3, .int .i64 ci, .int .i64 (t : Int), .int .i64 ct, .int .i64 (nx - 1), .int .i64 te, .int .i64 cc, .bool false, .slice Ae me ce, .string ⟨#[]⟩]) (by simp [results, go_sem, z0, z1, z2, z3, z4, z5, z6, z7, z8, z9]) rfl ⟨⟨.slice Ae me ce, ?_, ?_⟩, FB.out⟩
   ·rw [HE.out]; rfl
   ·rw [HE.out]
    show Owns _ _ _ _ _ (entR ((lg.drop kb).take 4))
    rw [← HEq.out]
    exact FO.out.mono HWW.out
  have zz : decide (nx + (k : Int) ≤ cb + (An0 : Int)) = true := decide_eq_true (by have := HKB.out; omega)
  by_cases hk : k < 4
  rotate_left
  ·have HEq := Hid.mk (HTe.out k (.inr (by omega)) hk4)
   have zk4 : decide ((k : Int) < 4) = false := decide_eq_false (by omega)
   clear hlt hk hk4 hkn
   go_wp2_with fail
   refine c1.mono ?_
   rintro e w2 ⟨rfl, hb2⟩
   have P2 := PR.out.on hb2 PR.out.lt
   have R2 := (R0.out.on BR.out R0.out.lt).on hb2 (Nat.lt_of_lt_of_le R0.out.lt BR.out.size)
   have O2 := Hid.mk (OR.out.on hb2)
   have BF0 : Hid (Below w.heap.size w w2) := (B0.out.trans (BR.out.mono B0.out.size)).trans (hb2.mono (B0.out.trans (BR.out.mono B0.out.size)).size)
   clear hb2 c1 k0 k1 k2 k3 k4 k5 k6 k7 k8 k9 k10 k11 k12
   have j0 := P2.cell 0 _ rfl
   have j1 := P2.cell 1 _ rfl
   have j2 := P2.cell 2 _ rfl
   have j3 := P2.cell 3 _ rfl
   have j4 := P2.cell 4 _ rfl
   have j5 := P2.cell 5 _ rfl
   have j6 := P2.cell 6 _ rfl
   have j7 := P2.cell 7 _ rfl
   have j8 := P2.cell 8 _ rfl
   have j9 := P2.cell 9 _ rfl
   obtain ⟨⟨r0, g0⟩, ⟨r1, g1⟩, ⟨r2, g2⟩, ⟨r3, g3⟩, ⟨r4, g4⟩, ⟨r5, g5⟩, ⟨r6, g6⟩, ⟨r7, g7⟩, ⟨r8, g8⟩, ⟨r9, g9⟩, z0, z1, z2, z3, z4, z5, z6, z7, z8, z9⟩ := resM10 (x0 := .int .i64 3) (x1 := .int .i64 ci) (x2 := .int .i64 (t : Int)) (x3 := .int .i64 ct) (x4 := .int .i64 (nx - 1)) (x5 := .int .i64 te) (x6 := .int .i64 cc) (x7 := .bool false) (x8 := .slice Ae me ce) (x9 := .string ⟨#[]⟩) R2
   have FO := Hid.mk (ownsM10 O2.out (show w.heap.size + 1 < X0.heap.size by have := HZ0.out; omega) (.int .i64 3) (.int .i64 ci) (.int .i64 (t : Int)) (.int .i64 ct) (.int .i64 (nx - 1)) (.int .i64 te) (.int .i64 cc) (.bool false) (.slice Ae me ce) (.string ⟨#[]⟩))
   have FB := Hid.mk (belowM10 BF0.out (show w.heap.size ≤ w.heap.size + 1 by omega) (.int .i64 3) (.int .i64 ci) (.int .i64 (t : Int)) (.int .i64 ct) (.int .i64 (nx - 1)) (.int .i64 te) (.int .i64 cc) (.bool false) (.slice Ae me ce) (.string ⟨#[]⟩))
   have HWW : Hid (w.heap.size ≤ X0.heap.size) := B0.out.size
   clear P2 R2 O2 BF0
   go_wp2_with fail
   refine bodyPost_ret (v := .agg #[.int .i64 3, .int .i64 ci, .int .i64 (t : Int), .int .i64 ct, .int .i64 (nx - 1), .int .i64 te, .int .i64 cc, .bool false, .slice Ae me ce, .string ⟨#[]⟩]) (by simp [results, go_sem, z0, z1, z2, z3, z4, z5, z6, z7, z8, z9]) rfl ⟨⟨.slice Ae me ce, ?_, ?_⟩, FB.out⟩
   ·rw [HE.out]; rfl
   ·rw [HE.out]
    show Owns _ _ _ _ _ (entR ((lg.drop kb).take 4))
    rw [← HEq.out]
    exact FO.out.mono HWW.out
  have z5 : decide (nx + (k : Int) < nx + 4) = true := decide_eq_true (by omega)
  have HT := Hid.mk (HTk.out k hlt)
  obtain ⟨gl, ol, hA0, hgl, dt, dd⟩ : ∃ g off, A0 = some ⟨g, off, none⟩ ∧ g < w.heap.size ∧ w.cell? ⟨g, off + (kb + k) * 2, none⟩ = some (.int .i64 (lg.getD (kb + k) default).term) ∧ w.cell? ⟨g, off + (kb + k) * 2 + 1, none⟩ = some (.string (lg.getD (kb + k) default).data) := by
   obtain ⟨A0', c0', e0, hlk⟩ := ent_look HLi.out
   injection e0 with e1 e2 e3
   rw [e1]
   exact hlk (kb + k) (by rw [HLg.out]; exact hlt)
  subst hA0
  have BW : Hid (Below w.heap.size w wr) := B0.out.trans (BR.out.mono B0.out.size)
  rw [← BW.out.cell (p := ⟨_, _, none⟩) hgl] at dt dd
  have hglw : gl < wr.heap.size := Nat.lt_of_lt_of_le hgl BW.out.size
  generalize lg.getD (kb + k) default = y at *
  obtain ⟨yt, yd⟩ := y
  simp only at dt dd HT
  have w5 : IntKind.i64.wrap (nx + (k : Int) - cb) = nx + (k : Int) - cb := by rw [IntKind.wrap_i64]; omega
  have w6 : IntKind.i64.wrap (nx + (k : Int) - cb - 1) = ((kb + k : Nat) : Int) := by have := HKB.out; rw [IntKind.wrap_i64]; omega
  have q7 : ((kb + k : Nat) : Int) < (An0 : Int) := by omega
  have HK7 : Hid (nx + (((k + 1 : Nat)) : Int) = nx + (k : Int) + 1) := by unfold Hid; omega
  have w7 : IntKind.i64.wrap (nx + (k : Int) + 1) = nx + (k : Int) + 1 := by rw [IntKind.wrap_i64]; omega
  have HLe : Hid ((entR ((lg.drop kb).take k)).length ≤ 2097152) := by unfold Hid; rw [entR_length, List.length_take]; omega
  go_wp2_with fail
  refine c1.mono ?_
  rintro e w2 ⟨rfl, hb2⟩
  have V2 := Hid.mk hb2
  clear hb2 c1 k0 k1 k2 k3 k4 k5 k6 k7 k8 k9 k10 k11 k12
  go_wp2_with fail
  have hbd : Below wr.heap.size wr w2.drew := V2.out.drew
  refine wp_region_until (fun w' => w'.cell? ⟨gp, 8, none⟩ = some (.slice Ae me ce) ∧ w'.cell? ⟨w.heap.size, 6, none⟩ = some (.int .i64 cb) ∧ w'.cell? ⟨w.heap.size, 8, none⟩ = some (.slice (some ⟨gl, ol, none⟩) An0 Ac0) ∧ w'.cell? ⟨gl, ol + (kb + k) * 2, none⟩ = some (.int .i64 yt) ∧ w'.cell? ⟨gl, ol + (kb + k) * 2 + 1, none⟩ = some (.string yd)) (fun i => i == 14) 15 (by rfl) (by kernel_rfl) ?_
  generalize w2.drew = Y0 at *
  have VY := Hid.mk hbd
  have PY := Hid.mk (PR.out.on hbd PR.out.lt)
  have KY := Hid.mk (KR.out.on hbd KR.out.lt)
  have OY := Hid.mk (OR.out.on hbd)
  have BY : Hid (Below X0.heap.size X0 Y0) := BR.out.trans (hbd.mono BR.out.size)
  clear hbd
  have SS0 := Hid.mk (show (fun w' => w'.cell? ⟨gp, 8, none⟩ = some (.slice Ae me ce) ∧ w'.cell? ⟨w.heap.size, 6, none⟩ = some (.int .i64 cb) ∧ w'.cell? ⟨w.heap.size, 8, none⟩ = some (.slice (some ⟨gl, ol, none⟩) An0 Ac0) ∧ w'.cell? ⟨gl, ol + (kb + k) * 2, none⟩ = some (.int .i64 yt) ∧ w'.cell? ⟨gl, ol + (kb + k) * 2 + 1, none⟩ = some (.string yd)) Y0 from ⟨PY.out.cell 8 _ rfl, KY.out.cell 6 _ rfl, KY.out.cell 8 _ rfl, (by rw [VY.out.cell (p := ⟨gl, _, none⟩) hglw]; exact dt), (by rw [VY.out.cell (p := ⟨gl, _, none⟩) hglw]; exact dd)⟩)
  generalize hkk : kb + k = kx at *
  have HKX : Hid (kb + k = kx) := hkk
  clear hkk
  refine tF 0 SS0.out ?_
  refine tF 1 SS0.out ?_
  refine tF 2 SS0.out ?_
  refine tF 3 SS0.out ?_
  refine tF 4 SS0.out ?_
  refine tF 5 SS0.out ?_
  refine tF 6 SS0.out ?_
  refine tF 7 SS0.out ?_
  refine tF 8 SS0.out ?_
  refine tF 9 SS0.out ?_
  refine tF 10 SS0.out ?_
  have bz : Below Y0.heap.size Y0 (Y0.alloc (.cells #[.int .i64 yt, .string yd] 71)) := (Below.refl _ _).alloc (Nat.le_refl _) _
  obtain ⟨nA, nm, nc, Y2, r5, hO5, hb5, hk5, -⟩ := run_append_row (P := Try.prog) Y0 27 27 71 (.agg #[.int .i64 0, .string ⟨#[]⟩]) 2 24 Try.underlying27 Try.infoEnt rfl (by omega) X0.heap.size (.slice Ae me ce) (entR ((lg.drop kb).take k)) OY.out [.int .i64 yt, .string yd] rfl (ent_cellsC _ _) HLe.out (by omega) BY.out.size
  refine uNe 11 (fun K hK => ?_)
  go_simp
  refine hK.out _ _ (fun _ _ => ⟨(PY.out.on bz PY.out.lt).cell 8 _ rfl, (KY.out.on bz KY.out.lt).cell 6 _ rfl, (KY.out.on bz KY.out.lt).cell 8 _ rfl, (by rw [(VY.out.trans (bz.mono VY.out.size)).cell (p := ⟨gl, _, none⟩) hglw]; exact dt), (by rw [(VY.out.trans (bz.mono VY.out.size)).cell (p := ⟨gl, _, none⟩) hglw]; exact dd)⟩) ?_
  clear hK K bz
  try simp only [Act.put, zQ1, zQ2, zQ3]
  refine uNe 12 (fun K hK => ?_)
  refine step_append_run (by rfl) (.tmp 55) (.tmp 65) 27 (by rfl) _ _ _ _ (by rfl) (by rfl) r5 ?_
  have PY2 : Hid (Blk Y2 gp #[.int .i64 3, .int .i64 ci, .int .i64 (t : Int), .int .i64 ct, .int .i64 (nx - 1), .int .i64 te, .int .i64 cc, .bool false, .slice Ae me ce, .string ⟨#[]⟩] 48) := (hk5 gp PY.out.lt (OY.out.notBlk PY.out (by decide))).trans PY.out
  have KY2 : Hid (Blk Y2 w.heap.size #[.int .i64 ci, .int .i64 cp, .int .i64 ct, .int .i64 cv, .int .i64 cr, .int .i64 cd, .int .i64 cb, .int .i64 cbt, .slice (some ⟨gl, ol, none⟩) An0 Ac0, .int .i64 cc, .slice A1 An1 Ac1, .slice (some ⟨g2, 0, none⟩) An2 Ac2, .slice A3 An3 Ac3] 29) := (hk5 _ KY.out.lt (OY.out.notBlk KY.out (by decide))).trans KY.out
  have hglk : Y2.heap[gl]? = Y0.heap[gl]? := hk5 gl (Nat.lt_of_lt_of_le hglw VY.out.size) (fun e => by have := (OY.out.lt gl e).1; have := B0.out.size; omega)
  have OY2 : Hid (Owns Y2 X0.heap.size 71 2 (.slice nA nm nc) (entR ((lg.drop kb).take (k + 1)))) := by unfold Hid; rw [HT.out, entR_append]; exact hO5
  have BY2 : Hid (Below X0.heap.size X0 Y2) := BY.out.trans hb5
  refine hK.out _ _ (fun _ _ => ⟨PY2.out.cell 8 _ rfl, KY2.out.cell 6 _ rfl, KY2.out.cell 8 _ rfl, (by rw [World.cell?_of_block (w := Y0) hglk]; exact SS0.out.2.2.2.1), (by rw [World.cell?_of_block (w := Y0) hglk]; exact SS0.out.2.2.2.2)⟩) ?_
  clear hK K hO5 hb5 hk5 r5 SS0
  try simp only [Act.put, zQ1, zQ2, zQ3]
  refine pF 13 ?_
  have f8 := PY2.out.free 8
  have o8 := PY2.out.cell 8 _ rfl
  refine uNe 14 (fun K hK => ?_)
  go_simp
  refine hK.out _ _ (fun h => by cases h) ?_
  clear hK K f8 o8
  try simp only [Act.put, zQ1, zQ2, zQ3]
  refine until_done (by kernel_rfl) ?_ _
  have FP := Hid.mk (PY2.out.set 8 (.slice nA nm nc))
  have FO : Hid (Owns (Y2.setCell ⟨gp, 8, none⟩ (.slice nA nm nc)) X0.heap.size 71 2 (.slice nA nm nc) (entR ((lg.drop kb).take (k + 1)))) := OY2.out.other (OY2.out.notBlk PY2.out (by decide)) 8 _
  have FB : Hid (Below X0.heap.size X0 (Y2.setCell ⟨gp, 8, none⟩ (.slice nA nm nc))) := BY2.out.setCell PL.out _
  clear PY PY2 KY KY2 OY OY2 BY BY2 VY hglk
  try go_wp2_with fail
  go_roundw
  case rel => exact ⟨k + 1, nA, nm, nc, by omega, by have := HKX.out; omega, by rw [HK7.out], FP.out, FO.out, FB.out⟩
  case measure => simp [intOf]; omega
end Go.Proofs.Ytlhoonohpfpkbaa
namespace Go.Proofs.Ytlhoonohpfpkbaa
open Go.ChangeShapes Go.WideShapes Go.ChangeAt Go.RowKit Go.PlainAid
set_option linter.unusedVariables false
theorem toSS (ci cp ct cv cr cd cb cbt : Int) (lg : List Ent) (cc : Int) (ys ns ms : List Int) (u0 u1 u2 u3 : Value) (t : Nat) (w : World) (base0 : Nat) (hr : CoRows w base0 ⟨ci, cp, ct, cv, cr, cd, cb, cbt, lg, cc, ys, ns, ms⟩ u0 u1 u2 u3) (hs : ShortC ⟨ci, cp, ct, cv, cr, cd, cb, cbt, lg, cc, ys, ns, ms⟩) (h0 : 0 ≤ cb) (h1 : cb ≤ 100000) (hln : lg.length ≤ 60) (ht : t < ns.length) (hnx0 : 1 ≤ ns.getD t 0) (hnx1 : ns.getD t 0 ≤ cb + (lg.length : Int) + 1) : Calls Try.prog 62 #[.agg #[.int .i64 ci, .int .i64 cp, .int .i64 ct, .int .i64 cv, .int .i64 cr, .int .i64 cd, .int .i64 cb, .int .i64 cbt, u0, .int .i64 cc, u1, u2, u3], .int .i64 (t : Int)] w fun e w' => (∃ u, e = .returned (vMg (sendM ⟨ci, cp, ct, cv, cr, cd, cb, cbt, lg, cc, ys, ns, ms⟩ (t : Int)) u) ∧ Owns w' w.heap.size 71 2 u (entR (sendM ⟨ci, cp, ct, cv, cr, cd, cb, cbt, lg, cc, ys, ns, ms⟩ (t : Int)).ents)) ∧ Below w.heap.size w w' := by
 by_cases hle0 : ns.getD t 0 ≤ cb
 ·exact toS0 ci cp ct cv cr cd cb cbt lg cc ys ns ms u0 u1 u2 u3 t w base0 hr hs h0 h1 hln ht hnx0 hnx1 hle0
 ·exact toS1 ci cp ct cv cr cd cb cbt lg cc ys ns ms u0 u1 u2 u3 t w base0 hr hs h0 h1 hln ht hnx0 hnx1 hle0
def MsB (w : World) (b : Nat) (us : Value) (M : List Mg) : Prop := ∃ L, MsO w b us L ∧ L.map Prod.fst = M
theorem MsB.on {w w' : World} {b : Nat} {us : Value} {M : List Mg} (h : MsB w b us M) (hb : Below w.heap.size w w') : MsB w' b us M := by
 obtain ⟨L, h, e⟩ := h
 exact ⟨L, h.on hb, e⟩
theorem MsB.mono {w : World} {b c : Nat} {us : Value} {M : List Mg} (h : MsB w b us M) (hb : c ≤ b) : MsB w c us M := by
 obtain ⟨L, h, e⟩ := h
 exact ⟨L, h.mono hb, e⟩
theorem othL_yes {id : Int} {k : Nat} (h : (k : Int) = id) : othL id (k + 1) = othL id k := by rw [othL]; exact if_pos h
theorem othL_no {id : Int} {k : Nat} (h : ¬ (k : Int) = id) : othL id (k + 1) = othL id k ++ [(k : Int)] := by rw [othL]; exact if_neg h
theorem MsO.snoc {w0 w1 w2 : World} {base : Nat} {v v' u : Value} {L : List (Mg × Value)} {y : Mg} (h : MsO w0 base v L) (hb : Below w0.heap.size w0 w1) (hu : Owns w1 w0.heap.size 71 2 u (entR y.ents)) (hbase : base ≤ w0.heap.size) (hO : Owns w2 base 48 10 v' (mgR L ++ [mgC (y, u)])) (hk : ∀ g, g < w1.heap.size → v.ownBlock ≠ some g → w2.heap[g]? = w1.heap[g]?) : MsO w2 base v' (L ++ [(y, u)]) := by
 have h1 := h.on hb
 refine ⟨by rw [mgR_append]; exact hO, fun q hq => ?_, ?_⟩
 ·rcases List.mem_append.1 hq with hq | hq
  ·exact (h1.e q hq).kept fun g hg e => hk g hg fun e' => by
    obtain ⟨cs, fz, e1⟩ := h1.r.kind e'
    exact (h1.e q hq).notBlk e1 (by decide) e
  ·rw [List.mem_singleton.1 hq]
   exact (hu.mono hbase).kept fun g hg e => hk g hg fun e' => by
    obtain ⟨cs, fz, e1⟩ := h1.r.kind e'
    exact hu.notBlk e1 (by decide) e
 ·rw [List.pairwise_append]
  refine ⟨h.a, List.pairwise_singleton _ _, fun a ha b hb => ?_⟩
  rw [List.mem_singleton.1 hb]
  intro g e1 e2
  have := ((h.e a ha).lt g e1).2
  have := (hu.lt g e2).1
  omega
set_option maxRecDepth 20000 in
set_option maxHeartbeats 8000000 in
theorem toAllS (ci cp ct cv cr cd cb cbt : Int) (lg : List Ent) (cc : Int) (ys ns ms : List Int) (u0 u1 u2 u3 : Value) (w : World) (base0 : Nat) (hr : CoRows w base0 ⟨ci, cp, ct, cv, cr, cd, cb, cbt, lg, cc, ys, ns, ms⟩ u0 u1 u2 u3) (hs : ShortC ⟨ci, cp, ct, cv, cr, cd, cb, cbt, lg, cc, ys, ns, ms⟩) (h0 : 0 ≤ cb) (h1 : cb ≤ 100000) (hln : lg.length ≤ 60) (hp0 : 1 ≤ cp) (hp5 : cp ≤ 5) (hnl : (ns.length : Int) = cp) (hnx : ∀ j, j < ns.length → 1 ≤ ns.getD j 0 ∧ ns.getD j 0 ≤ cb + (lg.length : Int) + 1) :
  Calls Try.prog 40 #[.agg #[.int .i64 ci, .int .i64 cp, .int .i64 ct, .int .i64 cv, .int .i64 cr, .int .i64 cd, .int .i64 cb, .int .i64 cbt, u0, .int .i64 cc, u1, u2, u3]] w fun e w' => (∃ us, e = .returned us ∧ MsB w' w.heap.size us (toAll ⟨ci, cp, ct, cv, cr, cd, cb, cbt, lg, cc, ys, ns, ms⟩)) ∧ Below w.heap.size w w' := by
 obtain ⟨n, hn⟩ : ∃ n : Nat, cp = (n : Int) := ⟨cp.toNat, by omega⟩
 subst hn
 have HR := Hid.mk hr
 have HTA : Hid (toAll ⟨ci, (n : Int), ct, cv, cr, cd, cb, cbt, lg, cc, ys, ns, ms⟩ = (othL ci n).map (sendM ⟨ci, (n : Int), ct, cv, cr, cd, cb, cbt, lg, cc, ys, ns, ms⟩)) := by unfold Hid toAll; simp only [Int.toNat_natCast]
 obtain ⟨A0, Ac0, A1, Ac1, A2, Ac2, A3, Ac3, rfl, rfl, rfl, rfl⟩ := hr.shape
 have cT := fun (t : Nat) wx hx ht => toSS ci (n : Int) ct cv cr cd cb cbt lg cc ys ns ms (.slice A0 lg.length Ac0) (.slice A1 ys.length Ac1) (.slice A2 ns.length Ac2) (.slice A3 ms.length Ac3) t wx base0 hx hs h0 h1 hln ht (hnx t ht).1 (hnx t ht).2
 have hn5 : n ≤ 5 := by omega
 have HNl : Hid (ns.length = n) := by unfold Hid; omega
 simp only at HR ⊢
 generalize lg.length = An0 at *
 generalize ys.length = An1 at *
 generalize hn2 : ns.length = An2 at *
 generalize ms.length = An3 at *
 have HT2 : Hid (∀ t : Nat, t < n → t < An2) := fun t h => by have := HNl.out; omega
 have HY : Hid (∀ k : Nat, (k : Int) = ci → othL ci (k + 1) = othL ci k) := fun k h => othL_yes h
 have HN : Hid (∀ k : Nat, ¬ (k : Int) = ci → othL ci (k + 1) = othL ci k ++ [(k : Int)]) := fun k h => othL_no h
 have HLo : Hid (∀ k, (othL ci k).length ≤ k) := fun k => othL_len ci k
 clear hr hs hn2 hnl hnx HNl h0 h1 hln hp0 hp5
 obtain ⟨X0, hX0⟩ : ∃ X0, X0 = w.alloc (.cells #[.int .i64 ci, .int .i64 (n : Int), .int .i64 ct, .int .i64 cv, .int .i64 cr, .int .i64 cd, .int .i64 cb, .int .i64 cbt, .slice A0 An0 Ac0, .int .i64 cc, .slice A1 An1 Ac1, .slice A2 An2 Ac2, .slice A3 An3 Ac3] 29) := ⟨_, rfl⟩
 have B0 : Hid (Below w.heap.size w X0) := by unfold Hid; rw [hX0]; exact (Below.refl _ _).alloc (Nat.le_refl _) _
 have K0 : Hid (Blk X0 w.heap.size #[.int .i64 ci, .int .i64 (n : Int), .int .i64 ct, .int .i64 cv, .int .i64 cr, .int .i64 cd, .int .i64 cb, .int .i64 cbt, .slice A0 An0 Ac0, .int .i64 cc, .slice A1 An1 Ac1, .slice A2 An2 Ac2, .slice A3 An3 Ac3] 29) := by unfold Hid; rw [hX0]; exact Blk.new w _ _
 go_enter Try.func40, Try.ntmps40
 go_wp2_with fail
 rw [← hX0]
 have hsz0 : X0.heap.size = w.heap.size + 1 := by rw [hX0]; simp
 clear hX0
 obtain ⟨X1, hX1⟩ : ∃ X1, X1 = X0.alloc (.cells #[] 48) := ⟨_, rfl⟩
 have B1 : Hid (Below X0.heap.size X0 X1) := by unfold Hid; rw [hX1]; exact (Below.refl _ _).alloc (Nat.le_refl _) _
 have O1 : Hid (Owns X1 X0.heap.size 48 10 (.slice (some ⟨X0.heap.size, 0, none⟩) 0 0) (mgR [])) := by unfold Hid; rw [hX1]; exact Owns.empty X0 X0.heap.size 48 10 (Nat.le_refl _)
 have HZ0 : Hid (X0.heap.size = w.heap.size + 1) := hsz0
 rw [← hsz0]
 try rw [← hX1]
 clear hX1 hsz0
 go_loopw [3, 4] (fun v3 v4 wr => ∃ k : Nat, k ≤ n ∧ v4 = .int .i64 (k : Int) ∧ MsB wr X0.heap.size v3 ((othL ci k).map (sendM ⟨ci, (n : Int), ct, cv, cr, cd, cb, cbt, lg, cc, ys, ns, ms⟩)) ∧ Below X0.heap.size X0 wr) (fun _ v _ => n - (intOf v).toNat)
 case atStart => exact ⟨0, by omega, rfl, ⟨[], ⟨O1.out, fun p hp => (by cases hp), List.Pairwise.nil⟩, rfl⟩, B1.out⟩
 case round =>
  obtain ⟨k, hk, rfl, ⟨L, hM, hLM⟩, hb⟩ := hrel
  have HM := Hid.mk hM
  have HLM : Hid (L.map Prod.fst = (othL ci k).map (sendM ⟨ci, (n : Int), ct, cv, cr, cd, cb, cbt, lg, cc, ys, ns, ms⟩)) := hLM
  have BR := Hid.mk hb
  have BW : Hid (Below w.heap.size w wr) := B0.out.trans (hb.mono B0.out.size)
  have KB := Hid.mk (K0.out.on hb K0.out.lt)
  obtain ⟨Av, av, cv', rfl⟩ := hM.r.shape
  have hLl : L.length ≤ n := by
   have := congrArg List.length hLM
   rw [List.length_map, List.length_map] at this
   have := HLo.out k
   omega
  have HLl : Hid ((mgR L).length ≤ 2097152) := by unfold Hid; rw [mgR_length]; omega
  clear hM hLM hb hLl
  by_cases hlt : k < n
  ·have q2 : (k : Int) < (n : Int) := by omega
   obtain ⟨k0, k1, k2, k3, k4, k5, k6, k7, k8, k9, k10, k11, k12⟩ := cellsC13 KB.out
   by_cases he : (k : Int) = ci
   ·have e1 : ((k : Int) != ci) = false := by rw [he]; exact bne_self_eq_false _
    have HE := Hid.mk (HY.out k he)
    clear he
    go_wp2_with fail
    go_roundw
    case rel => exact ⟨k + 1, by omega, by go_num, ⟨L, HM.out, by rw [HE.out]; exact HLM.out⟩, BR.out⟩
    case measure => simp [intOf]; omega
   ·have e1 : ((k : Int) != ci) = true := bne_iff_ne.2 he
    have HE := Hid.mk (HN.out k he)
    clear he
    have c1 := cT k wr (HR.out.on BW.out) (HT2.out k hlt)
    generalize hy : sendM ⟨ci, (n : Int), ct, cv, cr, cd, cb, cbt, lg, cc, ys, ns, ms⟩ (k : Int) = y at *
    have HYy : Hid (sendM ⟨ci, (n : Int), ct, cv, cr, cd, cb, cbt, lg, cc, ys, ns, ms⟩ (k : Int) = y) := hy
    clear hy
    unfold vMg at c1
    go_wp2_with fail
    refine c1.mono ?_
    rintro e w2 ⟨⟨u, rfl, hu⟩, hb2⟩
    have V2 := Hid.mk hb2
    have HU := Hid.mk hu
    obtain ⟨Ue, Un, Uc, rfl⟩ := hu.shape
    have HO2 := Hid.mk (HM.out.r.on hb2)
    have BR2 : Hid (Below X0.heap.size X0 w2) := BR.out.trans (hb2.mono BR.out.size)
    clear hu hb2 c1
    go_wp2_with (at_builtin; refine wpList_append_row rfl (.tmp 16) (.tmp 20) 30 48 (.agg #[.int .i64 0, .int .i64 0, .int .i64 0, .int .i64 0, .int .i64 0, .int .i64 0, .int .i64 0, .bool false, .slice none 0 0, .string ⟨#[]⟩]) 10 104 rfl Try.underlying30 Try.infoMsg rfl (by omega) X0.heap.size _ (mgR L) rfl HO2.out [.int .i64 y.kind, .int .i64 y.frm, .int .i64 y.dst, .int .i64 y.term, .int .i64 y.index, .int .i64 y.iterm, .int .i64 y.commit, .bool y.yes, .slice Ue Un Uc, .string y.data] rfl (msg_one (y, .slice Ue Un Uc) rfl) rfl HLl.out (by omega) BR2.out.size ?_; intro v' Y1 hO1 hb1 hk1 _; obtain ⟨A2, m2, c2, rfl⟩ := hO1.shape; refine Shut.out ?_)
    have FM : Hid (MsO Y1 X0.heap.size (.slice A2 m2 c2) (L ++ [(y, .slice Ue Un Uc)])) := HM.out.snoc V2.out HU.out BR.out.size hO1 hk1
    have FB : Hid (Below X0.heap.size X0 Y1) := BR2.out.trans hb1
    clear hO1 hb1 hk1
    unfold Shut
    go_wp2_with fail
    go_roundw
    case rel => exact ⟨k + 1, by omega, by go_num, ⟨_, FM.out, by rw [HE.out, List.map_append, List.map_append, HLM.out]; simp only [List.map_cons, List.map_nil]; rw [HYy.out]⟩, FB.out⟩
    case measure => simp [intOf]; omega
  ·obtain rfl : k = n := by omega
   have FM : Hid (MsB wr w.heap.size (.slice Av av cv') (toAll ⟨ci, (k : Int), ct, cv, cr, cd, cb, cbt, lg, cc, ys, ns, ms⟩)) := ⟨L, HM.out.mono B0.out.size, by rw [HTA.out]; exact HLM.out⟩
   have k1 := KB.out.cell 1 _ rfl
   go_wp2_with fail
   go_ret
   exact ⟨⟨_, rfl, FM.out⟩, BW.out⟩
end Go.Proofs.Ytlhoonohpfpkbaa
namespace Go.Proofs.Ytlhoonohpfpkbaa
open Go.ChangeShapes Go.WideShapes Go.ChangeAt Go.RowKit Go.PlainAid
set_option linter.unusedVariables false
set_option maxRecDepth 20000 in
set_option maxHeartbeats 16000000 in
theorem coreS0 (ci cp ct cv cr cd cb cbt : Int) (lg : List Ent) (cc : Int) (ys ns ms : List Int) (u0 u1 u2 u3 : Value) (w : World) (B : Nat) (hl : Lies w B 2 u0 (entR lg)) (hy : NumsV w B u1 ys) (hn : NumsV w B u2 ns) (hm : NumsV w B u3 ms) (hs : ShortC ⟨ci, cp, ct, cv, cr, cd, cb, cbt, lg, cc, ys, ns, ms⟩) (hB : B ≤ w.heap.size) (hno : ¬ COk0 ⟨ci, cp, ct, cv, cr, cd, cb, cbt, lg, cc, ys, ns, ms⟩) : Calls Try.prog 22 #[.agg #[.int .i64 ci, .int .i64 cp, .int .i64 ct, .int .i64 cv, .int .i64 cr, .int .i64 cd, .int .i64 cb, .int .i64 cbt, u0, .int .i64 cc, u1, u2, u3]] w fun e w' => e = .returned (.bool (corOk ⟨ci, cp, ct, cv, cr, cd, cb, cbt, lg, cc, ys, ns, ms⟩)) ∧ Below w.heap.size w w' := by
 have HYv : Hid (NumsV w B u1 ys ∧ NumsV w B u2 ns ∧ NumsV w B u3 ms) := ⟨hy, hn, hm⟩
 have HLg : Hid (Lies w B 2 u0 (entR lg)) := hl
 have HBB : Hid (B ≤ w.heap.size) := hB
 have HS : Hid (ShortC ⟨ci, cp, ct, cv, cr, cd, cb, cbt, lg, cc, ys, ns, ms⟩) := hs
 obtain ⟨A0, c0, rfl, _⟩ := ent_look hl
 obtain ⟨A1, c1, rfl, _, _, hc1⟩ := hy
 obtain ⟨A2, c2, rfl, _, _, hc2⟩ := hn
 obtain ⟨A3, c3, rfl, _, _, hc3⟩ := hm
 have H1 : Hid (∀ j, j < ys.length → ∃ g off, A1 = some ⟨g, off, none⟩ ∧ g < B ∧ w.cell? ⟨g, off + j, none⟩ = some (.int .i64 (ys.getD j 0))) := hc1
 have H2 : Hid (∀ j, j < ns.length → ∃ g off, A2 = some ⟨g, off, none⟩ ∧ g < B ∧ w.cell? ⟨g, off + j, none⟩ = some (.int .i64 (ns.getD j 0))) := hc2
 have H3 : Hid (∀ j, j < ms.length → ∃ g off, A3 = some ⟨g, off, none⟩ ∧ g < B ∧ w.cell? ⟨g, off + j, none⟩ = some (.int .i64 (ms.getD j 0))) := hc3
 clear hc1 hc2 hc3
 have a1 := inB cp 1 5
 have a2 := inB ci 0 (cp - 1)
 have cW := fun wx h1 h2 => walS ci cp ct cv cr cd cb cbt lg cc A0 lg.length c0 (.slice A1 ys.length c1) (.slice A2 ns.length c2) (.slice A3 ms.length c3) wx B h1 hs.n h2
 have cO := fun ux wx h1 h2 => specWalOk (corW ⟨ci, cp, ct, cv, cr, cd, cb, cbt, lg, cc, ys, ns, ms⟩) (.agg #[.int .i64 ct, .int .i64 cv, .int .i64 cb, .int .i64 cbt, ux]) wx wx.heap.size ⟨_, rfl, h1⟩ ⟨Nat.le_trans hs.n (by decide), fun e he => Nat.le_trans (hs.d e he) (by decide)⟩ h2
 have cL := fun h0 h1 wx => lastS ci cp ct cv cr cd cb cbt cc A0 lg.length c0 (.slice A1 ys.length c1) (.slice A2 ns.length c2) (.slice A3 ms.length c3) wx h0 h1 hs.n
 have a4 := inB cc cb (cb + (lg.length : Int))
 have HCl : Hid (cLast ⟨ci, cp, ct, cv, cr, cd, cb, cbt, lg, cc, ys, ns, ms⟩ = cb + (lg.length : Int)) := rfl
 have HWl : Hid (walOk (corW ⟨ci, cp, ct, cv, cr, cd, cb, cbt, lg, cc, ys, ns, ms⟩) = true → 0 ≤ cb ∧ cb ≤ 100000) := fun h => (walOk_in h).2.2.1
 have q0 : (lg.length : Int) ≤ 1048576 := by have := hs.n; simp only at this; omega
 have qy : (ys.length : Int) ≤ 1048576 := by have := hs.y; simp only at this; omega
 have qn : (ns.length : Int) ≤ 1048576 := by have := hs.q; simp only at this; omega
 have qm : (ms.length : Int) ≤ 1048576 := by have := hs.m; simp only at this; omega
 clear hl hB
 have HE : Hid (corOk ⟨ci, cp, ct, cv, cr, cd, cb, cbt, lg, cc, ys, ns, ms⟩ = false) := corOk_no fun q => hno q.1
 generalize lg.length = n0 at *
 generalize ys.length = n1 at *
 generalize ns.length = n2 at *
 generalize ms.length = n3 at *
 obtain ⟨X0, hX0⟩ : ∃ X0, X0 = w.alloc (.cells #[.int .i64 ci, .int .i64 cp, .int .i64 ct, .int .i64 cv, .int .i64 cr, .int .i64 cd, .int .i64 cb, .int .i64 cbt, .slice A0 n0 c0, .int .i64 cc, .slice A1 n1 c1, .slice A2 n2 c2, .slice A3 n3 c3] 29) := ⟨_, rfl⟩
 have B0 : Hid (Below w.heap.size w X0) := by unfold Hid; rw [hX0]; exact (Below.refl _ _).alloc (Nat.le_refl _) _
 have K0 : Hid (Blk X0 w.heap.size #[.int .i64 ci, .int .i64 cp, .int .i64 ct, .int .i64 cv, .int .i64 cr, .int .i64 cd, .int .i64 cb, .int .i64 cbt, .slice A0 n0 c0, .int .i64 cc, .slice A1 n1 c1, .slice A2 n2 c2, .slice A3 n3 c3] 29) := by unfold Hid; rw [hX0]; exact Blk.new w _ _
 cases h1 : inIt cp 1 5 <;> rw [h1] at a1
 ·clear h1 a2 cW cO cL a4
  go_enter Try.func22, Try.ntmps22
  go_wp2_with fail
  rw [← hX0]
  clear hX0
  refine wp_region_until (fun w' => w'.cell? ⟨w.heap.size, 0, none⟩ = some (.int .i64 ci) ∧ w'.cell? ⟨w.heap.size, 1, none⟩ = some (.int .i64 cp) ∧ w'.cell? ⟨w.heap.size, 2, none⟩ = some (.int .i64 ct) ∧ w'.cell? ⟨w.heap.size, 3, none⟩ = some (.int .i64 cv) ∧ w'.cell? ⟨w.heap.size, 4, none⟩ = some (.int .i64 cr) ∧ w'.cell? ⟨w.heap.size, 5, none⟩ = some (.int .i64 cd) ∧ w'.cell? ⟨w.heap.size, 6, none⟩ = some (.int .i64 cb) ∧ w'.cell? ⟨w.heap.size, 7, none⟩ = some (.int .i64 cbt) ∧ w'.cell? ⟨w.heap.size, 8, none⟩ = some (.slice A0 n0 c0) ∧ w'.cell? ⟨w.heap.size, 9, none⟩ = some (.int .i64 cc) ∧ w'.cell? ⟨w.heap.size, 10, none⟩ = some (.slice A1 n1 c1) ∧ w'.cell? ⟨w.heap.size, 11, none⟩ = some (.slice A2 n2 c2) ∧ w'.cell? ⟨w.heap.size, 12, none⟩ = some (.slice A3 n3 c3)) (fun _ => false) 36 (by rfl) (by kernel_rfl) ?_
  have V0 : Hid (Below w.heap.size w X0.drew) := B0.out.trans ((Below.refl _ _).drew.mono B0.out.size)
  have KY0 := Hid.mk (K0.out.on ((Below.refl _ X0).drew) K0.out.lt)
  generalize X0.drew = Y0 at *
  have SS0 := Hid.mk (cellsC13 KY0.out)
  refine pF 0 ?_
  refine tF 1 SS0.out ?_
  refine uNe 2 (fun K hK => ?_)
  go_simp
  refine (a1 _).mono ?_
  rintro e w' ⟨rfl, rfl⟩
  refine hK.out _ _ (fun _ h => h) ?_
  clear hK K
  try simp only [Act.put, zQ1, zQ2, zQ3]
  refine pF 3 ?_
  refine pF 4 ?_
  refine sF 5 ?_
  refine sF 6 ?_
  refine sF 7 ?_
  refine sF 8 ?_
  refine sF 9 ?_
  refine sF 10 ?_
  refine sF 11 ?_
  refine pF 12 ?_
  refine pF 13 ?_
  refine sF 14 ?_
  refine sF 15 ?_
  refine sF 16 ?_
  refine sF 17 ?_
  refine pF 18 ?_
  refine pF 19 ?_
  refine sF 20 ?_
  refine sF 21 ?_
  refine sF 22 ?_
  refine sF 23 ?_
  refine sF 24 ?_
  refine pF 25 ?_
  refine pF 26 ?_
  refine sF 27 ?_
  refine sF 28 ?_
  refine sF 29 ?_
  refine sF 30 ?_
  refine sF 31 ?_
  refine sF 32 ?_
  refine sF 33 ?_
  refine sF 34 ?_
  refine pF 35 ?_
  refine until_done (by kernel_rfl) ?_ _
  go_wp2_with fail
  go_ret
  exact ⟨by rw [HE.out]; rfl, V0.out⟩
 obtain ⟨p0, p1⟩ := inIt_in _ _ _ h1
 have w1 : IntKind.i64.wrap (cp - 1) = cp - 1 := by rw [IntKind.wrap_i64]; omega
 cases h2 : inIt ci 0 (cp - 1) <;> rw [h2] at a2
 ·clear h1 h2 cW cO cL a4
  go_enter Try.func22, Try.ntmps22
  go_wp2_with fail
  rw [← hX0]
  clear hX0
  refine wp_region_until (fun w' => w'.cell? ⟨w.heap.size, 0, none⟩ = some (.int .i64 ci) ∧ w'.cell? ⟨w.heap.size, 1, none⟩ = some (.int .i64 cp) ∧ w'.cell? ⟨w.heap.size, 2, none⟩ = some (.int .i64 ct) ∧ w'.cell? ⟨w.heap.size, 3, none⟩ = some (.int .i64 cv) ∧ w'.cell? ⟨w.heap.size, 4, none⟩ = some (.int .i64 cr) ∧ w'.cell? ⟨w.heap.size, 5, none⟩ = some (.int .i64 cd) ∧ w'.cell? ⟨w.heap.size, 6, none⟩ = some (.int .i64 cb) ∧ w'.cell? ⟨w.heap.size, 7, none⟩ = some (.int .i64 cbt) ∧ w'.cell? ⟨w.heap.size, 8, none⟩ = some (.slice A0 n0 c0) ∧ w'.cell? ⟨w.heap.size, 9, none⟩ = some (.int .i64 cc) ∧ w'.cell? ⟨w.heap.size, 10, none⟩ = some (.slice A1 n1 c1) ∧ w'.cell? ⟨w.heap.size, 11, none⟩ = some (.slice A2 n2 c2) ∧ w'.cell? ⟨w.heap.size, 12, none⟩ = some (.slice A3 n3 c3)) (fun _ => false) 36 (by rfl) (by kernel_rfl) ?_
  have V0 : Hid (Below w.heap.size w X0.drew) := B0.out.trans ((Below.refl _ _).drew.mono B0.out.size)
  have KY0 := Hid.mk (K0.out.on ((Below.refl _ X0).drew) K0.out.lt)
  generalize X0.drew = Y0 at *
  have SS0 := Hid.mk (cellsC13 KY0.out)
  refine pF 0 ?_
  refine tF 1 SS0.out ?_
  refine uNe 2 (fun K hK => ?_)
  go_simp
  refine (a1 _).mono ?_
  rintro e w' ⟨rfl, rfl⟩
  refine hK.out _ _ (fun _ h => h) ?_
  clear hK K
  try simp only [Act.put, zQ1, zQ2, zQ3]
  refine pF 3 ?_
  refine pF 4 ?_
  refine pF 5 ?_
  refine tF 6 SS0.out ?_
  refine pF 7 ?_
  refine tF 8 SS0.out ?_
  refine pF 9 ?_
  refine uNe 10 (fun K hK => ?_)
  go_simp
  refine (a2 _).mono ?_
  rintro e w' ⟨rfl, rfl⟩
  refine hK.out _ _ (fun _ h => h) ?_
  clear hK K
  try simp only [Act.put, zQ1, zQ2, zQ3]
  refine pF 11 ?_
  refine pF 12 ?_
  refine pF 13 ?_
  refine sF 14 ?_
  refine sF 15 ?_
  refine sF 16 ?_
  refine sF 17 ?_
  refine pF 18 ?_
  refine pF 19 ?_
  refine sF 20 ?_
  refine sF 21 ?_
  refine sF 22 ?_
  refine sF 23 ?_
  refine sF 24 ?_
  refine pF 25 ?_
  refine pF 26 ?_
  refine sF 27 ?_
  refine sF 28 ?_
  refine sF 29 ?_
  refine sF 30 ?_
  refine sF 31 ?_
  refine sF 32 ?_
  refine sF 33 ?_
  refine sF 34 ?_
  refine pF 35 ?_
  refine until_done (by kernel_rfl) ?_ _
  go_wp2_with fail
  go_ret
  exact ⟨by rw [HE.out]; rfl, V0.out⟩
 obtain ⟨i0, i1⟩ := inIt_in _ _ _ h2
 cases h3 : walOk (corW ⟨ci, cp, ct, cv, cr, cd, cb, cbt, lg, cc, ys, ns, ms⟩) <;> rw [h3] at cO
 ·clear h1 h2 h3 cL a4
  go_enter Try.func22, Try.ntmps22
  go_wp2_with fail
  rw [← hX0]
  clear hX0
  refine wp_region_until (fun w' => w'.cell? ⟨w.heap.size, 0, none⟩ = some (.int .i64 ci) ∧ w'.cell? ⟨w.heap.size, 1, none⟩ = some (.int .i64 cp) ∧ w'.cell? ⟨w.heap.size, 2, none⟩ = some (.int .i64 ct) ∧ w'.cell? ⟨w.heap.size, 3, none⟩ = some (.int .i64 cv) ∧ w'.cell? ⟨w.heap.size, 4, none⟩ = some (.int .i64 cr) ∧ w'.cell? ⟨w.heap.size, 5, none⟩ = some (.int .i64 cd) ∧ w'.cell? ⟨w.heap.size, 6, none⟩ = some (.int .i64 cb) ∧ w'.cell? ⟨w.heap.size, 7, none⟩ = some (.int .i64 cbt) ∧ w'.cell? ⟨w.heap.size, 8, none⟩ = some (.slice A0 n0 c0) ∧ w'.cell? ⟨w.heap.size, 9, none⟩ = some (.int .i64 cc) ∧ w'.cell? ⟨w.heap.size, 10, none⟩ = some (.slice A1 n1 c1) ∧ w'.cell? ⟨w.heap.size, 11, none⟩ = some (.slice A2 n2 c2) ∧ w'.cell? ⟨w.heap.size, 12, none⟩ = some (.slice A3 n3 c3)) (fun _ => false) 36 (by rfl) (by kernel_rfl) ?_
  have V0 : Hid (Below w.heap.size w X0.drew) := B0.out.trans ((Below.refl _ _).drew.mono B0.out.size)
  have KY0 := Hid.mk (K0.out.on ((Below.refl _ X0).drew) K0.out.lt)
  generalize X0.drew = Y0 at *
  have SS0 := Hid.mk (cellsC13 KY0.out)
  refine pF 0 ?_
  refine tF 1 SS0.out ?_
  refine uNe 2 (fun K hK => ?_)
  go_simp
  refine (a1 _).mono ?_
  rintro e w' ⟨rfl, rfl⟩
  refine hK.out _ _ (fun _ h => h) ?_
  clear hK K
  try simp only [Act.put, zQ1, zQ2, zQ3]
  refine pF 3 ?_
  refine pF 4 ?_
  refine pF 5 ?_
  refine tF 6 SS0.out ?_
  refine pF 7 ?_
  refine tF 8 SS0.out ?_
  refine pF 9 ?_
  refine uNe 10 (fun K hK => ?_)
  go_simp
  refine (a2 _).mono ?_
  rintro e w' ⟨rfl, rfl⟩
  refine hK.out _ _ (fun _ h => h) ?_
  clear hK K
  try simp only [Act.put, zQ1, zQ2, zQ3]
  refine pF 11 ?_
  refine pF 12 ?_
  refine pF 13 ?_
  refine tF 14 SS0.out ?_
  refine uNe 15 (fun K hK => ?_)
  go_simp
  refine (cW Y0 (HLg.out.on (V0.out.mono HBB.out)) (Nat.le_trans HBB.out V0.out.size)).mono ?_
  rintro e Y1 ⟨⟨uw, rfl, hOw⟩, hb⟩
  obtain ⟨Aw, mw, kw, rfl⟩ := hOw.shape
  have HOw := Hid.mk hOw
  clear hOw
  have V1 : Hid (Below w.heap.size w Y1) := V0.out.trans (hb.mono V0.out.size)
  have KY1 := Hid.mk (KY0.out.on hb KY0.out.lt)
  have SS1 := Hid.mk (cellsC13 KY1.out)
  clear hb
  refine hK.out _ _ (fun _ _ => SS1.out) ?_
  clear hK K
  try simp only [Act.put, zQ1, zQ2, zQ3]
  refine uNe 16 (fun K hK => ?_)
  go_simp
  refine (cO _ Y1 HOw.out.lies (Nat.le_refl _)).mono ?_
  rintro e Y2 ⟨rfl, hb⟩
  have V2 : Hid (Below w.heap.size w Y2) := V1.out.trans (hb.mono V1.out.size)
  have KY2 := Hid.mk (KY1.out.on hb KY1.out.lt)
  have SS2 := Hid.mk (cellsC13 KY2.out)
  clear hb
  refine hK.out _ _ (fun _ _ => SS2.out) ?_
  clear hK K
  try simp only [Act.put, zQ1, zQ2, zQ3]
  refine pF 17 ?_
  refine pF 18 ?_
  refine pF 19 ?_
  refine sF 20 ?_
  refine sF 21 ?_
  refine sF 22 ?_
  refine sF 23 ?_
  refine sF 24 ?_
  refine pF 25 ?_
  refine pF 26 ?_
  refine sF 27 ?_
  refine sF 28 ?_
  refine sF 29 ?_
  refine sF 30 ?_
  refine sF 31 ?_
  refine sF 32 ?_
  refine sF 33 ?_
  refine sF 34 ?_
  refine pF 35 ?_
  refine until_done (by kernel_rfl) ?_ _
  go_wp2_with fail
  go_ret
  exact ⟨by rw [HE.out]; rfl, V2.out⟩
 obtain ⟨b0, b1⟩ := HWl.out h3
 have cL := cL b0 (by omega)
 by_cases h4 : cv < cp
 rotate_left
 ·have z4 : decide (cp ≤ cv) = true := decide_eq_true (by omega)
  clear h1 h2 h3 h4 cL a4
  go_enter Try.func22, Try.ntmps22
  go_wp2_with fail
  rw [← hX0]
  clear hX0
  refine wp_region_until (fun w' => w'.cell? ⟨w.heap.size, 0, none⟩ = some (.int .i64 ci) ∧ w'.cell? ⟨w.heap.size, 1, none⟩ = some (.int .i64 cp) ∧ w'.cell? ⟨w.heap.size, 2, none⟩ = some (.int .i64 ct) ∧ w'.cell? ⟨w.heap.size, 3, none⟩ = some (.int .i64 cv) ∧ w'.cell? ⟨w.heap.size, 4, none⟩ = some (.int .i64 cr) ∧ w'.cell? ⟨w.heap.size, 5, none⟩ = some (.int .i64 cd) ∧ w'.cell? ⟨w.heap.size, 6, none⟩ = some (.int .i64 cb) ∧ w'.cell? ⟨w.heap.size, 7, none⟩ = some (.int .i64 cbt) ∧ w'.cell? ⟨w.heap.size, 8, none⟩ = some (.slice A0 n0 c0) ∧ w'.cell? ⟨w.heap.size, 9, none⟩ = some (.int .i64 cc) ∧ w'.cell? ⟨w.heap.size, 10, none⟩ = some (.slice A1 n1 c1) ∧ w'.cell? ⟨w.heap.size, 11, none⟩ = some (.slice A2 n2 c2) ∧ w'.cell? ⟨w.heap.size, 12, none⟩ = some (.slice A3 n3 c3)) (fun _ => false) 36 (by rfl) (by kernel_rfl) ?_
  have V0 : Hid (Below w.heap.size w X0.drew) := B0.out.trans ((Below.refl _ _).drew.mono B0.out.size)
  have KY0 := Hid.mk (K0.out.on ((Below.refl _ X0).drew) K0.out.lt)
  generalize X0.drew = Y0 at *
  have SS0 := Hid.mk (cellsC13 KY0.out)
  refine pF 0 ?_
  refine tF 1 SS0.out ?_
  refine uNe 2 (fun K hK => ?_)
  go_simp
  refine (a1 _).mono ?_
  rintro e w' ⟨rfl, rfl⟩
  refine hK.out _ _ (fun _ h => h) ?_
  clear hK K
  try simp only [Act.put, zQ1, zQ2, zQ3]
  refine pF 3 ?_
  refine pF 4 ?_
  refine pF 5 ?_
  refine tF 6 SS0.out ?_
  refine pF 7 ?_
  refine tF 8 SS0.out ?_
  refine pF 9 ?_
  refine uNe 10 (fun K hK => ?_)
  go_simp
  refine (a2 _).mono ?_
  rintro e w' ⟨rfl, rfl⟩
  refine hK.out _ _ (fun _ h => h) ?_
  clear hK K
  try simp only [Act.put, zQ1, zQ2, zQ3]
  refine pF 11 ?_
  refine pF 12 ?_
  refine pF 13 ?_
  refine tF 14 SS0.out ?_
  refine uNe 15 (fun K hK => ?_)
  go_simp
  refine (cW Y0 (HLg.out.on (V0.out.mono HBB.out)) (Nat.le_trans HBB.out V0.out.size)).mono ?_
  rintro e Y1 ⟨⟨uw, rfl, hOw⟩, hb⟩
  obtain ⟨Aw, mw, kw, rfl⟩ := hOw.shape
  have HOw := Hid.mk hOw
  clear hOw
  have V1 : Hid (Below w.heap.size w Y1) := V0.out.trans (hb.mono V0.out.size)
  have KY1 := Hid.mk (KY0.out.on hb KY0.out.lt)
  have SS1 := Hid.mk (cellsC13 KY1.out)
  clear hb
  refine hK.out _ _ (fun _ _ => SS1.out) ?_
  clear hK K
  try simp only [Act.put, zQ1, zQ2, zQ3]
  refine uNe 16 (fun K hK => ?_)
  go_simp
  refine (cO _ Y1 HOw.out.lies (Nat.le_refl _)).mono ?_
  rintro e Y2 ⟨rfl, hb⟩
  have V2 : Hid (Below w.heap.size w Y2) := V1.out.trans (hb.mono V1.out.size)
  have KY2 := Hid.mk (KY1.out.on hb KY1.out.lt)
  have SS2 := Hid.mk (cellsC13 KY2.out)
  clear hb
  refine hK.out _ _ (fun _ _ => SS2.out) ?_
  clear hK K
  try simp only [Act.put, zQ1, zQ2, zQ3]
  refine pF 17 ?_
  refine pF 18 ?_
  refine pF 19 ?_
  refine pF 20 ?_
  refine tF 21 SS2.out ?_
  refine pF 22 ?_
  refine tF 23 SS2.out ?_
  refine pF 24 ?_
  refine pF 25 ?_
  refine pF 26 ?_
  refine sF 27 ?_
  refine sF 28 ?_
  refine sF 29 ?_
  refine sF 30 ?_
  refine sF 31 ?_
  refine sF 32 ?_
  refine sF 33 ?_
  refine sF 34 ?_
  refine pF 35 ?_
  refine until_done (by kernel_rfl) ?_ _
  go_wp2_with fail
  go_ret
  exact ⟨by rw [HE.out]; rfl, V2.out⟩
 have z4 : decide (cp ≤ cv) = false := decide_eq_false (by omega)
 cases h5 : inIt cc cb (cb + (n0 : Int)) <;> rw [h5] at a4
 ·clear h1 h2 h3 h4 h5
  go_enter Try.func22, Try.ntmps22
  go_wp2_with fail
  rw [← hX0]
  clear hX0
  refine wp_region_until (fun w' => w'.cell? ⟨w.heap.size, 0, none⟩ = some (.int .i64 ci) ∧ w'.cell? ⟨w.heap.size, 1, none⟩ = some (.int .i64 cp) ∧ w'.cell? ⟨w.heap.size, 2, none⟩ = some (.int .i64 ct) ∧ w'.cell? ⟨w.heap.size, 3, none⟩ = some (.int .i64 cv) ∧ w'.cell? ⟨w.heap.size, 4, none⟩ = some (.int .i64 cr) ∧ w'.cell? ⟨w.heap.size, 5, none⟩ = some (.int .i64 cd) ∧ w'.cell? ⟨w.heap.size, 6, none⟩ = some (.int .i64 cb) ∧ w'.cell? ⟨w.heap.size, 7, none⟩ = some (.int .i64 cbt) ∧ w'.cell? ⟨w.heap.size, 8, none⟩ = some (.slice A0 n0 c0) ∧ w'.cell? ⟨w.heap.size, 9, none⟩ = some (.int .i64 cc) ∧ w'.cell? ⟨w.heap.size, 10, none⟩ = some (.slice A1 n1 c1) ∧ w'.cell? ⟨w.heap.size, 11, none⟩ = some (.slice A2 n2 c2) ∧ w'.cell? ⟨w.heap.size, 12, none⟩ = some (.slice A3 n3 c3)) (fun _ => false) 36 (by rfl) (by kernel_rfl) ?_
  have V0 : Hid (Below w.heap.size w X0.drew) := B0.out.trans ((Below.refl _ _).drew.mono B0.out.size)
  have KY0 := Hid.mk (K0.out.on ((Below.refl _ X0).drew) K0.out.lt)
  generalize X0.drew = Y0 at *
  have SS0 := Hid.mk (cellsC13 KY0.out)
  refine pF 0 ?_
  refine tF 1 SS0.out ?_
  refine uNe 2 (fun K hK => ?_)
  go_simp
  refine (a1 _).mono ?_
  rintro e w' ⟨rfl, rfl⟩
  refine hK.out _ _ (fun _ h => h) ?_
  clear hK K
  try simp only [Act.put, zQ1, zQ2, zQ3]
  refine pF 3 ?_
  refine pF 4 ?_
  refine pF 5 ?_
  refine tF 6 SS0.out ?_
  refine pF 7 ?_
  refine tF 8 SS0.out ?_
  refine pF 9 ?_
  refine uNe 10 (fun K hK => ?_)
  go_simp
  refine (a2 _).mono ?_
  rintro e w' ⟨rfl, rfl⟩
  refine hK.out _ _ (fun _ h => h) ?_
  clear hK K
  try simp only [Act.put, zQ1, zQ2, zQ3]
  refine pF 11 ?_
  refine pF 12 ?_
  refine pF 13 ?_
  refine tF 14 SS0.out ?_
  refine uNe 15 (fun K hK => ?_)
  go_simp
  refine (cW Y0 (HLg.out.on (V0.out.mono HBB.out)) (Nat.le_trans HBB.out V0.out.size)).mono ?_
  rintro e Y1 ⟨⟨uw, rfl, hOw⟩, hb⟩
  obtain ⟨Aw, mw, kw, rfl⟩ := hOw.shape
  have HOw := Hid.mk hOw
  clear hOw
  have V1 : Hid (Below w.heap.size w Y1) := V0.out.trans (hb.mono V0.out.size)
  have KY1 := Hid.mk (KY0.out.on hb KY0.out.lt)
  have SS1 := Hid.mk (cellsC13 KY1.out)
  clear hb
  refine hK.out _ _ (fun _ _ => SS1.out) ?_
  clear hK K
  try simp only [Act.put, zQ1, zQ2, zQ3]
  refine uNe 16 (fun K hK => ?_)
  go_simp
  refine (cO _ Y1 HOw.out.lies (Nat.le_refl _)).mono ?_
  rintro e Y2 ⟨rfl, hb⟩
  have V2 : Hid (Below w.heap.size w Y2) := V1.out.trans (hb.mono V1.out.size)
  have KY2 := Hid.mk (KY1.out.on hb KY1.out.lt)
  have SS2 := Hid.mk (cellsC13 KY2.out)
  clear hb
  refine hK.out _ _ (fun _ _ => SS2.out) ?_
  clear hK K
  try simp only [Act.put, zQ1, zQ2, zQ3]
  refine pF 17 ?_
  refine pF 18 ?_
  refine pF 19 ?_
  refine pF 20 ?_
  refine tF 21 SS2.out ?_
  refine pF 22 ?_
  refine tF 23 SS2.out ?_
  refine pF 24 ?_
  refine pF 25 ?_
  refine pF 26 ?_
  refine pF 27 ?_
  refine tF 28 SS2.out ?_
  refine pF 29 ?_
  refine tF 30 SS2.out ?_
  refine tF 31 SS2.out ?_
  refine uNe 32 (fun K hK => ?_)
  go_simp
  refine (cL Y2).mono ?_
  rintro e Y3 ⟨rfl, hb⟩
  have V3 : Hid (Below w.heap.size w Y3) := V2.out.trans (hb.mono V2.out.size)
  have KY3 := Hid.mk (KY2.out.on hb KY2.out.lt)
  have SS3 := Hid.mk (cellsC13 KY3.out)
  clear hb
  refine hK.out _ _ (fun _ _ => SS3.out) ?_
  clear hK K
  try simp only [Act.put, zQ1, zQ2, zQ3]
  refine uNe 33 (fun K hK => ?_)
  go_simp
  refine (a4 _).mono ?_
  rintro e w' ⟨rfl, rfl⟩
  refine hK.out _ _ (fun _ h => h) ?_
  clear hK K
  try simp only [Act.put, zQ1, zQ2, zQ3]
  refine pF 34 ?_
  refine pF 35 ?_
  refine until_done (by kernel_rfl) ?_ _
  go_wp2_with fail
  go_ret
  exact ⟨by rw [HE.out]; rfl, V3.out⟩
 obtain ⟨m0, m1⟩ := inIt_in _ _ _ h5
 exact absurd ⟨⟨p0, p1⟩, ⟨i0, i1⟩, h3, h4, ⟨m0, by rw [HCl.out]; exact m1⟩⟩ hno
end Go.Proofs.Ytlhoonohpfpkbaa
namespace Go.Proofs.Ytlhoonohpfpkbaa
open Go.ChangeShapes Go.WideShapes Go.ChangeAt Go.RowKit Go.PlainAid
set_option linter.unusedVariables false
set_option maxRecDepth 20000 in
set_option maxHeartbeats 16000000 in
theorem coreSx (ci cp ct cv cr cd cb cbt : Int) (lg : List Ent) (cc : Int) (ys ns ms : List Int) (u0 u1 u2 u3 : Value) (w : World) (B : Nat) (hl : Lies w B 2 u0 (entR lg)) (hy : NumsV w B u1 ys) (hn : NumsV w B u2 ns) (hm : NumsV w B u3 ms) (hs : ShortC ⟨ci, cp, ct, cv, cr, cd, cb, cbt, lg, cc, ys, ns, ms⟩) (hB : B ≤ w.heap.size) (hok : COk0 ⟨ci, cp, ct, cv, cr, cd, cb, cbt, lg, cc, ys, ns, ms⟩) (hr1 : ¬ cr = 1) (hr2 : ¬ cr = 2) (hr3 : ¬ cr = 3) : Calls Try.prog 22 #[.agg #[.int .i64 ci, .int .i64 cp, .int .i64 ct, .int .i64 cv, .int .i64 cr, .int .i64 cd, .int .i64 cb, .int .i64 cbt, u0, .int .i64 cc, u1, u2, u3]] w fun e w' => e = .returned (.bool (corOk ⟨ci, cp, ct, cv, cr, cd, cb, cbt, lg, cc, ys, ns, ms⟩)) ∧ Below w.heap.size w w' := by
 have HYv : Hid (NumsV w B u1 ys ∧ NumsV w B u2 ns ∧ NumsV w B u3 ms) := ⟨hy, hn, hm⟩
 have HLg : Hid (Lies w B 2 u0 (entR lg)) := hl
 have HBB : Hid (B ≤ w.heap.size) := hB
 have HS : Hid (ShortC ⟨ci, cp, ct, cv, cr, cd, cb, cbt, lg, cc, ys, ns, ms⟩) := hs
 obtain ⟨A0, c0, rfl, _⟩ := ent_look hl
 obtain ⟨A1, c1, rfl, _, _, hc1⟩ := hy
 obtain ⟨A2, c2, rfl, _, _, hc2⟩ := hn
 obtain ⟨A3, c3, rfl, _, _, hc3⟩ := hm
 have H1 : Hid (∀ j, j < ys.length → ∃ g off, A1 = some ⟨g, off, none⟩ ∧ g < B ∧ w.cell? ⟨g, off + j, none⟩ = some (.int .i64 (ys.getD j 0))) := hc1
 have H2 : Hid (∀ j, j < ns.length → ∃ g off, A2 = some ⟨g, off, none⟩ ∧ g < B ∧ w.cell? ⟨g, off + j, none⟩ = some (.int .i64 (ns.getD j 0))) := hc2
 have H3 : Hid (∀ j, j < ms.length → ∃ g off, A3 = some ⟨g, off, none⟩ ∧ g < B ∧ w.cell? ⟨g, off + j, none⟩ = some (.int .i64 (ms.getD j 0))) := hc3
 clear hc1 hc2 hc3
 have a1 := inB cp 1 5
 have a2 := inB ci 0 (cp - 1)
 have cW := fun wx h1 h2 => walS ci cp ct cv cr cd cb cbt lg cc A0 lg.length c0 (.slice A1 ys.length c1) (.slice A2 ns.length c2) (.slice A3 ms.length c3) wx B h1 hs.n h2
 have cO := fun ux wx h1 h2 => specWalOk (corW ⟨ci, cp, ct, cv, cr, cd, cb, cbt, lg, cc, ys, ns, ms⟩) (.agg #[.int .i64 ct, .int .i64 cv, .int .i64 cb, .int .i64 cbt, ux]) wx wx.heap.size ⟨_, rfl, h1⟩ ⟨Nat.le_trans hs.n (by decide), fun e he => Nat.le_trans (hs.d e he) (by decide)⟩ h2
 have cL := fun h0 h1 wx => lastS ci cp ct cv cr cd cb cbt cc A0 lg.length c0 (.slice A1 ys.length c1) (.slice A2 ns.length c2) (.slice A3 ms.length c3) wx h0 h1 hs.n
 have a4 := inB cc cb (cb + (lg.length : Int))
 have HCl : Hid (cLast ⟨ci, cp, ct, cv, cr, cd, cb, cbt, lg, cc, ys, ns, ms⟩ = cb + (lg.length : Int)) := rfl
 have HWl : Hid (walOk (corW ⟨ci, cp, ct, cv, cr, cd, cb, cbt, lg, cc, ys, ns, ms⟩) = true → 0 ≤ cb ∧ cb ≤ 100000) := fun h => (walOk_in h).2.2.1
 have q0 : (lg.length : Int) ≤ 1048576 := by have := hs.n; simp only at this; omega
 have qy : (ys.length : Int) ≤ 1048576 := by have := hs.y; simp only at this; omega
 have qn : (ns.length : Int) ≤ 1048576 := by have := hs.q; simp only at this; omega
 have qm : (ms.length : Int) ≤ 1048576 := by have := hs.m; simp only at this; omega
 clear hl hB
 have HR : Hid (corOk ⟨ci, cp, ct, cv, cr, cd, cb, cbt, lg, cc, ys, ns, ms⟩ = roleB ⟨ci, cp, ct, cv, cr, cd, cb, cbt, lg, cc, ys, ns, ms⟩) := corOk_and hok
 obtain ⟨⟨p0, p1⟩, ⟨i0, i1⟩, h3, h4, m⟩ := hok
 simp only at p0 p1 i0 i1 h4
 rw [HCl.out] at m
 obtain ⟨m0, m1⟩ := m
 simp only at m0
 rw [show inIt cp 1 5 = true by unfold inIt; simp [p0, p1]] at a1
 rw [show inIt ci 0 (cp - 1) = true by unfold inIt; simp [i0, i1]] at a2
 rw [h3] at cO
 obtain ⟨b0, b1⟩ := HWl.out h3
 have cLS := cL b0 (by omega)
 rw [show inIt cc cb (cb + (lg.length : Int)) = true by unfold inIt; simp [m0, m1]] at a4
 have z4 : decide (cp ≤ cv) = false := decide_eq_false (by omega)
 have w1 : IntKind.i64.wrap (cp - 1) = cp - 1 := by rw [IntKind.wrap_i64]; omega
 clear h3 h4 m0 m1 HWl cL hs
 have HE : Hid (corOk ⟨ci, cp, ct, cv, cr, cd, cb, cbt, lg, cc, ys, ns, ms⟩ = false) := by
  unfold Hid
  rw [HR.out]
  exact roleB_no fun h => by rcases h with ⟨e, _⟩ | ⟨e, _⟩ | ⟨e, _⟩ <;> simp only at e <;> omega
 have e1 : (cr == 1) = false := beq_eq_false_iff_ne.2 hr1
 have e2 : (cr == 2) = false := beq_eq_false_iff_ne.2 hr2
 have e3 : (cr == 3) = false := beq_eq_false_iff_ne.2 hr3
 generalize lg.length = n0 at *
 generalize ys.length = n1 at *
 generalize ns.length = n2 at *
 generalize ms.length = n3 at *
 obtain ⟨X0, hX0⟩ : ∃ X0, X0 = w.alloc (.cells #[.int .i64 ci, .int .i64 cp, .int .i64 ct, .int .i64 cv, .int .i64 cr, .int .i64 cd, .int .i64 cb, .int .i64 cbt, .slice A0 n0 c0, .int .i64 cc, .slice A1 n1 c1, .slice A2 n2 c2, .slice A3 n3 c3] 29) := ⟨_, rfl⟩
 have B0 : Hid (Below w.heap.size w X0) := by unfold Hid; rw [hX0]; exact (Below.refl _ _).alloc (Nat.le_refl _) _
 have K0 : Hid (Blk X0 w.heap.size #[.int .i64 ci, .int .i64 cp, .int .i64 ct, .int .i64 cv, .int .i64 cr, .int .i64 cd, .int .i64 cb, .int .i64 cbt, .slice A0 n0 c0, .int .i64 cc, .slice A1 n1 c1, .slice A2 n2 c2, .slice A3 n3 c3] 29) := by unfold Hid; rw [hX0]; exact Blk.new w _ _
 go_enter Try.func22, Try.ntmps22
 go_wp2_with fail
 rw [← hX0]
 clear hX0
 refine wp_region_until (fun w' => w'.cell? ⟨w.heap.size, 0, none⟩ = some (.int .i64 ci) ∧ w'.cell? ⟨w.heap.size, 1, none⟩ = some (.int .i64 cp) ∧ w'.cell? ⟨w.heap.size, 2, none⟩ = some (.int .i64 ct) ∧ w'.cell? ⟨w.heap.size, 3, none⟩ = some (.int .i64 cv) ∧ w'.cell? ⟨w.heap.size, 4, none⟩ = some (.int .i64 cr) ∧ w'.cell? ⟨w.heap.size, 5, none⟩ = some (.int .i64 cd) ∧ w'.cell? ⟨w.heap.size, 6, none⟩ = some (.int .i64 cb) ∧ w'.cell? ⟨w.heap.size, 7, none⟩ = some (.int .i64 cbt) ∧ w'.cell? ⟨w.heap.size, 8, none⟩ = some (.slice A0 n0 c0) ∧ w'.cell? ⟨w.heap.size, 9, none⟩ = some (.int .i64 cc) ∧ w'.cell? ⟨w.heap.size, 10, none⟩ = some (.slice A1 n1 c1) ∧ w'.cell? ⟨w.heap.size, 11, none⟩ = some (.slice A2 n2 c2) ∧ w'.cell? ⟨w.heap.size, 12, none⟩ = some (.slice A3 n3 c3)) (fun _ => false) 36 (by rfl) (by kernel_rfl) ?_
 have V0 : Hid (Below w.heap.size w X0.drew) := B0.out.trans ((Below.refl _ _).drew.mono B0.out.size)
 have KY0 := Hid.mk (K0.out.on ((Below.refl _ X0).drew) K0.out.lt)
 generalize X0.drew = Y0 at *
 have SS0 := Hid.mk (cellsC13 KY0.out)
 refine pF 0 ?_
 refine tF 1 SS0.out ?_
 refine uNe 2 (fun K hK => ?_)
 go_simp
 refine (a1 _).mono ?_
 rintro e w' ⟨rfl, rfl⟩
 refine hK.out _ _ (fun _ h => h) ?_
 clear hK K
 try simp only [Act.put, zQ1, zQ2, zQ3]
 refine pF 3 ?_
 refine pF 4 ?_
 refine pF 5 ?_
 refine tF 6 SS0.out ?_
 refine pF 7 ?_
 refine tF 8 SS0.out ?_
 refine pF 9 ?_
 refine uNe 10 (fun K hK => ?_)
 go_simp
 refine (a2 _).mono ?_
 rintro e w' ⟨rfl, rfl⟩
 refine hK.out _ _ (fun _ h => h) ?_
 clear hK K
 try simp only [Act.put, zQ1, zQ2, zQ3]
 refine pF 11 ?_
 refine pF 12 ?_
 refine pF 13 ?_
 refine tF 14 SS0.out ?_
 refine uNe 15 (fun K hK => ?_)
 go_simp
 refine (cW Y0 (HLg.out.on (V0.out.mono HBB.out)) (Nat.le_trans HBB.out V0.out.size)).mono ?_
 rintro e Y1 ⟨⟨uw, rfl, hOw⟩, hb⟩
 obtain ⟨Aw, mw, kw, rfl⟩ := hOw.shape
 have HOw := Hid.mk hOw
 clear hOw
 have V1 : Hid (Below w.heap.size w Y1) := V0.out.trans (hb.mono V0.out.size)
 have KY1 := Hid.mk (KY0.out.on hb KY0.out.lt)
 have SS1 := Hid.mk (cellsC13 KY1.out)
 clear hb
 refine hK.out _ _ (fun _ _ => SS1.out) ?_
 clear hK K
 try simp only [Act.put, zQ1, zQ2, zQ3]
 refine uNe 16 (fun K hK => ?_)
 go_simp
 refine (cO _ Y1 HOw.out.lies (Nat.le_refl _)).mono ?_
 rintro e Y2 ⟨rfl, hb⟩
 have V2 : Hid (Below w.heap.size w Y2) := V1.out.trans (hb.mono V1.out.size)
 have KY2 := Hid.mk (KY1.out.on hb KY1.out.lt)
 have SS2 := Hid.mk (cellsC13 KY2.out)
 clear hb
 refine hK.out _ _ (fun _ _ => SS2.out) ?_
 clear hK K
 try simp only [Act.put, zQ1, zQ2, zQ3]
 refine pF 17 ?_
 refine pF 18 ?_
 refine pF 19 ?_
 refine pF 20 ?_
 refine tF 21 SS2.out ?_
 refine pF 22 ?_
 refine tF 23 SS2.out ?_
 refine pF 24 ?_
 refine pF 25 ?_
 refine pF 26 ?_
 refine pF 27 ?_
 refine tF 28 SS2.out ?_
 refine pF 29 ?_
 refine tF 30 SS2.out ?_
 refine tF 31 SS2.out ?_
 refine uNe 32 (fun K hK => ?_)
 go_simp
 refine (cLS Y2).mono ?_
 rintro e Y3 ⟨rfl, hb⟩
 have V3 : Hid (Below w.heap.size w Y3) := V2.out.trans (hb.mono V2.out.size)
 have KY3 := Hid.mk (KY2.out.on hb KY2.out.lt)
 have SS3 := Hid.mk (cellsC13 KY3.out)
 clear hb
 refine hK.out _ _ (fun _ _ => SS3.out) ?_
 clear hK K
 try simp only [Act.put, zQ1, zQ2, zQ3]
 refine uNe 33 (fun K hK => ?_)
 go_simp
 refine (a4 _).mono ?_
 rintro e w' ⟨rfl, rfl⟩
 refine hK.out _ _ (fun _ h => h) ?_
 clear hK K
 try simp only [Act.put, zQ1, zQ2, zQ3]
 refine pF 34 ?_
 refine pF 35 ?_
 refine until_done (by kernel_rfl) ?_ _
 have BY : Hid (Below w.heap.size w Y3) := V3.out
 have KY : Hid (Blk Y3 w.heap.size #[.int .i64 ci, .int .i64 cp, .int .i64 ct, .int .i64 cv, .int .i64 cr, .int .i64 cd, .int .i64 cb, .int .i64 cbt, .slice A0 n0 c0, .int .i64 cc, .slice A1 n1 c1, .slice A2 n2 c2, .slice A3 n3 c3] 29) := KY3.out
 clear V0 V1 V2 V3 KY0 KY1 KY2 KY3 SS0 SS1 SS2 HOw a1 a2 a4 cW cO
 clear SS3
 obtain ⟨k0, k1, k2, k3, k4, k5, k6, k7, k8, k9, k10, k11, k12⟩ := cellsC13 KY.out
 go_wp2_with fail
 go_ret
 exact ⟨by rw [HE.out]; rfl, BY.out⟩
set_option maxRecDepth 20000 in
set_option maxHeartbeats 16000000 in
theorem coreS1 (ci cp ct cv cd cb cbt : Int) (lg : List Ent) (cc : Int) (ys ns ms : List Int) (u0 u1 u2 u3 : Value) (w : World) (B : Nat) (hl : Lies w B 2 u0 (entR lg)) (hy : NumsV w B u1 ys) (hn : NumsV w B u2 ns) (hm : NumsV w B u3 ms) (hs : ShortC ⟨ci, cp, ct, cv, 1, cd, cb, cbt, lg, cc, ys, ns, ms⟩) (hB : B ≤ w.heap.size) (hok : COk0 ⟨ci, cp, ct, cv, 1, cd, cb, cbt, lg, cc, ys, ns, ms⟩) : Calls Try.prog 22 #[.agg #[.int .i64 ci, .int .i64 cp, .int .i64 ct, .int .i64 cv, .int .i64 1, .int .i64 cd, .int .i64 cb, .int .i64 cbt, u0, .int .i64 cc, u1, u2, u3]] w fun e w' => e = .returned (.bool (corOk ⟨ci, cp, ct, cv, 1, cd, cb, cbt, lg, cc, ys, ns, ms⟩)) ∧ Below w.heap.size w w' := by
 have HYv : Hid (NumsV w B u1 ys ∧ NumsV w B u2 ns ∧ NumsV w B u3 ms) := ⟨hy, hn, hm⟩
 have HLg : Hid (Lies w B 2 u0 (entR lg)) := hl
 have HBB : Hid (B ≤ w.heap.size) := hB
 have HS : Hid (ShortC ⟨ci, cp, ct, cv, 1, cd, cb, cbt, lg, cc, ys, ns, ms⟩) := hs
 obtain ⟨A0, c0, rfl, _⟩ := ent_look hl
 obtain ⟨A1, c1, rfl, _, _, hc1⟩ := hy
 obtain ⟨A2, c2, rfl, _, _, hc2⟩ := hn
 obtain ⟨A3, c3, rfl, _, _, hc3⟩ := hm
 have H1 : Hid (∀ j, j < ys.length → ∃ g off, A1 = some ⟨g, off, none⟩ ∧ g < B ∧ w.cell? ⟨g, off + j, none⟩ = some (.int .i64 (ys.getD j 0))) := hc1
 have H2 : Hid (∀ j, j < ns.length → ∃ g off, A2 = some ⟨g, off, none⟩ ∧ g < B ∧ w.cell? ⟨g, off + j, none⟩ = some (.int .i64 (ns.getD j 0))) := hc2
 have H3 : Hid (∀ j, j < ms.length → ∃ g off, A3 = some ⟨g, off, none⟩ ∧ g < B ∧ w.cell? ⟨g, off + j, none⟩ = some (.int .i64 (ms.getD j 0))) := hc3
 clear hc1 hc2 hc3
 have a1 := inB cp 1 5
 have a2 := inB ci 0 (cp - 1)
 have cW := fun wx h1 h2 => walS ci cp ct cv 1 cd cb cbt lg cc A0 lg.length c0 (.slice A1 ys.length c1) (.slice A2 ns.length c2) (.slice A3 ms.length c3) wx B h1 hs.n h2
 have cO := fun ux wx h1 h2 => specWalOk (corW ⟨ci, cp, ct, cv, 1, cd, cb, cbt, lg, cc, ys, ns, ms⟩) (.agg #[.int .i64 ct, .int .i64 cv, .int .i64 cb, .int .i64 cbt, ux]) wx wx.heap.size ⟨_, rfl, h1⟩ ⟨Nat.le_trans hs.n (by decide), fun e he => Nat.le_trans (hs.d e he) (by decide)⟩ h2
 have cL := fun h0 h1 wx => lastS ci cp ct cv 1 cd cb cbt cc A0 lg.length c0 (.slice A1 ys.length c1) (.slice A2 ns.length c2) (.slice A3 ms.length c3) wx h0 h1 hs.n
 have a4 := inB cc cb (cb + (lg.length : Int))
 have HCl : Hid (cLast ⟨ci, cp, ct, cv, 1, cd, cb, cbt, lg, cc, ys, ns, ms⟩ = cb + (lg.length : Int)) := rfl
 have HWl : Hid (walOk (corW ⟨ci, cp, ct, cv, 1, cd, cb, cbt, lg, cc, ys, ns, ms⟩) = true → 0 ≤ cb ∧ cb ≤ 100000) := fun h => (walOk_in h).2.2.1
 have q0 : (lg.length : Int) ≤ 1048576 := by have := hs.n; simp only at this; omega
 have qy : (ys.length : Int) ≤ 1048576 := by have := hs.y; simp only at this; omega
 have qn : (ns.length : Int) ≤ 1048576 := by have := hs.q; simp only at this; omega
 have qm : (ms.length : Int) ≤ 1048576 := by have := hs.m; simp only at this; omega
 clear hl hB
 have HR : Hid (corOk ⟨ci, cp, ct, cv, 1, cd, cb, cbt, lg, cc, ys, ns, ms⟩ = roleB ⟨ci, cp, ct, cv, 1, cd, cb, cbt, lg, cc, ys, ns, ms⟩) := corOk_and hok
 obtain ⟨⟨p0, p1⟩, ⟨i0, i1⟩, h3, h4, m⟩ := hok
 simp only at p0 p1 i0 i1 h4
 rw [HCl.out] at m
 obtain ⟨m0, m1⟩ := m
 simp only at m0
 rw [show inIt cp 1 5 = true by unfold inIt; simp [p0, p1]] at a1
 rw [show inIt ci 0 (cp - 1) = true by unfold inIt; simp [i0, i1]] at a2
 rw [h3] at cO
 obtain ⟨b0, b1⟩ := HWl.out h3
 have cLS := cL b0 (by omega)
 rw [show inIt cc cb (cb + (lg.length : Int)) = true by unfold inIt; simp [m0, m1]] at a4
 have z4 : decide (cp ≤ cv) = false := decide_eq_false (by omega)
 have w1 : IntKind.i64.wrap (cp - 1) = cp - 1 := by rw [IntKind.wrap_i64]; omega
 clear h3 h4 m0 m1 HWl cL hs
 have a5 := inB cd (-1) (cp - 1)
 have HNo : Hid (¬ RFol ⟨ci, cp, ct, cv, 1, cd, cb, cbt, lg, cc, ys, ns, ms⟩ → corOk ⟨ci, cp, ct, cv, 1, cd, cb, cbt, lg, cc, ys, ns, ms⟩ = false) := fun h => by
  rw [HR.out]
  refine roleB_no fun q => ?_
  rcases q with ⟨e, q⟩ | ⟨e, q⟩ | ⟨e, q⟩
  ·exact h q
  ·cases e
  ·cases e
 have HYe : Hid (RFol ⟨ci, cp, ct, cv, 1, cd, cb, cbt, lg, cc, ys, ns, ms⟩ → corOk ⟨ci, cp, ct, cv, 1, cd, cb, cbt, lg, cc, ys, ns, ms⟩ = true) := fun h => by
  rw [HR.out]
  exact roleB_yes (.inl ⟨rfl, h⟩)
 have HC2 : Hid (ys.length ≠ 0 → corOk ⟨ci, cp, ct, cv, 1, cd, cb, cbt, lg, cc, ys, ns, ms⟩ = false) := fun h => HNo.out fun q => h q.y
 have HC3 : Hid (ns.length ≠ 0 → corOk ⟨ci, cp, ct, cv, 1, cd, cb, cbt, lg, cc, ys, ns, ms⟩ = false) := fun h => HNo.out fun q => h q.n
 have HC4 : Hid (ms.length ≠ 0 → corOk ⟨ci, cp, ct, cv, 1, cd, cb, cbt, lg, cc, ys, ns, ms⟩ = false) := fun h => HNo.out fun q => h q.m
 have HC5 : Hid (cd ≠ ci → inIt cd (-1) (cp - 1) = true → ys.length = 0 → ns.length = 0 → ms.length = 0 → corOk ⟨ci, cp, ct, cv, 1, cd, cb, cbt, lg, cc, ys, ns, ms⟩ = true) := fun h1 h2 h3 h4 h5 => HYe.out ⟨(inIt_in _ _ _ h2).1, (inIt_in _ _ _ h2).2, h1, h3, h4, h5⟩
 have HC0 : Hid (inIt cd (-1) (cp - 1) = false → corOk ⟨ci, cp, ct, cv, 1, cd, cb, cbt, lg, cc, ys, ns, ms⟩ = false) := fun h => HNo.out fun q => by have a := q.a; have b := q.b; simp only at a b; rw [show inIt cd (-1) (cp - 1) = true by unfold inIt; simp [a, b]] at h; cases h
 have HC1 : Hid (cd = ci → corOk ⟨ci, cp, ct, cv, 1, cd, cb, cbt, lg, cc, ys, ns, ms⟩ = false) := fun h => HNo.out fun q => q.c h
 clear HNo HYe
 generalize lg.length = n0 at *
 generalize ys.length = n1 at *
 generalize ns.length = n2 at *
 generalize ms.length = n3 at *
 obtain ⟨X0, hX0⟩ : ∃ X0, X0 = w.alloc (.cells #[.int .i64 ci, .int .i64 cp, .int .i64 ct, .int .i64 cv, .int .i64 1, .int .i64 cd, .int .i64 cb, .int .i64 cbt, .slice A0 n0 c0, .int .i64 cc, .slice A1 n1 c1, .slice A2 n2 c2, .slice A3 n3 c3] 29) := ⟨_, rfl⟩
 have B0 : Hid (Below w.heap.size w X0) := by unfold Hid; rw [hX0]; exact (Below.refl _ _).alloc (Nat.le_refl _) _
 have K0 : Hid (Blk X0 w.heap.size #[.int .i64 ci, .int .i64 cp, .int .i64 ct, .int .i64 cv, .int .i64 1, .int .i64 cd, .int .i64 cb, .int .i64 cbt, .slice A0 n0 c0, .int .i64 cc, .slice A1 n1 c1, .slice A2 n2 c2, .slice A3 n3 c3] 29) := by unfold Hid; rw [hX0]; exact Blk.new w _ _
 go_enter Try.func22, Try.ntmps22
 go_wp2_with fail
 rw [← hX0]
 clear hX0
 refine wp_region_until (fun w' => w'.cell? ⟨w.heap.size, 0, none⟩ = some (.int .i64 ci) ∧ w'.cell? ⟨w.heap.size, 1, none⟩ = some (.int .i64 cp) ∧ w'.cell? ⟨w.heap.size, 2, none⟩ = some (.int .i64 ct) ∧ w'.cell? ⟨w.heap.size, 3, none⟩ = some (.int .i64 cv) ∧ w'.cell? ⟨w.heap.size, 4, none⟩ = some (.int .i64 1) ∧ w'.cell? ⟨w.heap.size, 5, none⟩ = some (.int .i64 cd) ∧ w'.cell? ⟨w.heap.size, 6, none⟩ = some (.int .i64 cb) ∧ w'.cell? ⟨w.heap.size, 7, none⟩ = some (.int .i64 cbt) ∧ w'.cell? ⟨w.heap.size, 8, none⟩ = some (.slice A0 n0 c0) ∧ w'.cell? ⟨w.heap.size, 9, none⟩ = some (.int .i64 cc) ∧ w'.cell? ⟨w.heap.size, 10, none⟩ = some (.slice A1 n1 c1) ∧ w'.cell? ⟨w.heap.size, 11, none⟩ = some (.slice A2 n2 c2) ∧ w'.cell? ⟨w.heap.size, 12, none⟩ = some (.slice A3 n3 c3)) (fun _ => false) 36 (by rfl) (by kernel_rfl) ?_
 have V0 : Hid (Below w.heap.size w X0.drew) := B0.out.trans ((Below.refl _ _).drew.mono B0.out.size)
 have KY0 := Hid.mk (K0.out.on ((Below.refl _ X0).drew) K0.out.lt)
 generalize X0.drew = Y0 at *
 have SS0 := Hid.mk (cellsC13 KY0.out)
 refine pF 0 ?_
 refine tF 1 SS0.out ?_
 refine uNe 2 (fun K hK => ?_)
 go_simp
 refine (a1 _).mono ?_
 rintro e w' ⟨rfl, rfl⟩
 refine hK.out _ _ (fun _ h => h) ?_
 clear hK K
 try simp only [Act.put, zQ1, zQ2, zQ3]
 refine pF 3 ?_
 refine pF 4 ?_
 refine pF 5 ?_
 refine tF 6 SS0.out ?_
 refine pF 7 ?_
 refine tF 8 SS0.out ?_
 refine pF 9 ?_
 refine uNe 10 (fun K hK => ?_)
 go_simp
 refine (a2 _).mono ?_
 rintro e w' ⟨rfl, rfl⟩
 refine hK.out _ _ (fun _ h => h) ?_
 clear hK K
 try simp only [Act.put, zQ1, zQ2, zQ3]
 refine pF 11 ?_
 refine pF 12 ?_
 refine pF 13 ?_
 refine tF 14 SS0.out ?_
 refine uNe 15 (fun K hK => ?_)
 go_simp
 refine (cW Y0 (HLg.out.on (V0.out.mono HBB.out)) (Nat.le_trans HBB.out V0.out.size)).mono ?_
 rintro e Y1 ⟨⟨uw, rfl, hOw⟩, hb⟩
 obtain ⟨Aw, mw, kw, rfl⟩ := hOw.shape
 have HOw := Hid.mk hOw
 clear hOw
 have V1 : Hid (Below w.heap.size w Y1) := V0.out.trans (hb.mono V0.out.size)
 have KY1 := Hid.mk (KY0.out.on hb KY0.out.lt)
 have SS1 := Hid.mk (cellsC13 KY1.out)
 clear hb
 refine hK.out _ _ (fun _ _ => SS1.out) ?_
 clear hK K
 try simp only [Act.put, zQ1, zQ2, zQ3]
 refine uNe 16 (fun K hK => ?_)
 go_simp
 refine (cO _ Y1 HOw.out.lies (Nat.le_refl _)).mono ?_
 rintro e Y2 ⟨rfl, hb⟩
 have V2 : Hid (Below w.heap.size w Y2) := V1.out.trans (hb.mono V1.out.size)
 have KY2 := Hid.mk (KY1.out.on hb KY1.out.lt)
 have SS2 := Hid.mk (cellsC13 KY2.out)
 clear hb
 refine hK.out _ _ (fun _ _ => SS2.out) ?_
 clear hK K
 try simp only [Act.put, zQ1, zQ2, zQ3]
 refine pF 17 ?_
 refine pF 18 ?_
 refine pF 19 ?_
 refine pF 20 ?_
 refine tF 21 SS2.out ?_
 refine pF 22 ?_
 refine tF 23 SS2.out ?_
 refine pF 24 ?_
 refine pF 25 ?_
 refine pF 26 ?_
 refine pF 27 ?_
 refine tF 28 SS2.out ?_
 refine pF 29 ?_
 refine tF 30 SS2.out ?_
 refine tF 31 SS2.out ?_
 refine uNe 32 (fun K hK => ?_)
 go_simp
 refine (cLS Y2).mono ?_
 rintro e Y3 ⟨rfl, hb⟩
 have V3 : Hid (Below w.heap.size w Y3) := V2.out.trans (hb.mono V2.out.size)
 have KY3 := Hid.mk (KY2.out.on hb KY2.out.lt)
 have SS3 := Hid.mk (cellsC13 KY3.out)
 clear hb
 refine hK.out _ _ (fun _ _ => SS3.out) ?_
 clear hK K
 try simp only [Act.put, zQ1, zQ2, zQ3]
 refine uNe 33 (fun K hK => ?_)
 go_simp
 refine (a4 _).mono ?_
 rintro e w' ⟨rfl, rfl⟩
 refine hK.out _ _ (fun _ h => h) ?_
 clear hK K
 try simp only [Act.put, zQ1, zQ2, zQ3]
 refine pF 34 ?_
 refine pF 35 ?_
 refine until_done (by kernel_rfl) ?_ _
 have BY : Hid (Below w.heap.size w Y3) := V3.out
 have KY : Hid (Blk Y3 w.heap.size #[.int .i64 ci, .int .i64 cp, .int .i64 ct, .int .i64 cv, .int .i64 1, .int .i64 cd, .int .i64 cb, .int .i64 cbt, .slice A0 n0 c0, .int .i64 cc, .slice A1 n1 c1, .slice A2 n2 c2, .slice A3 n3 c3] 29) := KY3.out
 clear V0 V1 V2 V3 KY0 KY1 KY2 KY3 SS0 SS1 SS2 HOw a1 a2 a4 cW cO
 clear SS3
 obtain ⟨k0, k1, k2, k3, k4, k5, k6, k7, k8, k9, k10, k11, k12⟩ := cellsC13 KY.out
 cases h0 : inIt cd (-1) (cp - 1) <;> rw [h0] at a5
 ·have HE := Hid.mk (HC0.out h0)
  clear HC5 h0
  go_wp2_with fail
  refine (a5 _).mono ?_
  rintro e w' ⟨rfl, rfl⟩
  go_wp2_with fail
  go_ret
  exact ⟨by rw [HE.out]; rfl, BY.out⟩
 by_cases h1 : cd = ci
 ·have HE := Hid.mk (HC1.out h1)
  have e1 : (cd != ci) = false := by rw [h1]; exact bne_self_eq_false _
  clear HC5 h0 h1
  go_wp2_with fail
  refine (a5 _).mono ?_
  rintro e w' ⟨rfl, rfl⟩
  go_wp2_with fail
  go_ret
  exact ⟨by rw [HE.out]; rfl, BY.out⟩
 have e1 : (cd != ci) = true := bne_iff_ne.2 h1
 by_cases hz0 : n1 = 0
 rotate_left
 ·have HE := Hid.mk (HC2.out hz0)
  have y0 : ((n1 : Int) == 0) = false := beq_eq_false_iff_ne.2 (by omega)
  have x0 : (n1 == 0) = false := beq_eq_false_iff_ne.2 hz0
  clear HC5 h0 h1
  go_wp2_with fail
  refine (a5 _).mono ?_
  rintro e w' ⟨rfl, rfl⟩
  go_wp2_with fail
  go_ret
  exact ⟨by rw [HE.out]; rfl, BY.out⟩
 subst hz0
 by_cases hz1 : n2 = 0
 rotate_left
 ·have HE := Hid.mk (HC3.out hz1)
  have y1 : ((n2 : Int) == 0) = false := beq_eq_false_iff_ne.2 (by omega)
  have x1 : (n2 == 0) = false := beq_eq_false_iff_ne.2 hz1
  clear HC5 h0 h1
  go_wp2_with fail
  refine (a5 _).mono ?_
  rintro e w' ⟨rfl, rfl⟩
  go_wp2_with fail
  go_ret
  exact ⟨by rw [HE.out]; rfl, BY.out⟩
 subst hz1
 by_cases hz2 : n3 = 0
 rotate_left
 ·have HE := Hid.mk (HC4.out hz2)
  have y2 : ((n3 : Int) == 0) = false := beq_eq_false_iff_ne.2 (by omega)
  have x2 : (n3 == 0) = false := beq_eq_false_iff_ne.2 hz2
  clear HC5 h0 h1
  go_wp2_with fail
  refine (a5 _).mono ?_
  rintro e w' ⟨rfl, rfl⟩
  go_wp2_with fail
  go_ret
  exact ⟨by rw [HE.out]; rfl, BY.out⟩
 subst hz2
 have HE := Hid.mk (HC5.out h1 h0 rfl rfl rfl)
 clear HC5 h0 h1
 go_wp2_with fail
 refine (a5 _).mono ?_
 rintro e w' ⟨rfl, rfl⟩
 go_wp2_with fail
 go_ret
 exact ⟨by rw [HE.out]; rfl, BY.out⟩
end Go.Proofs.Ytlhoonohpfpkbaa
