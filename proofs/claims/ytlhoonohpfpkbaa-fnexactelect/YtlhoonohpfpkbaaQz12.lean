/- CoAw CoAd CoPi CoDn CoRp -/
import Derived.Test.YtlhoonohpfpkbaaRows
import Derived.Deep.Cut
import Derived.Handy
import Derived.Test.YtlhoonohpfpkbaaQz10
import Derived.Laws.CopyOwn
import Derived.Test.YtlhoonohpfpkbaaQp0
import Derived.Test.YtlhoonohpfpkbaaQp1
import Derived.Test.YtlhoonohpfpkbaaQp2
import Derived.Test.YtlhoonohpfpkbaaQp3
import Derived.Test.YtlhoonohpfpkbaaQp4
import Derived.Test.YtlhoonohpfpkbaaQp5
import Derived.Test.YtlhoonohpfpkbaaQp6
import Derived.Test.YtlhoonohpfpkbaaQp7
import Derived.Test.YtlhoonohpfpkbaaQp8
import Derived.Test.YtlhoonohpfpkbaaQp9
import Derived.Test.YtlhoonohpfpkbaaQp10
import Derived.Test.YtlhoonohpfpkbaaQp11
import Derived.Test.YtlhoonohpfpkbaaQp12
open List (setIfInBounds_toArray set_cons_zero set_cons_succ)
namespace Go.Proofs.Ytlhoonohpfpkbaa
open Go.ChangeShapes Go.WideShapes Go.ChangeAt Go.RowKit Go.PlainAid
set_option linter.unusedVariables false
end Go.Proofs.Ytlhoonohpfpkbaa
namespace Go.Proofs.Ytlhoonohpfpkbaa
open Go.ChangeShapes Go.WideShapes Go.ChangeAt Go.RowKit Go.PlainAid
set_option linter.unusedVariables false
end Go.Proofs.Ytlhoonohpfpkbaa
namespace Go.Proofs.Ytlhoonohpfpkbaa
open Go.ChangeShapes Go.WideShapes Go.ChangeAt Go.RowKit Go.PlainAid
set_option linter.unusedVariables false
end Go.Proofs.Ytlhoonohpfpkbaa
namespace Go.Proofs.Ytlhoonohpfpkbaa
open Go.ChangeShapes Go.WideShapes Go.ChangeAt Go.RowKit Go.PlainAid
set_option linter.unusedVariables false
def downX (x : Cor) (t : Int) : Cor := { x with term := t, vote := if t = x.term then x.vote else -1, role := 1, lead := -1, yes := [], nxt := [], mat := [] }
theorem Owns.ownP {w : World} {base p : Nat} {v : Value} {r : List (List Value)} {cs : Array Value} (h : Owns w base 71 2 v r) (hP : Blk w p cs 74) (j : Nat) (x : Value) : Owns (w.setCell ⟨p, j, none⟩ x) base 71 2 v r := h.other (h.notBlk hP (by decide)) j x
set_option maxRecDepth 20000 in
set_option maxHeartbeats 8000000 in
theorem downI (ci cp ct cv cr cd cb cbt : Int) (lg : List Ent) (cc : Int) (ys ns ms : List Int) (tt : Int) (w : World) (base p : Nat) (hsp : SpkW w base p ⟨ci, cp, ct, cv, cr, cd, cb, cbt, lg, cc, ys, ns, ms⟩ []) (hbs : base ≤ w.heap.size) :
  Calls Try.prog 54 #[.pointer (some ⟨p, 0, none⟩), .int .i64 tt] w fun e w' => e = .returned (.tuple #[]) ∧ SpkW w' base p (downX ⟨ci, cp, ct, cv, cr, cd, cb, cbt, lg, cc, ys, ns, ms⟩ tt) [] ∧ Below base w w' := by
 obtain ⟨A0, An0, Ac0, A1, An1, Ac1, A2, An2, Ac2, A3, An3, Ac3, A4, An4, Ac4, h1, h2⟩ := hsp.nil
 have HS0 := Hid.mk h1
 have HO0 : Hid (Owns w base 71 2 (.slice A0 An0 Ac0) (entR lg)) := h2
 have PW : Hid (Blk w p #[.int .i64 ci, .int .i64 cp, .int .i64 ct, .int .i64 cv, .int .i64 cr, .int .i64 cd, .int .i64 cb, .int .i64 cbt, .slice A0 An0 Ac0, .int .i64 cc, .slice A1 An1 Ac1, .slice A2 An2 Ac2, .slice A3 An3 Ac3, .slice A4 An4 Ac4] 74) := h1.b
 clear hsp h1 h2
 have k2 := PW.out.cell 2 _ rfl
 by_cases ht : tt = ct
 ·have z1 : (tt != ct) = false := by rw [ht]; exact bne_self_eq_false _
  have HE : Hid (downX ⟨ci, cp, ct, cv, cr, cd, cb, cbt, lg, cc, ys, ns, ms⟩ tt = ⟨ci, cp, tt, cv, 1, -1, cb, cbt, lg, cc, [], [], []⟩) := by unfold Hid downX; simp only; rw [if_pos ht]
  clear ht
  go_enter Try.func54, Try.ntmps54
  have qf0 := PW.out.free 2
  have qo0 := PW.out.cell 2 _ rfl
  have qf1 := (PW.out.set 2 (.int .i64 tt)).free 4
  have qo1 := (PW.out.set 2 (.int .i64 tt)).cell 4 _ rfl
  have qf2 := ((PW.out.set 2 (.int .i64 tt)).set 4 (.int .i64 1)).free 5
  have qo2 := ((PW.out.set 2 (.int .i64 tt)).set 4 (.int .i64 1)).cell 5 _ rfl
  have qf3 := (((PW.out.set 2 (.int .i64 tt)).set 4 (.int .i64 1)).set 5 (.int .i64 (-1))).free 10
  have qo3 := (((PW.out.set 2 (.int .i64 tt)).set 4 (.int .i64 1)).set 5 (.int .i64 (-1))).cell 10 _ rfl
  have qf4 := ((((PW.out.set 2 (.int .i64 tt)).set 4 (.int .i64 1)).set 5 (.int .i64 (-1))).set 10 (.slice none 0 0)).free 11
  have qo4 := ((((PW.out.set 2 (.int .i64 tt)).set 4 (.int .i64 1)).set 5 (.int .i64 (-1))).set 10 (.slice none 0 0)).cell 11 _ rfl
  have qf5 := (((((PW.out.set 2 (.int .i64 tt)).set 4 (.int .i64 1)).set 5 (.int .i64 (-1))).set 10 (.slice none 0 0)).set 11 (.slice none 0 0)).free 12
  have qo5 := (((((PW.out.set 2 (.int .i64 tt)).set 4 (.int .i64 1)).set 5 (.int .i64 (-1))).set 10 (.slice none 0 0)).set 11 (.slice none 0 0)).cell 12 _ rfl
  have FS : Hid (SpkW ((((((w.setCell ⟨p, 2, none⟩ (.int .i64 tt)).setCell ⟨p, 4, none⟩ (.int .i64 1)).setCell ⟨p, 5, none⟩ (.int .i64 (-1))).setCell ⟨p, 10, none⟩ (.slice none 0 0)).setCell ⟨p, 11, none⟩ (.slice none 0 0)).setCell ⟨p, 12, none⟩ (.slice none 0 0)) base p ⟨ci, cp, tt, cv, 1, -1, cb, cbt, lg, cc, [], [], []⟩ []) := by
   have hr := ((((((HS0.out.r.atP PW.out 2 (.int .i64 tt)).atP (PW.out.set 2 (.int .i64 tt)) 4 (.int .i64 1)).atP ((PW.out.set 2 (.int .i64 tt)).set 4 (.int .i64 1)) 5 (.int .i64 (-1))).atP (((PW.out.set 2 (.int .i64 tt)).set 4 (.int .i64 1)).set 5 (.int .i64 (-1))) 10 (.slice none 0 0)).atP ((((PW.out.set 2 (.int .i64 tt)).set 4 (.int .i64 1)).set 5 (.int .i64 (-1))).set 10 (.slice none 0 0)) 11 (.slice none 0 0)).atP (((((PW.out.set 2 (.int .i64 tt)).set 4 (.int .i64 1)).set 5 (.int .i64 (-1))).set 10 (.slice none 0 0)).set 11 (.slice none 0 0)) 12 (.slice none 0 0))
   have hm := ((((((HS0.out.m.atP PW.out 2 (.int .i64 tt)).atP (PW.out.set 2 (.int .i64 tt)) 4 (.int .i64 1)).atP ((PW.out.set 2 (.int .i64 tt)).set 4 (.int .i64 1)) 5 (.int .i64 (-1))).atP (((PW.out.set 2 (.int .i64 tt)).set 4 (.int .i64 1)).set 5 (.int .i64 (-1))) 10 (.slice none 0 0)).atP ((((PW.out.set 2 (.int .i64 tt)).set 4 (.int .i64 1)).set 5 (.int .i64 (-1))).set 10 (.slice none 0 0)) 11 (.slice none 0 0)).atP (((((PW.out.set 2 (.int .i64 tt)).set 4 (.int .i64 1)).set 5 (.int .i64 (-1))).set 10 (.slice none 0 0)).set 11 (.slice none 0 0)) 12 (.slice none 0 0))
   exact ⟨_, _, _, _, _, [], ⟨((((((PW.out.set 2 (.int .i64 tt)).set 4 (.int .i64 1)).set 5 (.int .i64 (-1))).set 10 (.slice none 0 0)).set 11 (.slice none 0 0)).set 12 (.slice none 0 0)), ⟨hr.l, Nums.nil _ _, Nums.nil _ _, Nums.nil _ _, fun g h => (by cases h), fun g h => (by cases h), fun g h => (by cases h)⟩, hm, fun q hq => (by cases hq), HS0.out.p⟩, rfl, ((((((HO0.out.ownP PW.out 2 (.int .i64 tt)).ownP (PW.out.set 2 (.int .i64 tt)) 4 (.int .i64 1)).ownP ((PW.out.set 2 (.int .i64 tt)).set 4 (.int .i64 1)) 5 (.int .i64 (-1))).ownP (((PW.out.set 2 (.int .i64 tt)).set 4 (.int .i64 1)).set 5 (.int .i64 (-1))) 10 (.slice none 0 0)).ownP ((((PW.out.set 2 (.int .i64 tt)).set 4 (.int .i64 1)).set 5 (.int .i64 (-1))).set 10 (.slice none 0 0)) 11 (.slice none 0 0)).ownP (((((PW.out.set 2 (.int .i64 tt)).set 4 (.int .i64 1)).set 5 (.int .i64 (-1))).set 10 (.slice none 0 0)).set 11 (.slice none 0 0)) 12 (.slice none 0 0))⟩
  have FB : Hid (Below base w ((((((w.setCell ⟨p, 2, none⟩ (.int .i64 tt)).setCell ⟨p, 4, none⟩ (.int .i64 1)).setCell ⟨p, 5, none⟩ (.int .i64 (-1))).setCell ⟨p, 10, none⟩ (.slice none 0 0)).setCell ⟨p, 11, none⟩ (.slice none 0 0)).setCell ⟨p, 12, none⟩ (.slice none 0 0))) := (((((((Below.refl _ _).setCell HS0.out.p _).setCell HS0.out.p _).setCell HS0.out.p _).setCell HS0.out.p _).setCell HS0.out.p _).setCell HS0.out.p _)
  clear HS0 HO0 PW
  go_wp2_with fail
  exact bodyPost_end (v := .tuple #[]) (by simp [results, go_sem]) rfl ⟨rfl, by rw [HE.out]; exact FS.out, FB.out⟩
 ·have z1 : (tt != ct) = true := bne_iff_ne.2 ht
  have HE : Hid (downX ⟨ci, cp, ct, cv, cr, cd, cb, cbt, lg, cc, ys, ns, ms⟩ tt = ⟨ci, cp, tt, -1, 1, -1, cb, cbt, lg, cc, [], [], []⟩) := by unfold Hid downX; simp only; rw [if_neg ht]
  clear ht
  go_enter Try.func54, Try.ntmps54
  have qf0 := PW.out.free 3
  have qo0 := PW.out.cell 3 _ rfl
  have qf1 := (PW.out.set 3 (.int .i64 (-1))).free 2
  have qo1 := (PW.out.set 3 (.int .i64 (-1))).cell 2 _ rfl
  have qf2 := ((PW.out.set 3 (.int .i64 (-1))).set 2 (.int .i64 tt)).free 4
  have qo2 := ((PW.out.set 3 (.int .i64 (-1))).set 2 (.int .i64 tt)).cell 4 _ rfl
  have qf3 := (((PW.out.set 3 (.int .i64 (-1))).set 2 (.int .i64 tt)).set 4 (.int .i64 1)).free 5
  have qo3 := (((PW.out.set 3 (.int .i64 (-1))).set 2 (.int .i64 tt)).set 4 (.int .i64 1)).cell 5 _ rfl
  have qf4 := ((((PW.out.set 3 (.int .i64 (-1))).set 2 (.int .i64 tt)).set 4 (.int .i64 1)).set 5 (.int .i64 (-1))).free 10
  have qo4 := ((((PW.out.set 3 (.int .i64 (-1))).set 2 (.int .i64 tt)).set 4 (.int .i64 1)).set 5 (.int .i64 (-1))).cell 10 _ rfl
  have qf5 := (((((PW.out.set 3 (.int .i64 (-1))).set 2 (.int .i64 tt)).set 4 (.int .i64 1)).set 5 (.int .i64 (-1))).set 10 (.slice none 0 0)).free 11
  have qo5 := (((((PW.out.set 3 (.int .i64 (-1))).set 2 (.int .i64 tt)).set 4 (.int .i64 1)).set 5 (.int .i64 (-1))).set 10 (.slice none 0 0)).cell 11 _ rfl
  have qf6 := ((((((PW.out.set 3 (.int .i64 (-1))).set 2 (.int .i64 tt)).set 4 (.int .i64 1)).set 5 (.int .i64 (-1))).set 10 (.slice none 0 0)).set 11 (.slice none 0 0)).free 12
  have qo6 := ((((((PW.out.set 3 (.int .i64 (-1))).set 2 (.int .i64 tt)).set 4 (.int .i64 1)).set 5 (.int .i64 (-1))).set 10 (.slice none 0 0)).set 11 (.slice none 0 0)).cell 12 _ rfl
  have FS : Hid (SpkW (((((((w.setCell ⟨p, 3, none⟩ (.int .i64 (-1))).setCell ⟨p, 2, none⟩ (.int .i64 tt)).setCell ⟨p, 4, none⟩ (.int .i64 1)).setCell ⟨p, 5, none⟩ (.int .i64 (-1))).setCell ⟨p, 10, none⟩ (.slice none 0 0)).setCell ⟨p, 11, none⟩ (.slice none 0 0)).setCell ⟨p, 12, none⟩ (.slice none 0 0)) base p ⟨ci, cp, tt, -1, 1, -1, cb, cbt, lg, cc, [], [], []⟩ []) := by
   have hr := (((((((HS0.out.r.atP PW.out 3 (.int .i64 (-1))).atP (PW.out.set 3 (.int .i64 (-1))) 2 (.int .i64 tt)).atP ((PW.out.set 3 (.int .i64 (-1))).set 2 (.int .i64 tt)) 4 (.int .i64 1)).atP (((PW.out.set 3 (.int .i64 (-1))).set 2 (.int .i64 tt)).set 4 (.int .i64 1)) 5 (.int .i64 (-1))).atP ((((PW.out.set 3 (.int .i64 (-1))).set 2 (.int .i64 tt)).set 4 (.int .i64 1)).set 5 (.int .i64 (-1))) 10 (.slice none 0 0)).atP (((((PW.out.set 3 (.int .i64 (-1))).set 2 (.int .i64 tt)).set 4 (.int .i64 1)).set 5 (.int .i64 (-1))).set 10 (.slice none 0 0)) 11 (.slice none 0 0)).atP ((((((PW.out.set 3 (.int .i64 (-1))).set 2 (.int .i64 tt)).set 4 (.int .i64 1)).set 5 (.int .i64 (-1))).set 10 (.slice none 0 0)).set 11 (.slice none 0 0)) 12 (.slice none 0 0))
   have hm := (((((((HS0.out.m.atP PW.out 3 (.int .i64 (-1))).atP (PW.out.set 3 (.int .i64 (-1))) 2 (.int .i64 tt)).atP ((PW.out.set 3 (.int .i64 (-1))).set 2 (.int .i64 tt)) 4 (.int .i64 1)).atP (((PW.out.set 3 (.int .i64 (-1))).set 2 (.int .i64 tt)).set 4 (.int .i64 1)) 5 (.int .i64 (-1))).atP ((((PW.out.set 3 (.int .i64 (-1))).set 2 (.int .i64 tt)).set 4 (.int .i64 1)).set 5 (.int .i64 (-1))) 10 (.slice none 0 0)).atP (((((PW.out.set 3 (.int .i64 (-1))).set 2 (.int .i64 tt)).set 4 (.int .i64 1)).set 5 (.int .i64 (-1))).set 10 (.slice none 0 0)) 11 (.slice none 0 0)).atP ((((((PW.out.set 3 (.int .i64 (-1))).set 2 (.int .i64 tt)).set 4 (.int .i64 1)).set 5 (.int .i64 (-1))).set 10 (.slice none 0 0)).set 11 (.slice none 0 0)) 12 (.slice none 0 0))
   exact ⟨_, _, _, _, _, [], ⟨(((((((PW.out.set 3 (.int .i64 (-1))).set 2 (.int .i64 tt)).set 4 (.int .i64 1)).set 5 (.int .i64 (-1))).set 10 (.slice none 0 0)).set 11 (.slice none 0 0)).set 12 (.slice none 0 0)), ⟨hr.l, Nums.nil _ _, Nums.nil _ _, Nums.nil _ _, fun g h => (by cases h), fun g h => (by cases h), fun g h => (by cases h)⟩, hm, fun q hq => (by cases hq), HS0.out.p⟩, rfl, (((((((HO0.out.ownP PW.out 3 (.int .i64 (-1))).ownP (PW.out.set 3 (.int .i64 (-1))) 2 (.int .i64 tt)).ownP ((PW.out.set 3 (.int .i64 (-1))).set 2 (.int .i64 tt)) 4 (.int .i64 1)).ownP (((PW.out.set 3 (.int .i64 (-1))).set 2 (.int .i64 tt)).set 4 (.int .i64 1)) 5 (.int .i64 (-1))).ownP ((((PW.out.set 3 (.int .i64 (-1))).set 2 (.int .i64 tt)).set 4 (.int .i64 1)).set 5 (.int .i64 (-1))) 10 (.slice none 0 0)).ownP (((((PW.out.set 3 (.int .i64 (-1))).set 2 (.int .i64 tt)).set 4 (.int .i64 1)).set 5 (.int .i64 (-1))).set 10 (.slice none 0 0)) 11 (.slice none 0 0)).ownP ((((((PW.out.set 3 (.int .i64 (-1))).set 2 (.int .i64 tt)).set 4 (.int .i64 1)).set 5 (.int .i64 (-1))).set 10 (.slice none 0 0)).set 11 (.slice none 0 0)) 12 (.slice none 0 0))⟩
  have FB : Hid (Below base w (((((((w.setCell ⟨p, 3, none⟩ (.int .i64 (-1))).setCell ⟨p, 2, none⟩ (.int .i64 tt)).setCell ⟨p, 4, none⟩ (.int .i64 1)).setCell ⟨p, 5, none⟩ (.int .i64 (-1))).setCell ⟨p, 10, none⟩ (.slice none 0 0)).setCell ⟨p, 11, none⟩ (.slice none 0 0)).setCell ⟨p, 12, none⟩ (.slice none 0 0))) := ((((((((Below.refl _ _).setCell HS0.out.p _).setCell HS0.out.p _).setCell HS0.out.p _).setCell HS0.out.p _).setCell HS0.out.p _).setCell HS0.out.p _).setCell HS0.out.p _)
  clear HS0 HO0 PW
  go_wp2_with fail
  exact bodyPost_end (v := .tuple #[]) (by simp [results, go_sem]) rfl ⟨rfl, by rw [HE.out]; exact FS.out, FB.out⟩
end Go.Proofs.Ytlhoonohpfpkbaa
namespace Go.Proofs.Ytlhoonohpfpkbaa
open Go.ChangeShapes Go.WideShapes Go.ChangeAt Go.RowKit Go.PlainAid
set_option linter.unusedVariables false
theorem size_i3 : (Try.prog.info? 3).map (·.size) = some 1 := by kernel_rfl
theorem copy1 (W : World) (gd g : Nat) (z : Int) (hd : Blk W gd #[.int .i64 0] 3) (hs : W.cell? ⟨g, 0, none⟩ = some (.int .i64 z)) : ∃ W2, (Builtin.copy_ #[23, 23] 3 #[.slice (some ⟨gd, 0, none⟩) 1 1, .slice (some ⟨g, 0, none⟩) 1 1]).run Try.prog W = .ok (.int .i64 1) W2 ∧ Blk W2 gd #[.int .i64 z] 3 ∧ ∀ B w0, B ≤ gd → Below B w0 W → Below B w0 W2 := by
 have h := run_copy_row (P := Try.prog) W 23 23 3 3 gd 0 1 1 ⟨g, 0, none⟩ 1 1 #[.int .i64 0] 3 [.int .i64 z] Try.underlying23 size_i3 hd rfl (fun j v hj => by
  rcases j with _ | j
  ·simp only [List.getElem?_cons_zero, Option.some.injEq] at hj
   subst hj
   exact hs
  ·simp at hj) (by simp) (by intro v hv; rw [List.mem_singleton.1 hv]; rfl)
 refine ⟨_, h, ?_, fun B w0 hB hb => below_setRow hb hB _⟩
 exact setRow_heap W gd _ _ 3 _ hd
theorem mul64_1 (w : World) : Calls Try.prog 90 #[.int .u64 1, .int .u64 1] w fun e w' => e = .returned (.tuple #[.int .u64 0, .int .u64 1]) ∧ w = w' := by
 have b1 : bits BinOp.and IntKind.u64 1 4294967295 = 1 := by decide
 have bn : bits BinOp.and IntKind.u64 1 4294967295 = 1 := by decide
 have b0 : bits BinOp.and IntKind.u64 0 4294967295 = 0 := by decide
 have w0 : IntKind.u64.wrap 0 = 0 := by decide
 have wn : IntKind.u64.wrap 1 = 1 := by decide
 have wn1 : IntKind.u64.wrap (1 * 1) = 1 := by decide
 go_enter Try.func90, Try.ntmps90
 go_wp2_with fail
 refine bodyPost_ret (v := .tuple #[.int .u64 0, .int .u64 1]) ?_ rfl ⟨rfl, by first | rfl | trivial⟩
 simp [results, go_sem]
 try decide
theorem mul_1 (w : World) : Calls Try.prog 84 #[.int .u64 1, .int .u64 1] w fun e w' => e = .returned (.tuple #[.int .u64 0, .int .u64 1]) ∧ w = w' := by
 have c1 := mul64_1 w
 go_enter Try.func84, Try.ntmps84
 go_wp2_with fail
 refine c1.mono ?_
 rintro e w' ⟨rfl, rfl⟩
 go_wp2_with fail
 exact bodyPost_ret (v := .tuple #[.int .u64 0, .int .u64 1]) (by simp [results, go_sem]) rfl ⟨rfl, by first | rfl | trivial⟩
set_option maxRecDepth 20000 in
set_option maxHeartbeats 4000000 in
theorem rep_1 (g : Nat) (z : Int) (w : World) (hb : Blk w g #[.int .i64 z] 3) : Calls Try.prog 75 #[.slice (some ⟨g, 0, none⟩) 1 1, .int .i64 1] w fun e w' => (∃ u, e = .returned u ∧ Nums w' w.heap.size u (List.replicate 1 z)) ∧ Below w.heap.size w w' := by
 have HBk := Hid.mk hb
 have k0 := hb.cell 0 _ rfl
 have hg := hb.lt
 obtain ⟨i0, hi, hz0, hz1, hz2⟩ := info_parts Try.infoInt
 have hmk : ∀ wx : World, (Instr.makeSlice 23 (.int .i64 1) (.int .i64 1)).run Try.prog wx = .ok (.slice (some ⟨wx.heap.size, 0, none⟩) 1 1) (wx.alloc (.cells (numCells (List.replicate 1 0)).toArray 3)) := fun wx => by
  have h := run_make (P := Try.prog) wx 23 3 i0 _ Try.underlying23 hi hz0 .i64 .i64 1 1 (by omega) (by omega) (by rw [hz2]; omega) (by omega)
  rw [hz1] at h
  have e : (Value.int .i64 0).cells = #[.int .i64 0] := rfl
  rw [e, show ((1 : Int)).toNat = 1 from rfl, num_made] at h
  exact h
 clear hi hz0 hz1 hz2
 go_enter Try.func75, Try.ntmps75
 go_wp2_with fail
 refine (mul_1 w).mono ?_
 rintro e w' ⟨rfl, rfl⟩
 go_wp2_with fail
 have hn1 : (numCells [0]).toArray = #[Value.int .i64 0] := rfl
 obtain ⟨W1, hW1⟩ : ∃ W1, W1 = w.alloc (.cells (numCells [0]).toArray 3) := ⟨_, rfl⟩
 have HMb : Hid (Below w.heap.size w W1) := by unfold Hid; rw [hW1]; exact (Below.refl _ w).alloc (Nat.le_refl _) _
 have hw1 : Blk W1 w.heap.size #[.int .i64 0] 3 := by rw [hW1]; exact Blk.new w _ 3
 have hk1 : W1.cell? ⟨g, 0, none⟩ = some (.int .i64 z) := by rw [HMb.out.cell (p := ⟨g, 0, none⟩) hg]; exact k0
 obtain ⟨W2, hcp, hB2, hbb⟩ := copy1 W1 w.heap.size g z hw1 hk1
 rw [hW1] at hcp
 have FN : Hid (Nums W2 w.heap.size (.slice (some ⟨w.heap.size, 0, none⟩) 1 1) [z]) := by
  have hN1 : Nums W1 w.heap.size (.slice (some ⟨w.heap.size, 0, none⟩) 1 1) [0] := by rw [hW1]; exact Nums.one w w.heap.size 0 (Nat.le_refl _)
  have hN2 := hN1.stored 0 z
  have hX : Blk (W1.setCell ⟨w.heap.size, 0, none⟩ (.int .i64 z)) w.heap.size #[.int .i64 z] 3 := hw1.set 0 _
  exact hN2.kept fun k hk e => by
   cases e
   exact hB2.trans hX.symm
 have FB : Hid (Below w.heap.size w W2) := hbb _ _ (Nat.le_refl _) HMb.out
 clear hB2 hbb hw1 hk1 HMb hW1
 go_wp2_with fail
 rw [hcp]
 go_wp2_with fail
 go_loopw [8] (fun v8 wr => v8 = .int .i64 1 ∧ W2 = wr) (fun _ _ => 0)
 case atStart => exact ⟨rfl, rfl⟩
 case round =>
  obtain ⟨rfl, rfl⟩ := hrel
  go_wp2_with fail
  go_ret
  exact ⟨⟨_, rfl, FN.out⟩, FB.out⟩
end Go.Proofs.Ytlhoonohpfpkbaa
