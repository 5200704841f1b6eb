/- CoI1 CoTm CoOth CoI2 CoI3 CoI4 -/
import Derived.Test.YtlhoonohpfpkbaaRows
import Derived.Test.YtlhoonohpfpkbaaQp0
import Derived.Test.YtlhoonohpfpkbaaQp3
import Derived.Test.YtlhoonohpfpkbaaQp2
import Derived.Deep.Cut
import Derived.Handy
open List (setIfInBounds_toArray set_cons_zero set_cons_succ)
namespace Go.Proofs.Ytlhoonohpfpkbaa
open Go.ChangeShapes Go.WideShapes Go.ChangeAt Go.RowKit Go.PlainAid
set_option linter.unusedVariables false
theorem cellsC13 {w : World} {g : Nat} {a0 a1 a2 a3 a4 a5 a6 a7 a8 a9 a10 a11 a12 : Value} {t : TypeId} (h : Blk w g #[a0, a1, a2, a3, a4, a5, a6, a7, a8, a9, a10, a11, a12] t) : w.cell? ⟨g, 0, none⟩ = some a0 ∧ w.cell? ⟨g, 1, none⟩ = some a1 ∧ w.cell? ⟨g, 2, none⟩ = some a2 ∧ w.cell? ⟨g, 3, none⟩ = some a3 ∧ w.cell? ⟨g, 4, none⟩ = some a4 ∧ w.cell? ⟨g, 5, none⟩ = some a5 ∧ w.cell? ⟨g, 6, none⟩ = some a6 ∧ w.cell? ⟨g, 7, none⟩ = some a7 ∧ w.cell? ⟨g, 8, none⟩ = some a8 ∧ w.cell? ⟨g, 9, none⟩ = some a9 ∧ w.cell? ⟨g, 10, none⟩ = some a10 ∧ w.cell? ⟨g, 11, none⟩ = some a11 ∧ w.cell? ⟨g, 12, none⟩ = some a12 := ⟨h.cell 0 _ rfl, h.cell 1 _ rfl, h.cell 2 _ rfl, h.cell 3 _ rfl, h.cell 4 _ rfl, h.cell 5 _ rfl, h.cell 6 _ rfl, h.cell 7 _ rfl, h.cell 8 _ rfl, h.cell 9 _ rfl, h.cell 10 _ rfl, h.cell 11 _ rfl, h.cell 12 _ rfl⟩
set_option maxHeartbeats 400000 in
theorem inW (x lo hi : Int) (w : World) : Calls Try.prog 68 #[.int .i64 x, .int .i64 lo, .int .i64 hi] w fun e w' => e = .returned (.bool (inIt x lo hi)) ∧ w = w' := by
 by_cases h1 : lo ≤ x
 ·go_enter Try.func68, Try.ntmps68
  go_wp2
  go_ret
  exact ⟨by simp [inIt, h1], rfl⟩
 ·have z : decide (lo ≤ x) = false := decide_eq_false h1
  have z2 : x < lo := by omega
  go_enter Try.func68, Try.ntmps68
  go_wp2
  go_ret
  exact ⟨by unfold inIt; rw [z]; rfl, rfl⟩
set_option maxHeartbeats 1000000 in
theorem lastI (ci cp ct cv cr cd cb cbt : Int) (cc : Int) (A0 : Option Addr) (n0 c0 : Nat) (u1 u2 u3 : Value) (w : World) (h0 : 0 ≤ cb) (h1 : cb ≤ 200000) (hn : n0 ≤ 1048576) : Calls Try.prog 57 #[.agg #[.int .i64 ci, .int .i64 cp, .int .i64 ct, .int .i64 cv, .int .i64 cr, .int .i64 cd, .int .i64 cb, .int .i64 cbt, .slice A0 n0 c0, .int .i64 cc, u1, u2, u3]] w fun e w' => e = .returned (.int .i64 (cb + (n0 : Int))) ∧ Below w.heap.size w w' := by
 have w1 : IntKind.i64.wrap (cb + (n0 : Int)) = cb + (n0 : Int) := by rw [IntKind.wrap_i64]; omega
 have q : (n0 : Int) ≤ 1048576 := by omega
 go_enter Try.func57, Try.ntmps57
 go_wp2
 go_ret
 exact ⟨rfl, (Below.refl _ _).alloc (Nat.le_refl _) _⟩
set_option maxHeartbeats 1000000 in
theorem walI (ci cp ct cv cr cd cb cbt : Int) (cc : Int) (A0 : Option Addr) (n0 c0 : Nat) (u1 u2 u3 : Value) (w : World) : Calls Try.prog 70 #[.agg #[.int .i64 ci, .int .i64 cp, .int .i64 ct, .int .i64 cv, .int .i64 cr, .int .i64 cd, .int .i64 cb, .int .i64 cbt, .slice A0 n0 c0, .int .i64 cc, u1, u2, u3]] w fun e w' => e = .returned (.agg #[.int .i64 ct, .int .i64 cv, .int .i64 cb, .int .i64 cbt, .slice A0 n0 c0]) ∧ Below w.heap.size w w' := by
 have HB : ∀ a b, Hid (Below w.heap.size w ((w.alloc a).alloc b)) := fun a b => ((Below.refl _ _).alloc (Nat.le_refl _) _).alloc (by simp) _
 go_enter Try.func70, Try.ntmps70
 go_wp2_with fail
 exact bodyPost_ret (v := .agg #[.int .i64 ct, .int .i64 cv, .int .i64 cb, .int .i64 cbt, .slice A0 n0 c0]) (by simp [results, go_sem]) rfl ⟨rfl, (HB _ _).out⟩
set_option maxHeartbeats 1000000 in
theorem majI (ci cp ct cv cr cd cb cbt : Int) (cc : Int) (m : Int) (u0 u1 u2 u3 : Value) (w : World) (h0 : 0 ≤ m) (h1 : m ≤ 1048576) : Calls Try.prog 55 #[.agg #[.int .i64 ci, .int .i64 cp, .int .i64 ct, .int .i64 cv, .int .i64 cr, .int .i64 cd, .int .i64 cb, .int .i64 cbt, u0, .int .i64 cc, u1, u2, u3], .int .i64 m] w fun e w' => e = .returned (.bool (decide (cp < 2 * m))) ∧ Below w.heap.size w w' := by
 have w1 : IntKind.i64.wrap (2 * m) = 2 * m := by rw [IntKind.wrap_i64]; omega
 go_enter Try.func55, Try.ntmps55
 go_wp2
 go_ret
 exact ⟨rfl, (Below.refl _ _).alloc (Nat.le_refl _) _⟩
set_option maxHeartbeats 2000000 in
theorem indexI (l : List Int) (v : Value) (x : Int) (w : World) (B : Nat) (hv : NumsV w B v l) (hn : l.length ≤ 1048576) : Calls Try.prog 93 #[v, .int .i64 x] w fun e w' => (∃ r : Int, e = .returned (.int .i64 r) ∧ Hid ((0 ≤ r ∧ x ∈ l) ∨ (r = -1 ∧ x ∉ l))) ∧ w = w' := by
 obtain ⟨A, cap, rfl, _, _, hc⟩ := hv
 have HC : Hid (∀ j, j < l.length → ∃ g off, A = some ⟨g, off, none⟩ ∧ g < B ∧ w.cell? ⟨g, off + j, none⟩ = some (.int .i64 (l.getD j 0))) := hc
 have HMem : Hid (∀ j, j < l.length → l.getD j 0 ∈ l) := fun j hj => by rw [List.getD_eq_getElem?_getD, List.getElem?_eq_getElem hj]; exact List.getElem_mem hj
 have HAll : Hid ((∀ j, j < l.length → l.getD j 0 ≠ x) → x ∉ l) := fun h hm => by
  obtain ⟨j, hj, e⟩ := List.getElem_of_mem hm
  exact h j hj (by rw [List.getD_eq_getElem?_getD, List.getElem?_eq_getElem hj]; exact e)
 have q1 : (l.length : Int) ≤ 1048576 := by omega
 clear hc
 generalize hN : l.length = n at *
 clear hN
 go_enter Try.func93, Try.ntmps93
 go_wp2_with fail
 go_loopw [5, 8] (fun v5 v8 wr => ∃ k : Nat, k ≤ n ∧ v8 = .int .i64 (k : Int) ∧ w = wr ∧ Hid (∀ j, j < k → l.getD j 0 ≠ x)) (fun _ v _ => n - (intOf v).toNat)
 case atStart => exact ⟨0, by omega, rfl, rfl, fun j hj => by omega⟩
 case round =>
  obtain ⟨k, hk, rfl, rfl, HR⟩ := hrel
  by_cases hlt : k < n
  ·have q2 : (k : Int) < (n : Int) := by omega
   obtain ⟨g, off, rfl, hg, d0⟩ := HC.out k hlt
   have HM : Hid (l.getD k 0 ∈ l) := HMem.out k hlt
   have HNx : Hid (∀ j, j < k + 1 → j = k ∨ l.getD j 0 ≠ x) := fun j hj => by
    by_cases h : j = k
    ·exact .inl h
    ·exact .inr (HR.out j (by omega))
   have HGk : Hid (∀ y : Int, l.getD k 0 = y → y ≠ x → l.getD k 0 ≠ x) := fun y h1 h2 => by rw [h1]; exact h2
   generalize hy : l.getD k 0 = y at *
   by_cases he : x = y
   ·subst he
    go_wp2_with fail
    go_ret
    exact ⟨⟨_, rfl, .inl ⟨by omega, HM.out⟩⟩, rfl⟩
   ·have e1 : (x == y) = false := beq_eq_false_iff_ne.2 he
    have HNy : Hid (¬ y = x) := fun h => he h.symm
    have HY : Hid (l.getD k 0 = y) := hy
    clear hy he
    go_wp2_with fail
    go_roundw
    case rel => exact ⟨k + 1, by omega, by go_num, by trivial, fun j hj => (HNx.out j hj).elim (fun h => by rw [h, HY.out]; exact HNy.out) id⟩
    case measure => simp [intOf]; omega
  ·obtain rfl : k = n := by omega
   have HF : Hid (x ∉ l) := HAll.out HR.out
   go_wp2_with fail
   go_ret
   exact ⟨⟨_, rfl, .inr ⟨rfl, HF.out⟩⟩, rfl⟩
set_option maxHeartbeats 1000000 in
theorem hasI (l : List Int) (v : Value) (x : Int) (w : World) (B : Nat) (hv : NumsV w B v l) (hn : l.length ≤ 1048576) : Calls Try.prog 88 #[v, .int .i64 x] w fun e w' => e = .returned (.bool (decide (x ∈ l))) ∧ w = w' := by
 have c := indexI l v x w B hv hn
 obtain ⟨A, cap, rfl, _⟩ := hv
 go_enter Try.func88, Try.ntmps88
 go_wp2_with fail
 refine c.mono ?_
 rintro e w' ⟨⟨r, rfl, HR⟩, rfl⟩
 rcases HR.out with ⟨h1, h2⟩ | ⟨rfl, h2⟩
 ·have e1 : decide (0 ≤ r) = true := decide_eq_true h1
  have HM : Hid (x ∈ l) := h2
  clear h2
  go_wp2_with fail
  go_ret
  exact ⟨by rw [decide_eq_true HM.out]; rfl, rfl⟩
 ·have HM : Hid (x ∉ l) := h2
  clear h2
  go_wp2_with fail
  go_ret
  exact ⟨by rw [decide_eq_false HM.out]; rfl, rfl⟩
end Go.Proofs.Ytlhoonohpfpkbaa
namespace Go.Proofs.Ytlhoonohpfpkbaa
open Go.ChangeShapes Go.WideShapes Go.ChangeAt Go.RowKit Go.PlainAid
set_option linter.unusedVariables false
theorem elem_entC : Try.prog.elem 27 = 71 := by kernel_rfl
theorem size_entC : (Try.prog.info? 71).map (·.size) = some 2 := by kernel_rfl
theorem cut_run (A : Option Addr) (n c k : Nat) (hk : k ≤ n) (hc : n ≤ c) (wx : World) : (Instr.sliceAt 27 (.slice A n c) (some (.int .i64 (k : Int))) none none).run Try.prog wx = .ok (.slice (if c = k then A else A.map (·.add (k * 2))) (n - k) (c - k)) wx := by
 have hu : Try.prog.underlying 27 = some (.slice (Try.prog.elem 27)) := by rw [elem_entC]; exact Try.underlying27
 have hz := size_entC
 cases hq : Try.prog.info? 71 with
 | none => rw [hq] at hz; simp at hz
 | some i =>
  rw [hq] at hz
  have hi : i.size = 2 := by simpa using hz
  rw [run_sliceAt_slice wx 27 _ _ _ _ hu, run_slice_l wx 27 A n c hu .i64 (k : Int) (by omega) (by omega), elem_entC]
  simp [sizeOf, typeInfo, hq, hi, sliced]
theorem OwnF.cut {w : World} {base n c : Nat} {A : Option Addr} {R : List (List Value)} (h : OwnF w base (.slice A n c) R) (k : Nat) (hk : k ≤ R.length) : ∃ A' m' c', (∀ wx, (Instr.sliceAt 27 (.slice A n c) (some (.int .i64 (k : Int))) none none).run Try.prog wx = .ok (.slice A' m' c') wx) ∧ OwnF w base (.slice A' m' c') (R.drop k) ∧ (∀ g, blkF (.slice A' m' c') = some g → blkF (.slice A n c) = some g) := by
 rcases h with ⟨rfl, A1, c1, e, hA⟩ | ⟨h0, g, n0, c0, d, c1, R0, h1, h2, h3, e, h5, h6⟩
 ·cases e
  have hk0 : k = 0 := by simpa using hk
  subst hk0
  refine ⟨_, _, _, fun wx => cut_run A 0 c 0 (Nat.le_refl _) (Nat.zero_le _) wx, .inl ⟨by simp, _, _, rfl, fun e => ?_⟩, fun g hg => ?_⟩
  ·split at e
   ·rw [hA e]
   ·cases A with
    | none => rw [hA rfl]
    | some a => cases e
  ·split at hg
   ·cases A <;> cases hg
   ·cases A <;> cases hg
 ·cases e
  have hb1 : ∀ g', blkF (.slice (some ⟨g, d * 2, none⟩) R.length c) = some g' ↔ g = g' := fun g' => by
   obtain ⟨q, hq⟩ : ∃ q, R.length = q + 1 := ⟨R.length - 1, by omega⟩
   rw [hq]
   exact ⟨fun h => by cases h; rfl, fun h => by subst h; rfl⟩
  refine ⟨_, _, _, fun wx => cut_run _ _ _ k hk h5 wx, ?_, fun g' hg => ?_⟩
  ·by_cases hkn : k = R.length
   ·left
    refine ⟨by rw [hkn, List.drop_length], _, _, by rw [hkn, Nat.sub_self], fun e => ?_⟩
    split at e
    ·cases e
    ·cases e
   ·right
    have hne : c ≠ k := by omega
    have hl : (R.drop k).length = R.length - k := List.length_drop
    refine ⟨by omega, g, n0, c0, d + k, c - k, R0, h1, h2, by omega, ?_, by omega, ?_⟩
    ·rw [if_neg hne, hl]
     simp [Addr.add]
     cases k with
     | zero => simp
     | succ k => simp [Nat.add_mul]
    ·rw [h6, List.drop_drop]
  ·rw [hb1]
   have := blkF_own hg
   split at this
   ·simpa [Value.ownBlock] using this
   ·simp [Value.ownBlock, Addr.add] at this
    cases k with
    | zero => simpa using this
    | succ k => simpa using this
theorem termAt_at (x : Cor) (i : Int) (j : Nat) (h : ¬ i = x.base) (hj : i - x.base - 1 = (j : Int)) : termAt x i = (x.log.getD j default).term := by
 unfold termAt
 rw [if_neg h, hj]
 rfl
set_option maxHeartbeats 2000000 in
theorem termI (ci cp ct cv cr cd cb cbt : Int) (lg : List Ent) (cc : Int) (ys ns ms : List Int) (A0 : Option Addr) (n0 c0 : Nat) (u1 u2 u3 : Value) (i : Int) (w : World) (B : Nat) (hl : Lies w B 2 (.slice A0 n0 c0) (entR lg)) (hn : lg.length ≤ 1048576) (h0 : 0 ≤ cb) (h1 : cb ≤ 200000) (hi0 : cb ≤ i) (hi1 : i ≤ cb + (lg.length : Int)) (hB : B ≤ w.heap.size) : Calls Try.prog 60 #[.agg #[.int .i64 ci, .int .i64 cp, .int .i64 ct, .int .i64 cv, .int .i64 cr, .int .i64 cd, .int .i64 cb, .int .i64 cbt, .slice A0 n0 c0, .int .i64 cc, u1, u2, u3], .int .i64 i] w fun e w' => e = .returned (.int .i64 (termAt ⟨ci, cp, ct, cv, cr, cd, cb, cbt, lg, cc, ys, ns, ms⟩ i)) ∧ Below w.heap.size w w' := by
 have HB : Hid (B ≤ w.heap.size) := hB
 obtain ⟨A, cap, e, hlk⟩ := ent_look hl
 cases e
 have HL := Hid.mk hlk
 have BX : Hid (Below w.heap.size w (w.alloc (.cells #[.int .i64 ci, .int .i64 cp, .int .i64 ct, .int .i64 cv, .int .i64 cr, .int .i64 cd, .int .i64 cb, .int .i64 cbt, .slice A0 lg.length c0, .int .i64 cc, u1, u2, u3] 29))) := (Below.refl _ _).alloc (Nat.le_refl _) _
 clear hl hlk hB
 by_cases hib : i = cb
 ·have HE : Hid (termAt ⟨ci, cp, ct, cv, cr, cd, cb, cbt, lg, cc, ys, ns, ms⟩ i = cbt) := by unfold Hid termAt; exact if_pos hib
  have e1 : (i == cb) = true := beq_iff_eq.2 hib
  clear hib
  generalize lg.length = n at *
  go_enter Try.func60, Try.ntmps60
  go_wp2_with fail
  go_ret
  exact ⟨by rw [HE.out]; rfl, BX.out⟩
 obtain ⟨j, hj⟩ : ∃ j : Nat, i - cb - 1 = (j : Int) := ⟨(i - cb - 1).toNat, by omega⟩
 have HE : Hid (termAt ⟨ci, cp, ct, cv, cr, cd, cb, cbt, lg, cc, ys, ns, ms⟩ i = (lg.getD j default).term) := termAt_at ⟨ci, cp, ct, cv, cr, cd, cb, cbt, lg, cc, ys, ns, ms⟩ i j hib hj
 have e1 : (i == cb) = false := beq_eq_false_iff_ne.2 hib
 have hjn : j < lg.length := by omega
 obtain ⟨g, off, rfl, hg, d0, _⟩ := HL.out j hjn
 rw [← BX.out.cell (p := ⟨_, _, none⟩) (Nat.lt_of_lt_of_le hg HB.out)] at d0
 have w1 : IntKind.i64.wrap (i - cb) = i - cb := by rw [IntKind.wrap_i64]; omega
 have w2 : IntKind.i64.wrap (i - cb - 1) = (j : Int) := by rw [IntKind.wrap_i64]; omega
 have q1 : (j : Int) < (lg.length : Int) := by omega
 have HN : Hid (lg.length ≤ 1048576) := hn
 generalize (lg.getD j default).term = tt at *
 generalize lg.length = n at *
 clear hib hj hjn HL
 go_enter Try.func60, Try.ntmps60
 go_wp2_with fail
 go_ret
 exact ⟨by rw [HE.out]; rfl, BX.out⟩
set_option maxHeartbeats 2000000 in
theorem termS (ci cp ct cv cr cd cb cbt : Int) (lg : List Ent) (cc : Int) (ys ns ms : List Int) (A0 : Option Addr) (n0 c0 : Nat) (u1 u2 u3 : Value) (i : Int) (w : World) (B : Nat) (hl : Lies w B 2 (.slice A0 n0 c0) (entR lg)) (hn : lg.length ≤ 1048576) (h0 : 0 ≤ cb) (h1 : cb ≤ 200000) (hi0 : cb ≤ i) (hi1 : i ≤ cb + (lg.length : Int)) (hB : B ≤ w.heap.size) : Calls Try.prog 26 #[.agg #[.int .i64 ci, .int .i64 cp, .int .i64 ct, .int .i64 cv, .int .i64 cr, .int .i64 cd, .int .i64 cb, .int .i64 cbt, .slice A0 n0 c0, .int .i64 cc, u1, u2, u3], .int .i64 i] w fun e w' => e = .returned (.int .i64 (termAt ⟨ci, cp, ct, cv, cr, cd, cb, cbt, lg, cc, ys, ns, ms⟩ i)) ∧ Below w.heap.size w w' := by
 have HB : Hid (B ≤ w.heap.size) := hB
 obtain ⟨A, cap, e, hlk⟩ := ent_look hl
 cases e
 have HL := Hid.mk hlk
 have BX : Hid (Below w.heap.size w (w.alloc (.cells #[.int .i64 ci, .int .i64 cp, .int .i64 ct, .int .i64 cv, .int .i64 cr, .int .i64 cd, .int .i64 cb, .int .i64 cbt, .slice A0 lg.length c0, .int .i64 cc, u1, u2, u3] 29))) := (Below.refl _ _).alloc (Nat.le_refl _) _
 clear hl hlk hB
 by_cases hib : i = cb
 ·have HE : Hid (termAt ⟨ci, cp, ct, cv, cr, cd, cb, cbt, lg, cc, ys, ns, ms⟩ i = cbt) := by unfold Hid termAt; exact if_pos hib
  have e1 : (i == cb) = true := beq_iff_eq.2 hib
  clear hib
  generalize lg.length = n at *
  go_enter Try.func26, Try.ntmps26
  go_wp2_with fail
  go_ret
  exact ⟨by rw [HE.out]; rfl, BX.out⟩
 obtain ⟨j, hj⟩ : ∃ j : Nat, i - cb - 1 = (j : Int) := ⟨(i - cb - 1).toNat, by omega⟩
 have HE : Hid (termAt ⟨ci, cp, ct, cv, cr, cd, cb, cbt, lg, cc, ys, ns, ms⟩ i = (lg.getD j default).term) := termAt_at ⟨ci, cp, ct, cv, cr, cd, cb, cbt, lg, cc, ys, ns, ms⟩ i j hib hj
 have e1 : (i == cb) = false := beq_eq_false_iff_ne.2 hib
 have hjn : j < lg.length := by omega
 obtain ⟨g, off, rfl, hg, d0, _⟩ := HL.out j hjn
 rw [← BX.out.cell (p := ⟨_, _, none⟩) (Nat.lt_of_lt_of_le hg HB.out)] at d0
 have w1 : IntKind.i64.wrap (i - cb) = i - cb := by rw [IntKind.wrap_i64]; omega
 have w2 : IntKind.i64.wrap (i - cb - 1) = (j : Int) := by rw [IntKind.wrap_i64]; omega
 have q1 : (j : Int) < (lg.length : Int) := by omega
 have HN : Hid (lg.length ≤ 1048576) := hn
 generalize (lg.getD j default).term = tt at *
 generalize lg.length = n at *
 clear hib hj hjn HL
 go_enter Try.func26, Try.ntmps26
 go_wp2_with fail
 go_ret
 exact ⟨by rw [HE.out]; rfl, BX.out⟩
set_option maxHeartbeats 2000000 in
theorem behindI (ci cp ct cv cr cd cb cbt : Int) (lg : List Ent) (cc : Int) (A0 : Option Addr) (n0 c0 : Nat) (u1 u2 u3 : Value) (i : Int) (k : Nat) (A' : Option Addr) (m' c' : Nat) (w : World) (hk : i - cb = (k : Int)) (hkn : k ≤ 1048576) (hr : ∀ wx, (Instr.sliceAt 27 (.slice A0 n0 c0) (some (.int .i64 (k : Int))) none none).run Try.prog wx = .ok (.slice A' m' c') wx) : Calls Try.prog 83 #[.agg #[.int .i64 ci, .int .i64 cp, .int .i64 ct, .int .i64 cv, .int .i64 cr, .int .i64 cd, .int .i64 cb, .int .i64 cbt, .slice A0 n0 c0, .int .i64 cc, u1, u2, u3], .int .i64 i] w fun e w' => e = .returned (.slice A' m' c') ∧ Below w.heap.size w w' := by
 have BX : Hid (Below w.heap.size w (w.alloc (.cells #[.int .i64 ci, .int .i64 cp, .int .i64 ct, .int .i64 cv, .int .i64 cr, .int .i64 cd, .int .i64 cb, .int .i64 cbt, .slice A0 n0 c0, .int .i64 cc, u1, u2, u3] 29))) := (Below.refl _ _).alloc (Nat.le_refl _) _
 have w1 : IntKind.i64.wrap (i - cb) = (k : Int) := by rw [IntKind.wrap_i64]; omega
 clear hk
 go_enter Try.func83, Try.ntmps83
 go_wp2_with fail
 go_ret
 exact ⟨rfl, BX.out⟩
end Go.Proofs.Ytlhoonohpfpkbaa
namespace Go.Proofs.Ytlhoonohpfpkbaa
open Go.ChangeShapes Go.WideShapes Go.ChangeAt Go.RowKit Go.PlainAid
set_option linter.unusedVariables false
theorem Nums.sh3 {w : World} {base : Nat} {v : Value} {l : List Int} (h : Nums w base v l) : ∃ A n c, v = .slice A n c := by
 obtain ⟨A, c, e, _⟩ := h.shape
 exact ⟨A, _, c, e⟩
def othL (id : Int) : Nat → List Int
 | 0 => []
 | k + 1 => if (k : Int) = id then othL id k else othL id k ++ [(k : Int)]
theorem othL_len (id : Int) : ∀ k, (othL id k).length ≤ k
 | 0 => Nat.le_refl _
 | k + 1 => by
  have := othL_len id k
  unfold othL
  split
  ·omega
  ·rw [List.length_append]
   simp only [List.length_cons, List.length_nil]
   omega
theorem othL_in (id : Int) : ∀ k, ∀ z ∈ othL id k, 0 ≤ z ∧ z < (k : Int) ∧ z ≠ id
 | 0, z, h => by cases h
 | k + 1, z, h => by
  unfold othL at h
  split at h
  ·have := othL_in id k z h
   omega
  ·rename_i hne
   rcases List.mem_append.1 h with h | h
   ·have := othL_in id k z h
    omega
   ·rw [List.mem_singleton.1 h]
    omega
set_option maxRecDepth 20000 in
set_option maxHeartbeats 4000000 in
theorem othersI (ci ct cv cr cd cb cbt cc : Int) (n : Nat) (u0 u1 u2 u3 : Value) (w : World) (hn : n ≤ 5) : Calls Try.prog 58 #[.agg #[.int .i64 ci, .int .i64 (n : Int), .int .i64 ct, .int .i64 cv, .int .i64 cr, .int .i64 cd, .int .i64 cb, .int .i64 cbt, u0, .int .i64 cc, u1, u2, u3]] w fun e w' => (∃ u, e = .returned u ∧ Nums w' w.heap.size u (othL ci n)) ∧ Below w.heap.size w w' := by
 have HLn : Hid (∀ k, k ≤ n → (othL ci k).length ≤ 2097152) := fun k hk => by have := othL_len ci k; omega
 have HY : Hid (∀ k : Nat, (k : Int) = ci → othL ci (k + 1) = othL ci k) := fun k h => by rw [othL]; exact if_pos h
 have HN : Hid (∀ k : Nat, ¬ (k : Int) = ci → othL ci (k + 1) = othL ci k ++ [(k : Int)]) := fun k h => by rw [othL]; exact if_neg h
 obtain ⟨X0, hX0⟩ : ∃ X0, X0 = w.alloc (.cells #[.int .i64 ci, .int .i64 (n : Int), .int .i64 ct, .int .i64 cv, .int .i64 cr, .int .i64 cd, .int .i64 cb, .int .i64 cbt, u0, .int .i64 cc, u1, u2, u3] 29) := ⟨_, rfl⟩
 have B0 : Hid (Below w.heap.size w X0) := by unfold Hid; rw [hX0]; exact (Below.refl _ _).alloc (Nat.le_refl _) _
 have K0 : Hid (Blk X0 w.heap.size #[.int .i64 ci, .int .i64 (n : Int), .int .i64 ct, .int .i64 cv, .int .i64 cr, .int .i64 cd, .int .i64 cb, .int .i64 cbt, u0, .int .i64 cc, u1, u2, u3] 29) := by unfold Hid; rw [hX0]; exact Blk.new w _ _
 go_enter Try.func58, Try.ntmps58
 go_wp2_with fail
 rw [← hX0]
 clear hX0
 go_loopw [3, 4, 7] (fun v3 v4 v7 wr => ∃ k : Nat, k ≤ n ∧ v7 = .int .i64 (k : Int) ∧ Nums wr X0.heap.size v3 (othL ci k) ∧ Below X0.heap.size X0 wr) (fun _ _ v _ => n - (intOf v).toNat)
 case atStart => exact ⟨0, by omega, rfl, Nums.nil _ _, Below.refl _ _⟩
 case round =>
  obtain ⟨k, hk, rfl, hN, hb⟩ := hrel
  have NN := Hid.mk hN
  have BR := Hid.mk hb
  have KB := Hid.mk (K0.out.on hb K0.out.lt)
  obtain ⟨Av, av, cv', rfl⟩ := hN.sh3
  clear hN hb
  by_cases hlt : k < n
  ·have q2 : (k : Int) < (n : Int) := by omega
   have k0 := KB.out.cell 0 _ rfl
   by_cases he : (k : Int) = ci
   ·have e1 : ((k : Int) != ci) = false := by rw [he]; exact bne_self_eq_false _
    have HE := Hid.mk (HY.out k he)
    clear he
    go_wp2_with fail
    go_roundw
    case rel => exact ⟨k + 1, by omega, by go_num, by rw [HE.out]; exact NN.out, BR.out⟩
    case measure => simp [intOf]; omega
   ·have e1 : ((k : Int) != ci) = true := bne_iff_ne.2 he
    have HE := Hid.mk (HN.out k he)
    have hLk := HLn.out k hk
    have NN2 := Hid.mk NN.out
    generalize othL ci k = ol at *
    have HLo : Hid (ol.length ≤ 2097152) := hLk
    clear hLk
    clear he
    go_wp2_with (at_builtin; refine wpList_append_num rfl (.tmp 14) (.tmp 16) 23 rfl Try.underlying23 Try.infoInt X0.heap.size _ ol rfl NN2.out (k : Int) rfl HLo.out BR.out.size ?_; intro v' w2 hN2 hb2 hk2; obtain ⟨A2, c2, hsh, -⟩ := hN2.shape; generalize (ol ++ [(k : Int)]).length = m2 at hsh; subst hsh; refine Shut.out ?_)
    have NF : Hid (Nums w2 X0.heap.size (.slice A2 m2 c2) (othL ci (k + 1))) := by unfold Hid; rw [HE.out]; exact hN2
    have BF : Hid (Below X0.heap.size X0 w2) := BR.out.trans hb2
    clear hN2 hb2 hk2
    unfold Shut
    go_wp2_with fail
    go_roundw
    case rel => exact ⟨k + 1, by omega, by go_num, NF.out, BF.out⟩
    case measure => simp [intOf]; omega
  ·obtain rfl : k = n := by omega
   go_wp2_with fail
   go_ret
   exact ⟨⟨_, rfl, NN.out.mono B0.out.size⟩, B0.out.trans (BR.out.mono B0.out.size)⟩
end Go.Proofs.Ytlhoonohpfpkbaa
namespace Go.Proofs.Ytlhoonohpfpkbaa
open Go.ChangeShapes Go.WideShapes Go.ChangeAt Go.RowKit Go.PlainAid
set_option linter.unusedVariables false
set_option maxHeartbeats 4000000 in
theorem yesI (ci cp ct cv cr cd cb cbt : Int) (lg : List Ent) (cc : Int) (ys ns ms : List Int) (A0 : Option Addr) (n0 c0 : Nat) (u1 u2 u3 : Value) (w : World) (B : Nat) (hv : NumsV w B u1 ys) (hn : ys.length ≤ 1048576) (hp0 : 1 ≤ cp) (hp1 : cp ≤ 5) (hB : B ≤ w.heap.size) : Calls Try.prog 81 #[.agg #[.int .i64 ci, .int .i64 cp, .int .i64 ct, .int .i64 cv, .int .i64 cr, .int .i64 cd, .int .i64 cb, .int .i64 cbt, .slice A0 n0 c0, .int .i64 cc, u1, u2, u3]] w fun e w' => e = .returned (.bool (seekB ⟨ci, cp, ct, cv, cr, cd, cb, cbt, lg, cc, ys, ns, ms⟩)) ∧ Below w.heap.size w w' := by
 have cH := hasI ys u1 ci
 have HV : Hid (NumsV w B u1 ys) := hv
 have HBB : Hid (B ≤ w.heap.size) := hB
 obtain ⟨A1, c1, rfl, _, _, hc⟩ := hv
 have HC : Hid (∀ j, j < ys.length → ∃ g off, A1 = some ⟨g, off, none⟩ ∧ g < B ∧ w.cell? ⟨g, off + j, none⟩ = some (.int .i64 (ys.getD j 0))) := hc
 have cM := majI ci cp ct cv cr cd cb cbt cc (ys.length : Int) (.slice A0 n0 c0) (.slice A1 ys.length c1) u2 u3
 have HNo : Hid (∀ j, j < ys.length → ¬ ((if j = 0 then 0 else ys.getD (j - 1) 0 + 1) ≤ ys.getD j 0 ∧ ys.getD j 0 ≤ cp - 1) → (∀ k, k < j → 0 ≤ ys.getD k 0) → seekB ⟨ci, cp, ct, cv, cr, cd, cb, cbt, lg, cc, ys, ns, ms⟩ = false) := fun j hj hno hk => by
  refine seekB_no fun h => hno ⟨?_, (h.1 j hj).2⟩
  split
  ·exact (h.1 j hj).1
  ·have := h.2.1 (j - 1) (by show j - 1 + 1 < ys.length; omega)
   rw [show j - 1 + 1 = j by omega] at this
   exact this
 have HAl : Hid ((∀ j, j < ys.length → (if j = 0 then 0 else ys.getD (j - 1) 0 + 1) ≤ ys.getD j 0 ∧ ys.getD j 0 ≤ cp - 1) → (seekB ⟨ci, cp, ct, cv, cr, cd, cb, cbt, lg, cc, ys, ns, ms⟩ = (decide (ci ∈ ys) && !decide (cp < 2 * (ys.length : Int))))) := fun h => by
  have h0 : ∀ j, j < ys.length → 0 ≤ ys.getD j 0 := by
   intro j
   induction j with
   | zero => intro hj; have := (h 0 hj).1; simpa using this
   | succ j ih =>
    intro hj
    have h1 := (h (j + 1) hj).1
    have h2 := ih (by omega)
    rw [if_neg (by omega), show j + 1 - 1 = j by omega] at h1
    omega
  by_cases hm : ci ∈ ys
  ·by_cases hg : cp < 2 * (ys.length : Int)
   ·rw [decide_eq_true hm, decide_eq_true hg]
    exact seekB_no fun q => by have := q.2.2.2; simp only at this; omega
   ·rw [decide_eq_true hm, decide_eq_false hg]
    refine seekB_yes (fun j hj => ⟨h0 j hj, (h j hj).2⟩) (fun j hj => ?_) hm (by simp only; omega)
    have := (h (j + 1) hj).1
    rw [if_neg (by omega), show j + 1 - 1 = j by omega] at this
    simp only
    omega
  ·rw [decide_eq_false hm]
   exact seekB_no fun q => hm q.2.2.1
 have q1 : (ys.length : Int) ≤ 1048576 := by omega
 have HN1 : Hid (ys.length ≤ 1048576) := hn
 clear hc hB hn
 obtain ⟨X0, hX0⟩ : ∃ X0, X0 = w.alloc (.cells #[.int .i64 ci, .int .i64 cp, .int .i64 ct, .int .i64 cv, .int .i64 cr, .int .i64 cd, .int .i64 cb, .int .i64 cbt, .slice A0 n0 c0, .int .i64 cc, .slice A1 ys.length c1, u2, u3] 29) := ⟨_, rfl⟩
 have B0 : Hid (Below w.heap.size w X0) := by unfold Hid; rw [hX0]; exact (Below.refl _ _).alloc (Nat.le_refl _) _
 have K0 : Hid (Blk X0 w.heap.size #[.int .i64 ci, .int .i64 cp, .int .i64 ct, .int .i64 cv, .int .i64 cr, .int .i64 cd, .int .i64 cb, .int .i64 cbt, .slice A0 n0 c0, .int .i64 cc, .slice A1 ys.length c1, u2, u3] 29) := by unfold Hid; rw [hX0]; exact Blk.new w _ _
 have w1 : IntKind.i64.wrap (cp - 1) = cp - 1 := by rw [IntKind.wrap_i64]; omega
 generalize hN : ys.length = n at *
 clear hN
 go_enter Try.func81, Try.ntmps81
 go_wp2_with fail
 rw [← hX0]
 clear hX0
 go_loopw [3, 9] (fun v3 v9 wr => ∃ k : Nat, k ≤ n ∧ v9 = .int .i64 (k : Int) ∧ v3 = .int .i64 (if k = 0 then 0 else ys.getD (k - 1) 0 + 1) ∧ X0 = wr ∧ Hid (∀ j, j < k → (if j = 0 then 0 else ys.getD (j - 1) 0 + 1) ≤ ys.getD j 0 ∧ ys.getD j 0 ≤ cp - 1) ∧ Hid (∀ j, j < k → 0 ≤ ys.getD j 0)) (fun _ v _ => n - (intOf v).toNat)
 case atStart => exact ⟨0, by omega, rfl, rfl, rfl, fun j hj => by omega, fun j hj => by omega⟩
 case round =>
  obtain ⟨k, hk, rfl, rfl, rfl, HR, HR0⟩ := hrel
  have k1 := K0.out.cell 1 _ rfl
  by_cases hlt : k < n
  ·have q2 : (k : Int) < (n : Int) := by omega
   obtain ⟨g, off, rfl, hg, d0⟩ := HC.out k hlt
   rw [← B0.out.cell (p := ⟨_, _, none⟩) (Nat.lt_of_lt_of_le hg HBB.out)] at d0
   have HNk := Hid.mk (HNo.out k hlt)
   have HSt : Hid ((if k + 1 = 0 then 0 else ys.getD (k + 1 - 1) 0 + 1) = ys.getD k 0 + 1) := by unfold Hid; rw [if_neg (by omega), show k + 1 - 1 = k by omega]
   have HLe : Hid (0 ≤ (if k = 0 then 0 else ys.getD (k - 1) 0 + 1)) := by
    unfold Hid
    split
    ·omega
    ·have := HR0.out (k - 1) (by omega)
     omega
   generalize hle : (if k = 0 then 0 else ys.getD (k - 1) 0 + 1) = le at *
   have HLE : Hid ((if k = 0 then 0 else ys.getD (k - 1) 0 + 1) = le) := hle
   have HYk : Hid (∀ y, ys.getD k 0 = y → le ≤ y ∧ y ≤ cp - 1 → ∀ j, j < k + 1 → (if j = 0 then 0 else ys.getD (j - 1) 0 + 1) ≤ ys.getD j 0 ∧ ys.getD j 0 ≤ cp - 1) := fun y hy h j hj => by
    by_cases e : j = k
    ·subst e; rw [HLE.out, hy]; exact h
    ·exact HR.out j (by omega)
   have HZk : Hid (∀ y, ys.getD k 0 = y → 0 ≤ y → ∀ j, j < k + 1 → 0 ≤ ys.getD j 0) := fun y hy h j hj => by
    by_cases e : j = k
    ·subst e; rw [hy]; exact h
    ·exact HR0.out j (by omega)
   generalize hy : ys.getD k 0 = y at *
   have HY : Hid (ys.getD k 0 = y) := hy
   clear hy hle
   have a1 := inW y le (cp - 1)
   cases h1 : inIt y le (cp - 1) <;> rw [h1] at a1
   ·have HF : Hid (seekB ⟨ci, cp, ct, cv, cr, cd, cb, cbt, lg, cc, ys, ns, ms⟩ = false) := HNk.out (fun h => by unfold inIt at h1; simp [h.1, h.2] at h1) HR0.out
    clear h1
    go_wp2_with fail
    refine (a1 _).mono ?_
    rintro e w' ⟨rfl, rfl⟩
    go_wp2_with fail
    go_ret
    exact ⟨by rw [HF.out]; rfl, B0.out⟩
   ·obtain ⟨b1, b2⟩ := inIt_in _ _ _ h1
    have HB1 : Hid (le ≤ y ∧ y ≤ cp - 1) := ⟨b1, b2⟩
    have w2 : IntKind.i64.wrap (y + 1) = y + 1 := by have := HLe.out; rw [IntKind.wrap_i64]; omega
    have HY0 : Hid (0 ≤ y) := Int.le_trans HLe.out b1
    clear h1 b1 b2
    go_wp2_with fail
    refine (a1 _).mono ?_
    rintro e w' ⟨rfl, rfl⟩
    go_wp2_with fail
    go_roundw
    case rel => exact ⟨k + 1, by omega, by go_num, by rw [HSt.out], by trivial, HYk.out y rfl HB1.out, HZk.out y rfl HY0.out⟩
    case measure => simp [intOf]; omega
  ·obtain rfl : k = n := by omega
   have HE := Hid.mk (HAl.out HR.out)
   generalize (if k = 0 then 0 else ys.getD (k - 1) 0 + 1) = le at *
   have k0 := K0.out.cell 0 _ rfl
   have k10 := K0.out.cell 10 _ rfl
   have cH1 := cH X0 B (HV.out.on (B0.out.mono HBB.out)) HN1.out
   have cM1 := cM X0 (by omega) (by omega)
   clear cH cM
   cases hm : decide (ci ∈ ys) <;> rw [hm] at cH1 HE
   ·go_wp2_with fail
    refine cH1.mono ?_
    rintro e w' ⟨rfl, rfl⟩
    go_wp2_with fail
    go_ret
    exact ⟨by rw [HE.out]; rfl, B0.out⟩
   ·cases hg : decide (cp < 2 * (k : Int)) <;> rw [hg] at cM1 HE
    all_goals
     have kk := cellsC13 K0.out
     clear hm hg
     go_wp2_with fail
     refine cH1.mono ?_
     rintro e w' ⟨rfl, rfl⟩
     go_wp2_with fail
     refine cM1.mono ?_
     rintro e w' ⟨rfl, hb⟩
     have B1 := Hid.mk (B0.out.trans (hb.mono B0.out.size))
     clear hb
     go_wp2_with fail
     go_ret
     exact ⟨by rw [HE.out]; rfl, B1.out⟩
end Go.Proofs.Ytlhoonohpfpkbaa
namespace Go.Proofs.Ytlhoonohpfpkbaa
open Go.ChangeShapes Go.WideShapes Go.ChangeAt Go.RowKit Go.PlainAid
set_option linter.unusedVariables false
set_option maxHeartbeats 8000000 in
theorem reachI (ci cp ct cv cr cd cb cbt : Int) (lg : List Ent) (cc : Int) (ys ns ms : List Int) (A0 : Option Addr) (n0 c0 : Nat) (u1 u2 u3 : Value) (w : World) (B : Nat) (hn : NumsV w B u2 ns) (hm : NumsV w B u3 ms) (hln : ns.length ≤ 1048576) (hlm : ms.length ≤ 1048576) (hp0 : 1 ≤ cp) (hp1 : cp ≤ 5) (hi0 : 0 ≤ ci) (hi1 : ci ≤ cp - 1) (hb0 : 0 ≤ cb) (hb1 : cb ≤ 200000) (hl0 : lg.length = n0) (hl1 : n0 ≤ 1048576) (hB : B ≤ w.heap.size) : Calls Try.prog 82 #[.agg #[.int .i64 ci, .int .i64 cp, .int .i64 ct, .int .i64 cv, .int .i64 cr, .int .i64 cd, .int .i64 cb, .int .i64 cbt, .slice A0 n0 c0, .int .i64 cc, u1, u2, u3]] w fun e w' => e = .returned (.bool (reachB ⟨ci, cp, ct, cv, cr, cd, cb, cbt, lg, cc, ys, ns, ms⟩)) ∧ Below w.heap.size w w' := by
 have HBB : Hid (B ≤ w.heap.size) := hB
 have HLs : Hid (cLast ⟨ci, cp, ct, cv, cr, cd, cb, cbt, lg, cc, ys, ns, ms⟩ = cb + (n0 : Int)) := by unfold Hid cLast; rw [hl0]
 obtain ⟨A2, c2, rfl, _, _, hc2⟩ := hn
 obtain ⟨A3, c3, rfl, _, _, hc3⟩ := hm
 have H2 : Hid (∀ j, j < ns.length → ∃ g off, A2 = some ⟨g, off, none⟩ ∧ g < B ∧ w.cell? ⟨g, off + j, none⟩ = some (.int .i64 (ns.getD j 0))) := hc2
 have H3 : Hid (∀ j, j < ms.length → ∃ g off, A3 = some ⟨g, off, none⟩ ∧ g < B ∧ w.cell? ⟨g, off + j, none⟩ = some (.int .i64 (ms.getD j 0))) := hc3
 have HN1 : Hid ((ns.length : Int) ≠ cp → reachB ⟨ci, cp, ct, cv, cr, cd, cb, cbt, lg, cc, ys, ns, ms⟩ = false) := fun h => reachB_no fun q => h q.1
 have HN2 : Hid ((ms.length : Int) ≠ cp → reachB ⟨ci, cp, ct, cv, cr, cd, cb, cbt, lg, cc, ys, ns, ms⟩ = false) := fun h => reachB_no fun q => h q.2.1
 have HNo : Hid (∀ j, j < ms.length → ¬ (0 ≤ ms.getD j 0 ∧ ms.getD j 0 < ns.getD j 0 ∧ ns.getD j 0 ≤ cb + (n0 : Int) + 1) → reachB ⟨ci, cp, ct, cv, cr, cd, cb, cbt, lg, cc, ys, ns, ms⟩ = false) := fun j hj h => reachB_no fun q => h (by have := q.2.2.1 j hj; rw [HLs.out] at this; exact this)
 have HYe : Hid ((ns.length : Int) = cp → (ms.length : Int) = cp → (∀ j, j < ms.length → 0 ≤ ms.getD j 0 ∧ ms.getD j 0 < ns.getD j 0 ∧ ns.getD j 0 ≤ cb + (n0 : Int) + 1) → reachB ⟨ci, cp, ct, cv, cr, cd, cb, cbt, lg, cc, ys, ns, ms⟩ = (ms.getD ci.toNat 0 == cb + (n0 : Int))) := fun h1 h2 h3 => by
  by_cases h : ms.getD ci.toNat 0 = cb + (n0 : Int)
  ·rw [h, beq_self_eq_true]
   exact reachB_yes ⟨h1, h2, fun j hj => by rw [HLs.out]; exact h3 j hj, by rw [HLs.out]; exact h⟩
  ·rw [beq_eq_false_iff_ne.2 h]
   exact reachB_no fun q => h (by have := q.2.2.2; rw [HLs.out] at this; exact this)
 have q2 : (ns.length : Int) ≤ 1048576 := by omega
 have q3 : (ms.length : Int) ≤ 1048576 := by omega
 clear hc2 hc3 hl0
 by_cases hE2 : (ns.length : Int) = cp
 rotate_left
 ·have HF := Hid.mk (HN1.out hE2)
  have e1 : ((ns.length : Int) != cp) = true := bne_iff_ne.2 hE2
  have HB1 : ∀ a, Hid (Below w.heap.size w (w.alloc a)) := fun a => (Below.refl _ _).alloc (Nat.le_refl _) _
  generalize ns.length = p2 at *
  generalize ms.length = p3 at *
  clear hE2
  go_enter Try.func82, Try.ntmps82
  go_wp2_with fail
  go_ret
  exact ⟨by rw [HF.out]; rfl, (HB1 _).out⟩
 by_cases hE3 : (ms.length : Int) = cp
 rotate_left
 ·have HF := Hid.mk (HN2.out hE3)
  have e1 : ((ns.length : Int) != cp) = false := by rw [hE2]; exact bne_self_eq_false cp
  have e2 : ((ms.length : Int) != cp) = true := bne_iff_ne.2 hE3
  have HB1 : ∀ a, Hid (Below w.heap.size w (w.alloc a)) := fun a => (Below.refl _ _).alloc (Nat.le_refl _) _
  generalize ns.length = p2 at *
  generalize ms.length = p3 at *
  clear hE2 hE3
  go_enter Try.func82, Try.ntmps82
  go_wp2_with fail
  go_ret
  exact ⟨by rw [HF.out]; rfl, (HB1 _).out⟩
 have HYF := Hid.mk (HYe.out hE2 hE3)
 clear HYe
 have hpp : ns.length = ms.length := by omega
 rw [hpp] at H2 hE2 ⊢
 generalize ms.length = p at *
 clear hpp HN1 HN2 hln hlm q2 hE2
 obtain rfl : cp = (p : Int) := hE3.symm
 clear hE3
 have hp : p ≤ 5 := by omega
 have hcip : ci.toNat < p := by omega
 have HCI : Hid ((ci.toNat : Int) = ci) := by unfold Hid; omega
 have hcil : ci < (p : Int) := by omega
 have e0 : ((p : Int) != (p : Int)) = false := bne_self_eq_false _
 obtain ⟨X0, hX0⟩ : ∃ X0, X0 = w.alloc (.cells #[.int .i64 ci, .int .i64 (p : Int), .int .i64 ct, .int .i64 cv, .int .i64 cr, .int .i64 cd, .int .i64 cb, .int .i64 cbt, .slice A0 n0 c0, .int .i64 cc, u1, .slice A2 p c2, .slice A3 p c3] 29) := ⟨_, rfl⟩
 have B0 : Hid (Below w.heap.size w X0) := by unfold Hid; rw [hX0]; exact (Below.refl _ _).alloc (Nat.le_refl _) _
 have K0 : Hid (Blk X0 w.heap.size #[.int .i64 ci, .int .i64 (p : Int), .int .i64 ct, .int .i64 cv, .int .i64 cr, .int .i64 cd, .int .i64 cb, .int .i64 cbt, .slice A0 n0 c0, .int .i64 cc, u1, .slice A2 p c2, .slice A3 p c3] 29) := by unfold Hid; rw [hX0]; exact Blk.new w _ _
 have cL := fun wx => lastI ci (p : Int) ct cv cr cd cb cbt cc A0 n0 c0 u1 (.slice A2 p c2) (.slice A3 p c3) wx hb0 hb1 hl1
 have w1 : IntKind.i64.wrap (cb + (n0 : Int) + 1) = cb + (n0 : Int) + 1 := by rw [IntKind.wrap_i64]; omega
 go_enter Try.func82, Try.ntmps82
 go_wp2_with fail
 rw [← hX0]
 clear hX0
 go_loopw [3, 4, 22] (fun v3 v4 v22 wr => ∃ k : Nat, k ≤ p ∧ v22 = .int .i64 (k : Int) ∧ Below X0.heap.size X0 wr ∧ Hid (∀ j, j < k → 0 ≤ ms.getD j 0 ∧ ms.getD j 0 < ns.getD j 0 ∧ ns.getD j 0 ≤ cb + (n0 : Int) + 1)) (fun _ _ v _ => p - (intOf v).toNat)
 case atStart => exact ⟨0, by omega, rfl, Below.refl _ _, fun j hj => by omega⟩
 case round =>
  obtain ⟨k, hk, rfl, hbr, HR⟩ := hrel
  have BR := Hid.mk hbr
  have KB := Hid.mk (K0.out.on hbr K0.out.lt)
  have BW : Hid (Below w.heap.size w wr) := B0.out.trans (hbr.mono B0.out.size)
  clear hbr
  by_cases hlt : k < p
  ·have q4 : (k : Int) < (p : Int) := by omega
   obtain ⟨g3, o3, rfl, hg3, d0⟩ := H3.out k hlt
   obtain ⟨g2, o2, rfl, hg2, d1⟩ := H2.out k hlt
   have hgw : g2 < wr.heap.size := Nat.lt_of_lt_of_le hg2 (Nat.le_trans HBB.out BW.out.size)
   rw [← BW.out.cell (p := ⟨_, _, none⟩) (Nat.lt_of_lt_of_le hg3 HBB.out)] at d0
   rw [← BW.out.cell (p := ⟨_, _, none⟩) (Nat.lt_of_lt_of_le hg2 HBB.out)] at d1
   have HNk := Hid.mk (HNo.out k hlt)
   have HYk : Hid (∀ my ny, ms.getD k 0 = my → ns.getD k 0 = ny → 0 ≤ my ∧ my < ny ∧ ny ≤ cb + (n0 : Int) + 1 → ∀ j, j < k + 1 → 0 ≤ ms.getD j 0 ∧ ms.getD j 0 < ns.getD j 0 ∧ ns.getD j 0 ≤ cb + (n0 : Int) + 1) := fun my ny h1 h2 h j hj => by
    by_cases e : j = k
    ·subst e; rw [h1, h2]; exact h
    ·exact HR.out j (by omega)
   have HRF : Hid (∃ my ny, ms.getD k 0 = my ∧ ns.getD k 0 = ny) := ⟨_, _, rfl, rfl⟩
   generalize hmy : ms.getD k 0 = my at *
   generalize hny : ns.getD k 0 = ny at *
   have HQ : Hid (ms.getD k 0 = my ∧ ns.getD k 0 = ny) := ⟨hmy, hny⟩
   clear hmy hny HRF HR
   by_cases h1 : my < 0
   ·have HF : Hid (reachB ⟨ci, (p : Int), ct, cv, cr, cd, cb, cbt, lg, cc, ys, ns, ms⟩ = false) := HNk.out (fun h => by omega)
    have z1 : decide (my < 0) = true := decide_eq_true h1
    clear HYk HNk
    go_wp2_with fail
    have V0 : Hid (Below wr.heap.size wr wr.drew) := (Below.refl _ _).drew
    have KY0 := Hid.mk (KB.out.on V0.out KB.out.lt)
    have SS0 := Hid.mk (show (fun w' => w'.cell? ⟨w.heap.size, 0, none⟩ = some (.int .i64 ci) ∧ w'.cell? ⟨w.heap.size, 1, none⟩ = some (.int .i64 (p : Int)) ∧ w'.cell? ⟨w.heap.size, 2, none⟩ = some (.int .i64 ct) ∧ w'.cell? ⟨w.heap.size, 3, none⟩ = some (.int .i64 cv) ∧ w'.cell? ⟨w.heap.size, 4, none⟩ = some (.int .i64 cr) ∧ w'.cell? ⟨w.heap.size, 5, none⟩ = some (.int .i64 cd) ∧ w'.cell? ⟨w.heap.size, 6, none⟩ = some (.int .i64 cb) ∧ w'.cell? ⟨w.heap.size, 7, none⟩ = some (.int .i64 cbt) ∧ w'.cell? ⟨w.heap.size, 8, none⟩ = some (.slice A0 n0 c0) ∧ w'.cell? ⟨w.heap.size, 9, none⟩ = some (.int .i64 cc) ∧ w'.cell? ⟨w.heap.size, 10, none⟩ = some (u1) ∧ w'.cell? ⟨w.heap.size, 11, none⟩ = some (.slice (some ⟨g2, o2, none⟩) p c2) ∧ w'.cell? ⟨w.heap.size, 12, none⟩ = some (.slice (some ⟨g3, o3, none⟩) p c3) ∧ w'.cell? ⟨g2, o2 + k, none⟩ = some (.int .i64 ny)) wr.drew from ⟨KY0.out.cell 0 _ rfl, KY0.out.cell 1 _ rfl, KY0.out.cell 2 _ rfl, KY0.out.cell 3 _ rfl, KY0.out.cell 4 _ rfl, KY0.out.cell 5 _ rfl, KY0.out.cell 6 _ rfl, KY0.out.cell 7 _ rfl, KY0.out.cell 8 _ rfl, KY0.out.cell 9 _ rfl, KY0.out.cell 10 _ rfl, KY0.out.cell 11 _ rfl, KY0.out.cell 12 _ rfl, (by rw [V0.out.cell (p := ⟨g2, _, none⟩) hgw]; exact d1)⟩)
    refine wp_region_until (fun w' => w'.cell? ⟨w.heap.size, 0, none⟩ = some (.int .i64 ci) ∧ w'.cell? ⟨w.heap.size, 1, none⟩ = some (.int .i64 (p : Int)) ∧ w'.cell? ⟨w.heap.size, 2, none⟩ = some (.int .i64 ct) ∧ w'.cell? ⟨w.heap.size, 3, none⟩ = some (.int .i64 cv) ∧ w'.cell? ⟨w.heap.size, 4, none⟩ = some (.int .i64 cr) ∧ w'.cell? ⟨w.heap.size, 5, none⟩ = some (.int .i64 cd) ∧ w'.cell? ⟨w.heap.size, 6, none⟩ = some (.int .i64 cb) ∧ w'.cell? ⟨w.heap.size, 7, none⟩ = some (.int .i64 cbt) ∧ w'.cell? ⟨w.heap.size, 8, none⟩ = some (.slice A0 n0 c0) ∧ w'.cell? ⟨w.heap.size, 9, none⟩ = some (.int .i64 cc) ∧ w'.cell? ⟨w.heap.size, 10, none⟩ = some (u1) ∧ w'.cell? ⟨w.heap.size, 11, none⟩ = some (.slice (some ⟨g2, o2, none⟩) p c2) ∧ w'.cell? ⟨w.heap.size, 12, none⟩ = some (.slice (some ⟨g3, o3, none⟩) p c3) ∧ w'.cell? ⟨g2, o2 + k, none⟩ = some (.int .i64 ny)) (fun _ => false) 22 (by rfl) (by kernel_rfl) ?_
    generalize wr.drew = Y0 at *
    refine pF 0 ?_
    refine pF 1 ?_
    refine pF 2 ?_
    refine sF 3 ?_
    refine sF 4 ?_
    refine sF 5 ?_
    refine sF 6 ?_
    refine sF 7 ?_
    refine sF 8 ?_
    refine sF 9 ?_
    refine pF 10 ?_
    refine pF 11 ?_
    refine sF 12 ?_
    refine sF 13 ?_
    refine sF 14 ?_
    refine sF 15 ?_
    refine sF 16 ?_
    refine sF 17 ?_
    refine sF 18 ?_
    refine sF 19 ?_
    refine sF 20 ?_
    refine pF 21 ?_
    refine until_done (by kernel_rfl) ?_ _
    go_wp2_with fail
    go_ret
    exact ⟨by rw [HF.out]; rfl, BW.out.trans (V0.out.mono BW.out.size)⟩
   have z1 : decide (my < 0) = false := decide_eq_false h1
   by_cases h2 : ny ≤ my
   ·have HF : Hid (reachB ⟨ci, (p : Int), ct, cv, cr, cd, cb, cbt, lg, cc, ys, ns, ms⟩ = false) := HNk.out (fun h => by omega)
    have z2 : decide (ny ≤ my) = true := decide_eq_true h2
    clear HYk HNk
    go_wp2_with fail
    have V0 : Hid (Below wr.heap.size wr wr.drew) := (Below.refl _ _).drew
    have KY0 := Hid.mk (KB.out.on V0.out KB.out.lt)
    have SS0 := Hid.mk (show (fun w' => w'.cell? ⟨w.heap.size, 0, none⟩ = some (.int .i64 ci) ∧ w'.cell? ⟨w.heap.size, 1, none⟩ = some (.int .i64 (p : Int)) ∧ w'.cell? ⟨w.heap.size, 2, none⟩ = some (.int .i64 ct) ∧ w'.cell? ⟨w.heap.size, 3, none⟩ = some (.int .i64 cv) ∧ w'.cell? ⟨w.heap.size, 4, none⟩ = some (.int .i64 cr) ∧ w'.cell? ⟨w.heap.size, 5, none⟩ = some (.int .i64 cd) ∧ w'.cell? ⟨w.heap.size, 6, none⟩ = some (.int .i64 cb) ∧ w'.cell? ⟨w.heap.size, 7, none⟩ = some (.int .i64 cbt) ∧ w'.cell? ⟨w.heap.size, 8, none⟩ = some (.slice A0 n0 c0) ∧ w'.cell? ⟨w.heap.size, 9, none⟩ = some (.int .i64 cc) ∧ w'.cell? ⟨w.heap.size, 10, none⟩ = some (u1) ∧ w'.cell? ⟨w.heap.size, 11, none⟩ = some (.slice (some ⟨g2, o2, none⟩) p c2) ∧ w'.cell? ⟨w.heap.size, 12, none⟩ = some (.slice (some ⟨g3, o3, none⟩) p c3) ∧ w'.cell? ⟨g2, o2 + k, none⟩ = some (.int .i64 ny)) wr.drew from ⟨KY0.out.cell 0 _ rfl, KY0.out.cell 1 _ rfl, KY0.out.cell 2 _ rfl, KY0.out.cell 3 _ rfl, KY0.out.cell 4 _ rfl, KY0.out.cell 5 _ rfl, KY0.out.cell 6 _ rfl, KY0.out.cell 7 _ rfl, KY0.out.cell 8 _ rfl, KY0.out.cell 9 _ rfl, KY0.out.cell 10 _ rfl, KY0.out.cell 11 _ rfl, KY0.out.cell 12 _ rfl, (by rw [V0.out.cell (p := ⟨g2, _, none⟩) hgw]; exact d1)⟩)
    refine wp_region_until (fun w' => w'.cell? ⟨w.heap.size, 0, none⟩ = some (.int .i64 ci) ∧ w'.cell? ⟨w.heap.size, 1, none⟩ = some (.int .i64 (p : Int)) ∧ w'.cell? ⟨w.heap.size, 2, none⟩ = some (.int .i64 ct) ∧ w'.cell? ⟨w.heap.size, 3, none⟩ = some (.int .i64 cv) ∧ w'.cell? ⟨w.heap.size, 4, none⟩ = some (.int .i64 cr) ∧ w'.cell? ⟨w.heap.size, 5, none⟩ = some (.int .i64 cd) ∧ w'.cell? ⟨w.heap.size, 6, none⟩ = some (.int .i64 cb) ∧ w'.cell? ⟨w.heap.size, 7, none⟩ = some (.int .i64 cbt) ∧ w'.cell? ⟨w.heap.size, 8, none⟩ = some (.slice A0 n0 c0) ∧ w'.cell? ⟨w.heap.size, 9, none⟩ = some (.int .i64 cc) ∧ w'.cell? ⟨w.heap.size, 10, none⟩ = some (u1) ∧ w'.cell? ⟨w.heap.size, 11, none⟩ = some (.slice (some ⟨g2, o2, none⟩) p c2) ∧ w'.cell? ⟨w.heap.size, 12, none⟩ = some (.slice (some ⟨g3, o3, none⟩) p c3) ∧ w'.cell? ⟨g2, o2 + k, none⟩ = some (.int .i64 ny)) (fun _ => false) 22 (by rfl) (by kernel_rfl) ?_
    generalize wr.drew = Y0 at *
    refine pF 0 ?_
    refine pF 1 ?_
    refine pF 2 ?_
    refine pF 3 ?_
    refine tF 4 SS0.out ?_
    refine pF 5 ?_
    refine pF 6 ?_
    refine tF 7 SS0.out ?_
    refine pF 8 ?_
    refine pF 9 ?_
    refine pF 10 ?_
    refine pF 11 ?_
    refine sF 12 ?_
    refine sF 13 ?_
    refine sF 14 ?_
    refine sF 15 ?_
    refine sF 16 ?_
    refine sF 17 ?_
    refine sF 18 ?_
    refine sF 19 ?_
    refine sF 20 ?_
    refine pF 21 ?_
    refine until_done (by kernel_rfl) ?_ _
    go_wp2_with fail
    go_ret
    exact ⟨by rw [HF.out]; rfl, BW.out.trans (V0.out.mono BW.out.size)⟩
   have z2 : decide (ny ≤ my) = false := decide_eq_false h2
   by_cases h3 : cb + (n0 : Int) + 1 < ny
   ·have HF : Hid (reachB ⟨ci, (p : Int), ct, cv, cr, cd, cb, cbt, lg, cc, ys, ns, ms⟩ = false) := HNk.out (fun h => by omega)
    have z3 : decide (cb + (n0 : Int) + 1 < ny) = true := decide_eq_true h3
    clear HYk HNk
    go_wp2_with fail
    have V0 : Hid (Below wr.heap.size wr wr.drew) := (Below.refl _ _).drew
    have KY0 := Hid.mk (KB.out.on V0.out KB.out.lt)
    have SS0 := Hid.mk (show (fun w' => w'.cell? ⟨w.heap.size, 0, none⟩ = some (.int .i64 ci) ∧ w'.cell? ⟨w.heap.size, 1, none⟩ = some (.int .i64 (p : Int)) ∧ w'.cell? ⟨w.heap.size, 2, none⟩ = some (.int .i64 ct) ∧ w'.cell? ⟨w.heap.size, 3, none⟩ = some (.int .i64 cv) ∧ w'.cell? ⟨w.heap.size, 4, none⟩ = some (.int .i64 cr) ∧ w'.cell? ⟨w.heap.size, 5, none⟩ = some (.int .i64 cd) ∧ w'.cell? ⟨w.heap.size, 6, none⟩ = some (.int .i64 cb) ∧ w'.cell? ⟨w.heap.size, 7, none⟩ = some (.int .i64 cbt) ∧ w'.cell? ⟨w.heap.size, 8, none⟩ = some (.slice A0 n0 c0) ∧ w'.cell? ⟨w.heap.size, 9, none⟩ = some (.int .i64 cc) ∧ w'.cell? ⟨w.heap.size, 10, none⟩ = some (u1) ∧ w'.cell? ⟨w.heap.size, 11, none⟩ = some (.slice (some ⟨g2, o2, none⟩) p c2) ∧ w'.cell? ⟨w.heap.size, 12, none⟩ = some (.slice (some ⟨g3, o3, none⟩) p c3) ∧ w'.cell? ⟨g2, o2 + k, none⟩ = some (.int .i64 ny)) wr.drew from ⟨KY0.out.cell 0 _ rfl, KY0.out.cell 1 _ rfl, KY0.out.cell 2 _ rfl, KY0.out.cell 3 _ rfl, KY0.out.cell 4 _ rfl, KY0.out.cell 5 _ rfl, KY0.out.cell 6 _ rfl, KY0.out.cell 7 _ rfl, KY0.out.cell 8 _ rfl, KY0.out.cell 9 _ rfl, KY0.out.cell 10 _ rfl, KY0.out.cell 11 _ rfl, KY0.out.cell 12 _ rfl, (by rw [V0.out.cell (p := ⟨g2, _, none⟩) hgw]; exact d1)⟩)
    refine wp_region_until (fun w' => w'.cell? ⟨w.heap.size, 0, none⟩ = some (.int .i64 ci) ∧ w'.cell? ⟨w.heap.size, 1, none⟩ = some (.int .i64 (p : Int)) ∧ w'.cell? ⟨w.heap.size, 2, none⟩ = some (.int .i64 ct) ∧ w'.cell? ⟨w.heap.size, 3, none⟩ = some (.int .i64 cv) ∧ w'.cell? ⟨w.heap.size, 4, none⟩ = some (.int .i64 cr) ∧ w'.cell? ⟨w.heap.size, 5, none⟩ = some (.int .i64 cd) ∧ w'.cell? ⟨w.heap.size, 6, none⟩ = some (.int .i64 cb) ∧ w'.cell? ⟨w.heap.size, 7, none⟩ = some (.int .i64 cbt) ∧ w'.cell? ⟨w.heap.size, 8, none⟩ = some (.slice A0 n0 c0) ∧ w'.cell? ⟨w.heap.size, 9, none⟩ = some (.int .i64 cc) ∧ w'.cell? ⟨w.heap.size, 10, none⟩ = some (u1) ∧ w'.cell? ⟨w.heap.size, 11, none⟩ = some (.slice (some ⟨g2, o2, none⟩) p c2) ∧ w'.cell? ⟨w.heap.size, 12, none⟩ = some (.slice (some ⟨g3, o3, none⟩) p c3) ∧ w'.cell? ⟨g2, o2 + k, none⟩ = some (.int .i64 ny)) (fun _ => false) 22 (by rfl) (by kernel_rfl) ?_
    generalize wr.drew = Y0 at *
    refine pF 0 ?_
    refine pF 1 ?_
    refine pF 2 ?_
    refine pF 3 ?_
    refine tF 4 SS0.out ?_
    refine pF 5 ?_
    refine pF 6 ?_
    refine tF 7 SS0.out ?_
    refine pF 8 ?_
    refine pF 9 ?_
    refine pF 10 ?_
    refine pF 11 ?_
    refine pF 12 ?_
    refine tF 13 SS0.out ?_
    refine pF 14 ?_
    refine pF 15 ?_
    refine tF 16 SS0.out ?_
    refine tF 17 SS0.out ?_
    refine uNe 18 (fun K hK => ?_)
    go_simp
    refine (cL _).mono ?_
    rintro e Y1 ⟨rfl, hb⟩
    have V1 := Hid.mk (V0.out.trans (hb.mono V0.out.size))
    have KY1 := Hid.mk (KY0.out.on hb KY0.out.lt)
    clear hb
    refine hK.out _ _ (fun _ h => ⟨KY1.out.cell 0 _ rfl, KY1.out.cell 1 _ rfl, KY1.out.cell 2 _ rfl, KY1.out.cell 3 _ rfl, KY1.out.cell 4 _ rfl, KY1.out.cell 5 _ rfl, KY1.out.cell 6 _ rfl, KY1.out.cell 7 _ rfl, KY1.out.cell 8 _ rfl, KY1.out.cell 9 _ rfl, KY1.out.cell 10 _ rfl, KY1.out.cell 11 _ rfl, KY1.out.cell 12 _ rfl, (by rw [V1.out.cell (p := ⟨g2, _, none⟩) hgw]; exact d1)⟩) ?_
    clear hK K
    try simp only [Act.put, zQ1, zQ2, zQ3]
    refine pF 19 ?_
    refine pF 20 ?_
    refine pF 21 ?_
    refine until_done (by kernel_rfl) ?_ _
    go_wp2_with fail
    go_ret
    exact ⟨by rw [HF.out]; rfl, BW.out.trans (V1.out.mono BW.out.size)⟩
   have z3 : decide (cb + (n0 : Int) + 1 < ny) = false := decide_eq_false h3
   have HG := Hid.mk (HYk.out my ny rfl rfl ⟨by omega, by omega, by omega⟩)
   clear HYk HNk h1 h2 h3
   go_wp2_with fail
   have V0 : Hid (Below wr.heap.size wr wr.drew) := (Below.refl _ _).drew
   have KY0 := Hid.mk (KB.out.on V0.out KB.out.lt)
   have SS0 := Hid.mk (show (fun w' => w'.cell? ⟨w.heap.size, 0, none⟩ = some (.int .i64 ci) ∧ w'.cell? ⟨w.heap.size, 1, none⟩ = some (.int .i64 (p : Int)) ∧ w'.cell? ⟨w.heap.size, 2, none⟩ = some (.int .i64 ct) ∧ w'.cell? ⟨w.heap.size, 3, none⟩ = some (.int .i64 cv) ∧ w'.cell? ⟨w.heap.size, 4, none⟩ = some (.int .i64 cr) ∧ w'.cell? ⟨w.heap.size, 5, none⟩ = some (.int .i64 cd) ∧ w'.cell? ⟨w.heap.size, 6, none⟩ = some (.int .i64 cb) ∧ w'.cell? ⟨w.heap.size, 7, none⟩ = some (.int .i64 cbt) ∧ w'.cell? ⟨w.heap.size, 8, none⟩ = some (.slice A0 n0 c0) ∧ w'.cell? ⟨w.heap.size, 9, none⟩ = some (.int .i64 cc) ∧ w'.cell? ⟨w.heap.size, 10, none⟩ = some (u1) ∧ w'.cell? ⟨w.heap.size, 11, none⟩ = some (.slice (some ⟨g2, o2, none⟩) p c2) ∧ w'.cell? ⟨w.heap.size, 12, none⟩ = some (.slice (some ⟨g3, o3, none⟩) p c3) ∧ w'.cell? ⟨g2, o2 + k, none⟩ = some (.int .i64 ny)) wr.drew from ⟨KY0.out.cell 0 _ rfl, KY0.out.cell 1 _ rfl, KY0.out.cell 2 _ rfl, KY0.out.cell 3 _ rfl, KY0.out.cell 4 _ rfl, KY0.out.cell 5 _ rfl, KY0.out.cell 6 _ rfl, KY0.out.cell 7 _ rfl, KY0.out.cell 8 _ rfl, KY0.out.cell 9 _ rfl, KY0.out.cell 10 _ rfl, KY0.out.cell 11 _ rfl, KY0.out.cell 12 _ rfl, (by rw [V0.out.cell (p := ⟨g2, _, none⟩) hgw]; exact d1)⟩)
   refine wp_region_until (fun w' => w'.cell? ⟨w.heap.size, 0, none⟩ = some (.int .i64 ci) ∧ w'.cell? ⟨w.heap.size, 1, none⟩ = some (.int .i64 (p : Int)) ∧ w'.cell? ⟨w.heap.size, 2, none⟩ = some (.int .i64 ct) ∧ w'.cell? ⟨w.heap.size, 3, none⟩ = some (.int .i64 cv) ∧ w'.cell? ⟨w.heap.size, 4, none⟩ = some (.int .i64 cr) ∧ w'.cell? ⟨w.heap.size, 5, none⟩ = some (.int .i64 cd) ∧ w'.cell? ⟨w.heap.size, 6, none⟩ = some (.int .i64 cb) ∧ w'.cell? ⟨w.heap.size, 7, none⟩ = some (.int .i64 cbt) ∧ w'.cell? ⟨w.heap.size, 8, none⟩ = some (.slice A0 n0 c0) ∧ w'.cell? ⟨w.heap.size, 9, none⟩ = some (.int .i64 cc) ∧ w'.cell? ⟨w.heap.size, 10, none⟩ = some (u1) ∧ w'.cell? ⟨w.heap.size, 11, none⟩ = some (.slice (some ⟨g2, o2, none⟩) p c2) ∧ w'.cell? ⟨w.heap.size, 12, none⟩ = some (.slice (some ⟨g3, o3, none⟩) p c3) ∧ w'.cell? ⟨g2, o2 + k, none⟩ = some (.int .i64 ny)) (fun _ => false) 22 (by rfl) (by kernel_rfl) ?_
   generalize wr.drew = Y0 at *
   refine pF 0 ?_
   refine pF 1 ?_
   refine pF 2 ?_
   refine pF 3 ?_
   refine tF 4 SS0.out ?_
   refine pF 5 ?_
   refine pF 6 ?_
   refine tF 7 SS0.out ?_
   refine pF 8 ?_
   refine pF 9 ?_
   refine pF 10 ?_
   refine pF 11 ?_
   refine pF 12 ?_
   refine tF 13 SS0.out ?_
   refine pF 14 ?_
   refine pF 15 ?_
   refine tF 16 SS0.out ?_
   refine tF 17 SS0.out ?_
   refine uNe 18 (fun K hK => ?_)
   go_simp
   refine (cL _).mono ?_
   rintro e Y1 ⟨rfl, hb⟩
   have V1 := Hid.mk (V0.out.trans (hb.mono V0.out.size))
   have KY1 := Hid.mk (KY0.out.on hb KY0.out.lt)
   clear hb
   refine hK.out _ _ (fun _ h => ⟨KY1.out.cell 0 _ rfl, KY1.out.cell 1 _ rfl, KY1.out.cell 2 _ rfl, KY1.out.cell 3 _ rfl, KY1.out.cell 4 _ rfl, KY1.out.cell 5 _ rfl, KY1.out.cell 6 _ rfl, KY1.out.cell 7 _ rfl, KY1.out.cell 8 _ rfl, KY1.out.cell 9 _ rfl, KY1.out.cell 10 _ rfl, KY1.out.cell 11 _ rfl, KY1.out.cell 12 _ rfl, (by rw [V1.out.cell (p := ⟨g2, _, none⟩) hgw]; exact d1)⟩) ?_
   clear hK K
   try simp only [Act.put, zQ1, zQ2, zQ3]
   refine pF 19 ?_
   refine pF 20 ?_
   refine pF 21 ?_
   refine until_done (by kernel_rfl) ?_ _
   go_wp2_with fail
   go_roundw
   case rel => exact ⟨k + 1, by omega, by go_num, BR.out.trans (V1.out.mono BR.out.size), HG.out⟩
   case measure => simp [intOf]; omega
  ·obtain rfl : k = p := by omega
   have HE := Hid.mk (HYF.out HR.out)
   obtain ⟨g3, o3, rfl, hg3, d0⟩ := H3.out ci.toNat hcip
   have hgw : g3 < wr.heap.size := Nat.lt_of_lt_of_le hg3 (Nat.le_trans HBB.out BW.out.size)
   rw [← BW.out.cell (p := ⟨_, _, none⟩) (Nat.lt_of_lt_of_le hg3 HBB.out)] at d0
   generalize ms.getD ci.toNat 0 = my at *
   generalize hct : ci.toNat = t at *
   obtain rfl : ci = (t : Int) := HCI.out.symm
   clear HCI hct
   go_wp2_with fail
   have V0 : Hid (Below wr.heap.size wr wr.drew) := (Below.refl _ _).drew
   have KY0 := Hid.mk (KB.out.on V0.out KB.out.lt)
   have SS0 := Hid.mk (show (fun w' => w'.cell? ⟨w.heap.size, 0, none⟩ = some (.int .i64 (t : Int)) ∧ w'.cell? ⟨w.heap.size, 1, none⟩ = some (.int .i64 (k : Int)) ∧ w'.cell? ⟨w.heap.size, 2, none⟩ = some (.int .i64 ct) ∧ w'.cell? ⟨w.heap.size, 3, none⟩ = some (.int .i64 cv) ∧ w'.cell? ⟨w.heap.size, 4, none⟩ = some (.int .i64 cr) ∧ w'.cell? ⟨w.heap.size, 5, none⟩ = some (.int .i64 cd) ∧ w'.cell? ⟨w.heap.size, 6, none⟩ = some (.int .i64 cb) ∧ w'.cell? ⟨w.heap.size, 7, none⟩ = some (.int .i64 cbt) ∧ w'.cell? ⟨w.heap.size, 8, none⟩ = some (.slice A0 n0 c0) ∧ w'.cell? ⟨w.heap.size, 9, none⟩ = some (.int .i64 cc) ∧ w'.cell? ⟨w.heap.size, 10, none⟩ = some (u1) ∧ w'.cell? ⟨w.heap.size, 11, none⟩ = some (.slice A2 k c2) ∧ w'.cell? ⟨w.heap.size, 12, none⟩ = some (.slice (some ⟨g3, o3, none⟩) k c3) ∧ w'.cell? ⟨g3, o3 + t, none⟩ = some (.int .i64 my)) wr.drew from ⟨KY0.out.cell 0 _ rfl, KY0.out.cell 1 _ rfl, KY0.out.cell 2 _ rfl, KY0.out.cell 3 _ rfl, KY0.out.cell 4 _ rfl, KY0.out.cell 5 _ rfl, KY0.out.cell 6 _ rfl, KY0.out.cell 7 _ rfl, KY0.out.cell 8 _ rfl, KY0.out.cell 9 _ rfl, KY0.out.cell 10 _ rfl, KY0.out.cell 11 _ rfl, KY0.out.cell 12 _ rfl, (by rw [V0.out.cell (p := ⟨g3, _, none⟩) hgw]; exact d0)⟩)
   refine wp_region_until (fun w' => w'.cell? ⟨w.heap.size, 0, none⟩ = some (.int .i64 (t : Int)) ∧ w'.cell? ⟨w.heap.size, 1, none⟩ = some (.int .i64 (k : Int)) ∧ w'.cell? ⟨w.heap.size, 2, none⟩ = some (.int .i64 ct) ∧ w'.cell? ⟨w.heap.size, 3, none⟩ = some (.int .i64 cv) ∧ w'.cell? ⟨w.heap.size, 4, none⟩ = some (.int .i64 cr) ∧ w'.cell? ⟨w.heap.size, 5, none⟩ = some (.int .i64 cd) ∧ w'.cell? ⟨w.heap.size, 6, none⟩ = some (.int .i64 cb) ∧ w'.cell? ⟨w.heap.size, 7, none⟩ = some (.int .i64 cbt) ∧ w'.cell? ⟨w.heap.size, 8, none⟩ = some (.slice A0 n0 c0) ∧ w'.cell? ⟨w.heap.size, 9, none⟩ = some (.int .i64 cc) ∧ w'.cell? ⟨w.heap.size, 10, none⟩ = some (u1) ∧ w'.cell? ⟨w.heap.size, 11, none⟩ = some (.slice A2 k c2) ∧ w'.cell? ⟨w.heap.size, 12, none⟩ = some (.slice (some ⟨g3, o3, none⟩) k c3) ∧ w'.cell? ⟨g3, o3 + t, none⟩ = some (.int .i64 my)) (fun _ => false) 10 (by rfl) (by kernel_rfl) ?_
   generalize wr.drew = Y0 at *
   refine pF 0 ?_
   refine tF 1 SS0.out ?_
   refine pF 2 ?_
   refine tF 3 SS0.out ?_
   refine pF 4 ?_
   refine tF 5 SS0.out ?_
   refine tF 6 SS0.out ?_
   refine uNe 7 (fun K hK => ?_)
   go_simp
   refine (cL _).mono ?_
   rintro e Y1 ⟨rfl, hb⟩
   have V1 := Hid.mk (V0.out.trans (hb.mono V0.out.size))
   have KY1 := Hid.mk (KY0.out.on hb KY0.out.lt)
   clear hb
   refine hK.out _ _ (fun _ h => ⟨KY1.out.cell 0 _ rfl, KY1.out.cell 1 _ rfl, KY1.out.cell 2 _ rfl, KY1.out.cell 3 _ rfl, KY1.out.cell 4 _ rfl, KY1.out.cell 5 _ rfl, KY1.out.cell 6 _ rfl, KY1.out.cell 7 _ rfl, KY1.out.cell 8 _ rfl, KY1.out.cell 9 _ rfl, KY1.out.cell 10 _ rfl, KY1.out.cell 11 _ rfl, KY1.out.cell 12 _ rfl, (by rw [V1.out.cell (p := ⟨g3, _, none⟩) hgw]; exact d0)⟩) ?_
   clear hK K
   try simp only [Act.put, zQ1, zQ2, zQ3]
   refine pF 8 ?_
   refine pF 9 ?_
   refine until_done (by kernel_rfl) ?_ _
   go_wp2_with fail
   go_ret
   exact ⟨by rw [HE.out]; rfl, BW.out.trans (V1.out.mono BW.out.size)⟩
end Go.Proofs.Ytlhoonohpfpkbaa
namespace Go.Proofs.Ytlhoonohpfpkbaa
open Go.ChangeShapes Go.WideShapes Go.ChangeAt Go.RowKit Go.PlainAid
set_option linter.unusedVariables false
set_option maxHeartbeats 4000000 in
theorem roleI1 (ci cp ct cv cd cb cbt : Int) (lg : List Ent) (cc : Int) (ys ns ms : List Int) (A0 : Option Addr) (n0 c0 : Nat) (u1 u2 u3 : Value) (w : World) (B : Nat) (hy : NumsV w B u1 ys) (hn : NumsV w B u2 ns) (hm : NumsV w B u3 ms) (hly : ys.length ≤ 1048576) (hln : ns.length ≤ 1048576) (hlm : ms.length ≤ 1048576) (hp0 : 1 ≤ cp) (hp1 : cp ≤ 5) (hi0 : 0 ≤ ci) (hi1 : ci ≤ cp - 1) (hb0 : 0 ≤ cb) (hb1 : cb ≤ 200000) (hl0 : lg.length = n0) (hl1 : n0 ≤ 1048576) (hB : B ≤ w.heap.size) : Calls Try.prog 71 #[.agg #[.int .i64 ci, .int .i64 cp, .int .i64 ct, .int .i64 cv, .int .i64 1, .int .i64 cd, .int .i64 cb, .int .i64 cbt, .slice A0 n0 c0, .int .i64 cc, u1, u2, u3]] w fun e w' => e = .returned (.bool (roleB ⟨ci, cp, ct, cv, 1, cd, cb, cbt, lg, cc, ys, ns, ms⟩)) ∧ Below w.heap.size w w' := by
 have HYv : Hid (NumsV w B u1 ys ∧ NumsV w B u2 ns ∧ NumsV w B u3 ms) := ⟨hy, hn, hm⟩
 have HBB : Hid (B ≤ w.heap.size) := hB
 obtain ⟨A1, c1, rfl, _⟩ := hy
 obtain ⟨A2, c2, rfl, _⟩ := hn
 obtain ⟨A3, c3, rfl, _⟩ := hm
 obtain ⟨X0, hX0⟩ : ∃ X0, X0 = w.alloc (.cells #[.int .i64 ci, .int .i64 cp, .int .i64 ct, .int .i64 cv, .int .i64 1, .int .i64 cd, .int .i64 cb, .int .i64 cbt, .slice A0 n0 c0, .int .i64 cc, .slice A1 ys.length c1, .slice A2 ns.length c2, .slice A3 ms.length c3] 29) := ⟨_, rfl⟩
 have B0 : Hid (Below w.heap.size w X0) := by unfold Hid; rw [hX0]; exact (Below.refl _ _).alloc (Nat.le_refl _) _
 have w1 : IntKind.i64.wrap (cp - 1) = cp - 1 := by rw [IntKind.wrap_i64]; omega
 have K0 : Hid (Blk X0 w.heap.size #[.int .i64 ci, .int .i64 cp, .int .i64 ct, .int .i64 cv, .int .i64 1, .int .i64 cd, .int .i64 cb, .int .i64 cbt, .slice A0 n0 c0, .int .i64 cc, .slice A1 ys.length c1, .slice A2 ns.length c2, .slice A3 ms.length c3] 29) := by unfold Hid; rw [hX0]; exact Blk.new w _ _
 have a1 := inW cd (-1) (cp - 1)
 have qy : (ys.length : Int) ≤ 1048576 := by omega
 have qn : (ns.length : Int) ≤ 1048576 := by omega
 have qm : (ms.length : Int) ≤ 1048576 := by omega
 cases hc0 : inIt cd (-1) (cp - 1)
 ·rw [hc0] at a1
  have HE : Hid (roleB ⟨ci, cp, ct, cv, 1, cd, cb, cbt, lg, cc, ys, ns, ms⟩ = false) := roleB_no fun h => by
   rcases h with ⟨e, h⟩ | ⟨e, h⟩ | ⟨e, h⟩
   ·have a := h.a; have b := h.b; simp only at a b; rw [show inIt cd (-1) (cp - 1) = true by unfold inIt; simp [a, b]] at hc0; cases hc0
   ·cases e
   ·cases e
  clear  hc0
  generalize ys.length = ny at *
  generalize ns.length = nn at *
  generalize ms.length = nm at *
  go_enter Try.func71, Try.ntmps71
  go_wp2_with fail
  rw [← hX0]
  clear hX0
  refine (a1 _).mono ?_
  rintro e w' ⟨rfl, rfl⟩
  have kk := cellsC13 K0.out
  obtain ⟨k0, k1, k2, k3, k4, k5, k6, k7, k8, k9, k10, k11, k12⟩ := kk
  go_wp2_with fail
  go_ret
  exact ⟨by rw [HE.out]; rfl, B0.out⟩
 rw [hc0] at a1
 by_cases hc1 : cd ≠ ci
 rotate_left
 ·have zi1 : (cd != ci) = false := by rw [Decidable.not_not.1 hc1]; exact bne_self_eq_false _
  have HE : Hid (roleB ⟨ci, cp, ct, cv, 1, cd, cb, cbt, lg, cc, ys, ns, ms⟩ = false) := roleB_no fun h => by
   rcases h with ⟨e, h⟩ | ⟨e, h⟩ | ⟨e, h⟩
   ·exact hc1 h.c
   ·cases e
   ·cases e
  clear hc1 hc0
  generalize ys.length = ny at *
  generalize ns.length = nn at *
  generalize ms.length = nm at *
  go_enter Try.func71, Try.ntmps71
  go_wp2_with fail
  rw [← hX0]
  clear hX0
  refine (a1 _).mono ?_
  rintro e w' ⟨rfl, rfl⟩
  have kk := cellsC13 K0.out
  obtain ⟨k0, k1, k2, k3, k4, k5, k6, k7, k8, k9, k10, k11, k12⟩ := kk
  go_wp2_with fail
  go_ret
  exact ⟨by rw [HE.out]; rfl, B0.out⟩
 have zi1 : (cd != ci) = true := bne_iff_ne.2 hc1
 by_cases hc2 : ys.length = 0
 rotate_left
 ·have zi2 : ((ys.length : Int) == 0) = false := beq_eq_false_iff_ne.2 (by omega)
  have zn2 : (ys.length == 0) = false := beq_eq_false_iff_ne.2 hc2
  have HE : Hid (roleB ⟨ci, cp, ct, cv, 1, cd, cb, cbt, lg, cc, ys, ns, ms⟩ = false) := roleB_no fun h => by
   rcases h with ⟨e, h⟩ | ⟨e, h⟩ | ⟨e, h⟩
   ·exact hc2 h.y
   ·cases e
   ·cases e
  clear hc1 hc2 hc0
  generalize ys.length = ny at *
  generalize ns.length = nn at *
  generalize ms.length = nm at *
  go_enter Try.func71, Try.ntmps71
  go_wp2_with fail
  rw [← hX0]
  clear hX0
  refine (a1 _).mono ?_
  rintro e w' ⟨rfl, rfl⟩
  have kk := cellsC13 K0.out
  obtain ⟨k0, k1, k2, k3, k4, k5, k6, k7, k8, k9, k10, k11, k12⟩ := kk
  go_wp2_with fail
  go_ret
  exact ⟨by rw [HE.out]; rfl, B0.out⟩
 have zi2 : ((ys.length : Int) == 0) = true := by rw [hc2]; rfl
 have zn2 : (ys.length == 0) = true := by rw [hc2]; rfl
 by_cases hc3 : ns.length = 0
 rotate_left
 ·have zi3 : ((ns.length : Int) == 0) = false := beq_eq_false_iff_ne.2 (by omega)
  have zn3 : (ns.length == 0) = false := beq_eq_false_iff_ne.2 hc3
  have HE : Hid (roleB ⟨ci, cp, ct, cv, 1, cd, cb, cbt, lg, cc, ys, ns, ms⟩ = false) := roleB_no fun h => by
   rcases h with ⟨e, h⟩ | ⟨e, h⟩ | ⟨e, h⟩
   ·exact hc3 h.n
   ·cases e
   ·cases e
  clear hc1 hc2 hc3 hc0
  generalize ys.length = ny at *
  generalize ns.length = nn at *
  generalize ms.length = nm at *
  go_enter Try.func71, Try.ntmps71
  go_wp2_with fail
  rw [← hX0]
  clear hX0
  refine (a1 _).mono ?_
  rintro e w' ⟨rfl, rfl⟩
  have kk := cellsC13 K0.out
  obtain ⟨k0, k1, k2, k3, k4, k5, k6, k7, k8, k9, k10, k11, k12⟩ := kk
  go_wp2_with fail
  go_ret
  exact ⟨by rw [HE.out]; rfl, B0.out⟩
 have zi3 : ((ns.length : Int) == 0) = true := by rw [hc3]; rfl
 have zn3 : (ns.length == 0) = true := by rw [hc3]; rfl
 by_cases hc4 : ms.length = 0
 rotate_left
 ·have zi4 : ((ms.length : Int) == 0) = false := beq_eq_false_iff_ne.2 (by omega)
  have zn4 : (ms.length == 0) = false := beq_eq_false_iff_ne.2 hc4
  have HE : Hid (roleB ⟨ci, cp, ct, cv, 1, cd, cb, cbt, lg, cc, ys, ns, ms⟩ = false) := roleB_no fun h => by
   rcases h with ⟨e, h⟩ | ⟨e, h⟩ | ⟨e, h⟩
   ·exact hc4 h.m
   ·cases e
   ·cases e
  clear hc1 hc2 hc3 hc4 hc0
  generalize ys.length = ny at *
  generalize ns.length = nn at *
  generalize ms.length = nm at *
  go_enter Try.func71, Try.ntmps71
  go_wp2_with fail
  rw [← hX0]
  clear hX0
  refine (a1 _).mono ?_
  rintro e w' ⟨rfl, rfl⟩
  have kk := cellsC13 K0.out
  obtain ⟨k0, k1, k2, k3, k4, k5, k6, k7, k8, k9, k10, k11, k12⟩ := kk
  go_wp2_with fail
  go_ret
  exact ⟨by rw [HE.out]; rfl, B0.out⟩
 have zi4 : ((ms.length : Int) == 0) = true := by rw [hc4]; rfl
 have zn4 : (ms.length == 0) = true := by rw [hc4]; rfl
 have HE : Hid (roleB ⟨ci, cp, ct, cv, 1, cd, cb, cbt, lg, cc, ys, ns, ms⟩ = true) := roleB_yes (.inl ⟨rfl, ⟨(inIt_in _ _ _ hc0).1, (inIt_in _ _ _ hc0).2, hc1, hc2, hc3, hc4⟩⟩)
 clear hc1 hc2 hc3 hc4 hc0
 generalize ys.length = ny at *
 generalize ns.length = nn at *
 generalize ms.length = nm at *
 go_enter Try.func71, Try.ntmps71
 go_wp2_with fail
 rw [← hX0]
 clear hX0
 refine (a1 _).mono ?_
 rintro e w' ⟨rfl, rfl⟩
 have kk := cellsC13 K0.out
 obtain ⟨k0, k1, k2, k3, k4, k5, k6, k7, k8, k9, k10, k11, k12⟩ := kk
 go_wp2_with fail
 go_ret
 exact ⟨by rw [HE.out]; rfl, B0.out⟩
set_option maxHeartbeats 4000000 in
theorem roleI2 (ci cp ct cv cd cb cbt : Int) (lg : List Ent) (cc : Int) (ys ns ms : List Int) (A0 : Option Addr) (n0 c0 : Nat) (u1 u2 u3 : Value) (w : World) (B : Nat) (hy : NumsV w B u1 ys) (hn : NumsV w B u2 ns) (hm : NumsV w B u3 ms) (hly : ys.length ≤ 1048576) (hln : ns.length ≤ 1048576) (hlm : ms.length ≤ 1048576) (hp0 : 1 ≤ cp) (hp1 : cp ≤ 5) (hi0 : 0 ≤ ci) (hi1 : ci ≤ cp - 1) (hb0 : 0 ≤ cb) (hb1 : cb ≤ 200000) (hl0 : lg.length = n0) (hl1 : n0 ≤ 1048576) (hB : B ≤ w.heap.size) : Calls Try.prog 71 #[.agg #[.int .i64 ci, .int .i64 cp, .int .i64 ct, .int .i64 cv, .int .i64 2, .int .i64 cd, .int .i64 cb, .int .i64 cbt, .slice A0 n0 c0, .int .i64 cc, u1, u2, u3]] w fun e w' => e = .returned (.bool (roleB ⟨ci, cp, ct, cv, 2, cd, cb, cbt, lg, cc, ys, ns, ms⟩)) ∧ Below w.heap.size w w' := by
 have HYv : Hid (NumsV w B u1 ys ∧ NumsV w B u2 ns ∧ NumsV w B u3 ms) := ⟨hy, hn, hm⟩
 have HBB : Hid (B ≤ w.heap.size) := hB
 have cY := fun wx h1 h2 => yesI ci cp ct cv 2 cd cb cbt lg cc ys ns ms A0 n0 c0 u1 u2 u3 wx B h1 hly hp0 hp1 h2
 have HSY : Hid (seekB ⟨ci, cp, ct, cv, 2, cd, cb, cbt, lg, cc, ys, ns, ms⟩ = true → SeekP ⟨ci, cp, ct, cv, 2, cd, cb, cbt, lg, cc, ys, ns, ms⟩) := seekB_ok
 have HSN : Hid (seekB ⟨ci, cp, ct, cv, 2, cd, cb, cbt, lg, cc, ys, ns, ms⟩ = false → ¬ SeekP ⟨ci, cp, ct, cv, 2, cd, cb, cbt, lg, cc, ys, ns, ms⟩) := seekB_not
 obtain ⟨A1, c1, rfl, _⟩ := hy
 obtain ⟨A2, c2, rfl, _⟩ := hn
 obtain ⟨A3, c3, rfl, _⟩ := hm
 obtain ⟨X0, hX0⟩ : ∃ X0, X0 = w.alloc (.cells #[.int .i64 ci, .int .i64 cp, .int .i64 ct, .int .i64 cv, .int .i64 2, .int .i64 cd, .int .i64 cb, .int .i64 cbt, .slice A0 n0 c0, .int .i64 cc, .slice A1 ys.length c1, .slice A2 ns.length c2, .slice A3 ms.length c3] 29) := ⟨_, rfl⟩
 have B0 : Hid (Below w.heap.size w X0) := by unfold Hid; rw [hX0]; exact (Below.refl _ _).alloc (Nat.le_refl _) _
 have w1 : IntKind.i64.wrap (cp - 1) = cp - 1 := by rw [IntKind.wrap_i64]; omega
 have K0 : Hid (Blk X0 w.heap.size #[.int .i64 ci, .int .i64 cp, .int .i64 ct, .int .i64 cv, .int .i64 2, .int .i64 cd, .int .i64 cb, .int .i64 cbt, .slice A0 n0 c0, .int .i64 cc, .slice A1 ys.length c1, .slice A2 ns.length c2, .slice A3 ms.length c3] 29) := by unfold Hid; rw [hX0]; exact Blk.new w _ _
 have cY1 := cY X0 (HYv.out.1.on (B0.out.mono HBB.out)) (Nat.le_trans HBB.out B0.out.size)
 clear cY
 have qy : (ys.length : Int) ≤ 1048576 := by omega
 have qn : (ns.length : Int) ≤ 1048576 := by omega
 have qm : (ms.length : Int) ≤ 1048576 := by omega
 by_cases hc0 : 1 ≤ ct
 rotate_left
 ·have zi0 : decide (1 ≤ ct) = false := decide_eq_false hc0
  have HE : Hid (roleB ⟨ci, cp, ct, cv, 2, cd, cb, cbt, lg, cc, ys, ns, ms⟩ = false) := roleB_no fun h => by
   rcases h with ⟨e, h⟩ | ⟨e, h⟩ | ⟨e, h⟩
   ·cases e
   ·exact hc0 h.t
   ·cases e
  clear hc0 
  generalize ys.length = ny at *
  generalize ns.length = nn at *
  generalize ms.length = nm at *
  go_enter Try.func71, Try.ntmps71
  go_wp2_with fail
  go_ret
  rw [← hX0]
  exact ⟨by rw [HE.out]; rfl, B0.out⟩
 have zi0 : decide (1 ≤ ct) = true := decide_eq_true hc0
 by_cases hc1 : cv = ci
 rotate_left
 ·have zi1 : (cv == ci) = false := beq_eq_false_iff_ne.2 hc1
  have HE : Hid (roleB ⟨ci, cp, ct, cv, 2, cd, cb, cbt, lg, cc, ys, ns, ms⟩ = false) := roleB_no fun h => by
   rcases h with ⟨e, h⟩ | ⟨e, h⟩ | ⟨e, h⟩
   ·cases e
   ·exact hc1 h.v
   ·cases e
  clear hc0 hc1 
  generalize ys.length = ny at *
  generalize ns.length = nn at *
  generalize ms.length = nm at *
  go_enter Try.func71, Try.ntmps71
  go_wp2_with fail
  go_ret
  rw [← hX0]
  exact ⟨by rw [HE.out]; rfl, B0.out⟩
 have zi1 : (cv == ci) = true := beq_iff_eq.2 hc1
 by_cases hc2 : cd = -1
 rotate_left
 ·have zi2 : (cd == -1) = false := beq_eq_false_iff_ne.2 hc2
  have HE : Hid (roleB ⟨ci, cp, ct, cv, 2, cd, cb, cbt, lg, cc, ys, ns, ms⟩ = false) := roleB_no fun h => by
   rcases h with ⟨e, h⟩ | ⟨e, h⟩ | ⟨e, h⟩
   ·cases e
   ·exact hc2 h.l
   ·cases e
  clear hc0 hc1 hc2 
  generalize ys.length = ny at *
  generalize ns.length = nn at *
  generalize ms.length = nm at *
  go_enter Try.func71, Try.ntmps71
  go_wp2_with fail
  go_ret
  rw [← hX0]
  exact ⟨by rw [HE.out]; rfl, B0.out⟩
 have zi2 : (cd == -1) = true := beq_iff_eq.2 hc2
 cases hc3 : seekB ⟨ci, cp, ct, cv, 2, cd, cb, cbt, lg, cc, ys, ns, ms⟩
 ·rw [hc3] at cY1
  have HE : Hid (roleB ⟨ci, cp, ct, cv, 2, cd, cb, cbt, lg, cc, ys, ns, ms⟩ = false) := roleB_no fun h => by
   rcases h with ⟨e, h⟩ | ⟨e, h⟩ | ⟨e, h⟩
   ·cases e
   ·exact HSN.out hc3 ⟨h.i, h.r, h.h, h.f⟩
   ·cases e
  clear hc0 hc1 hc2 hc3
  generalize ys.length = ny at *
  generalize ns.length = nn at *
  generalize ms.length = nm at *
  go_enter Try.func71, Try.ntmps71
  go_wp2_with fail
  rw [← hX0]
  clear hX0
  have kk := cellsC13 K0.out
  obtain ⟨k0, k1, k2, k3, k4, k5, k6, k7, k8, k9, k10, k11, k12⟩ := kk
  clear k0 k1 k2 k3 k4 k5 k6 k7 k8 k9 k10 k11 k12
  refine cY1.mono ?_
  rintro e X1 ⟨rfl, hb⟩
  have B1 := Hid.mk (B0.out.trans (hb.mono B0.out.size))
  obtain ⟨k0, k1, k2, k3, k4, k5, k6, k7, k8, k9, k10, k11, k12⟩ := cellsC13 (K0.out.on hb K0.out.lt)
  clear hb
  go_wp2_with fail
  go_ret
  exact ⟨by rw [HE.out]; rfl, B1.out⟩
 rw [hc3] at cY1
 by_cases hc4 : ns.length = 0
 rotate_left
 ·have zi4 : ((ns.length : Int) == 0) = false := beq_eq_false_iff_ne.2 (by omega)
  have zn4 : (ns.length == 0) = false := beq_eq_false_iff_ne.2 hc4
  have HE : Hid (roleB ⟨ci, cp, ct, cv, 2, cd, cb, cbt, lg, cc, ys, ns, ms⟩ = false) := roleB_no fun h => by
   rcases h with ⟨e, h⟩ | ⟨e, h⟩ | ⟨e, h⟩
   ·cases e
   ·exact hc4 h.n
   ·cases e
  clear hc0 hc1 hc2 hc4 hc3
  generalize ys.length = ny at *
  generalize ns.length = nn at *
  generalize ms.length = nm at *
  go_enter Try.func71, Try.ntmps71
  go_wp2_with fail
  rw [← hX0]
  clear hX0
  have kk := cellsC13 K0.out
  obtain ⟨k0, k1, k2, k3, k4, k5, k6, k7, k8, k9, k10, k11, k12⟩ := kk
  clear k0 k1 k2 k3 k4 k5 k6 k7 k8 k9 k10 k11 k12
  refine cY1.mono ?_
  rintro e X1 ⟨rfl, hb⟩
  have B1 := Hid.mk (B0.out.trans (hb.mono B0.out.size))
  obtain ⟨k0, k1, k2, k3, k4, k5, k6, k7, k8, k9, k10, k11, k12⟩ := cellsC13 (K0.out.on hb K0.out.lt)
  clear hb
  go_wp2_with fail
  go_ret
  exact ⟨by rw [HE.out]; rfl, B1.out⟩
 have zi4 : ((ns.length : Int) == 0) = true := by rw [hc4]; rfl
 have zn4 : (ns.length == 0) = true := by rw [hc4]; rfl
 by_cases hc5 : ms.length = 0
 rotate_left
 ·have zi5 : ((ms.length : Int) == 0) = false := beq_eq_false_iff_ne.2 (by omega)
  have zn5 : (ms.length == 0) = false := beq_eq_false_iff_ne.2 hc5
  have HE : Hid (roleB ⟨ci, cp, ct, cv, 2, cd, cb, cbt, lg, cc, ys, ns, ms⟩ = false) := roleB_no fun h => by
   rcases h with ⟨e, h⟩ | ⟨e, h⟩ | ⟨e, h⟩
   ·cases e
   ·exact hc5 h.m
   ·cases e
  clear hc0 hc1 hc2 hc4 hc5 hc3
  generalize ys.length = ny at *
  generalize ns.length = nn at *
  generalize ms.length = nm at *
  go_enter Try.func71, Try.ntmps71
  go_wp2_with fail
  rw [← hX0]
  clear hX0
  have kk := cellsC13 K0.out
  obtain ⟨k0, k1, k2, k3, k4, k5, k6, k7, k8, k9, k10, k11, k12⟩ := kk
  clear k0 k1 k2 k3 k4 k5 k6 k7 k8 k9 k10 k11 k12
  refine cY1.mono ?_
  rintro e X1 ⟨rfl, hb⟩
  have B1 := Hid.mk (B0.out.trans (hb.mono B0.out.size))
  obtain ⟨k0, k1, k2, k3, k4, k5, k6, k7, k8, k9, k10, k11, k12⟩ := cellsC13 (K0.out.on hb K0.out.lt)
  clear hb
  go_wp2_with fail
  go_ret
  exact ⟨by rw [HE.out]; rfl, B1.out⟩
 have zi5 : ((ms.length : Int) == 0) = true := by rw [hc5]; rfl
 have zn5 : (ms.length == 0) = true := by rw [hc5]; rfl
 have HE : Hid (roleB ⟨ci, cp, ct, cv, 2, cd, cb, cbt, lg, cc, ys, ns, ms⟩ = true) := roleB_yes (.inr (.inl ⟨rfl, ⟨hc0, hc1, hc2, (HSY.out hc3).1, (HSY.out hc3).2.1, (HSY.out hc3).2.2.1, (HSY.out hc3).2.2.2, hc4, hc5⟩⟩))
 clear hc0 hc1 hc2 hc4 hc5 hc3
 generalize ys.length = ny at *
 generalize ns.length = nn at *
 generalize ms.length = nm at *
 go_enter Try.func71, Try.ntmps71
 go_wp2_with fail
 rw [← hX0]
 clear hX0
 have kk := cellsC13 K0.out
 obtain ⟨k0, k1, k2, k3, k4, k5, k6, k7, k8, k9, k10, k11, k12⟩ := kk
 clear k0 k1 k2 k3 k4 k5 k6 k7 k8 k9 k10 k11 k12
 refine cY1.mono ?_
 rintro e X1 ⟨rfl, hb⟩
 have B1 := Hid.mk (B0.out.trans (hb.mono B0.out.size))
 obtain ⟨k0, k1, k2, k3, k4, k5, k6, k7, k8, k9, k10, k11, k12⟩ := cellsC13 (K0.out.on hb K0.out.lt)
 clear hb
 go_wp2_with fail
 go_ret
 exact ⟨by rw [HE.out]; rfl, B1.out⟩
set_option maxHeartbeats 4000000 in
theorem roleI3 (ci cp ct cv cd cb cbt : Int) (lg : List Ent) (cc : Int) (ys ns ms : List Int) (A0 : Option Addr) (n0 c0 : Nat) (u1 u2 u3 : Value) (w : World) (B : Nat) (hy : NumsV w B u1 ys) (hn : NumsV w B u2 ns) (hm : NumsV w B u3 ms) (hly : ys.length ≤ 1048576) (hln : ns.length ≤ 1048576) (hlm : ms.length ≤ 1048576) (hp0 : 1 ≤ cp) (hp1 : cp ≤ 5) (hi0 : 0 ≤ ci) (hi1 : ci ≤ cp - 1) (hb0 : 0 ≤ cb) (hb1 : cb ≤ 200000) (hl0 : lg.length = n0) (hl1 : n0 ≤ 1048576) (hB : B ≤ w.heap.size) : Calls Try.prog 71 #[.agg #[.int .i64 ci, .int .i64 cp, .int .i64 ct, .int .i64 cv, .int .i64 3, .int .i64 cd, .int .i64 cb, .int .i64 cbt, .slice A0 n0 c0, .int .i64 cc, u1, u2, u3]] w fun e w' => e = .returned (.bool (roleB ⟨ci, cp, ct, cv, 3, cd, cb, cbt, lg, cc, ys, ns, ms⟩)) ∧ Below w.heap.size w w' := by
 have HYv : Hid (NumsV w B u1 ys ∧ NumsV w B u2 ns ∧ NumsV w B u3 ms) := ⟨hy, hn, hm⟩
 have HBB : Hid (B ≤ w.heap.size) := hB
 have cY := fun wx h1 h2 h3 => reachI ci cp ct cv 3 cd cb cbt lg cc ys ns ms A0 n0 c0 u1 u2 u3 wx B h1 h2 hln hlm hp0 hp1 hi0 hi1 hb0 hb1 hl0 hl1 h3
 have HSY : Hid (reachB ⟨ci, cp, ct, cv, 3, cd, cb, cbt, lg, cc, ys, ns, ms⟩ = true → ReachP ⟨ci, cp, ct, cv, 3, cd, cb, cbt, lg, cc, ys, ns, ms⟩) := reachB_ok
 have HSN : Hid (reachB ⟨ci, cp, ct, cv, 3, cd, cb, cbt, lg, cc, ys, ns, ms⟩ = false → ¬ ReachP ⟨ci, cp, ct, cv, 3, cd, cb, cbt, lg, cc, ys, ns, ms⟩) := reachB_not
 obtain ⟨A1, c1, rfl, _⟩ := hy
 obtain ⟨A2, c2, rfl, _⟩ := hn
 obtain ⟨A3, c3, rfl, _⟩ := hm
 obtain ⟨X0, hX0⟩ : ∃ X0, X0 = w.alloc (.cells #[.int .i64 ci, .int .i64 cp, .int .i64 ct, .int .i64 cv, .int .i64 3, .int .i64 cd, .int .i64 cb, .int .i64 cbt, .slice A0 n0 c0, .int .i64 cc, .slice A1 ys.length c1, .slice A2 ns.length c2, .slice A3 ms.length c3] 29) := ⟨_, rfl⟩
 have B0 : Hid (Below w.heap.size w X0) := by unfold Hid; rw [hX0]; exact (Below.refl _ _).alloc (Nat.le_refl _) _
 have w1 : IntKind.i64.wrap (cp - 1) = cp - 1 := by rw [IntKind.wrap_i64]; omega
 have K0 : Hid (Blk X0 w.heap.size #[.int .i64 ci, .int .i64 cp, .int .i64 ct, .int .i64 cv, .int .i64 3, .int .i64 cd, .int .i64 cb, .int .i64 cbt, .slice A0 n0 c0, .int .i64 cc, .slice A1 ys.length c1, .slice A2 ns.length c2, .slice A3 ms.length c3] 29) := by unfold Hid; rw [hX0]; exact Blk.new w _ _
 have cY1 := cY X0 (HYv.out.2.1.on (B0.out.mono HBB.out)) (HYv.out.2.2.on (B0.out.mono HBB.out)) (Nat.le_trans HBB.out B0.out.size)
 clear cY
 have qy : (ys.length : Int) ≤ 1048576 := by omega
 have qn : (ns.length : Int) ≤ 1048576 := by omega
 have qm : (ms.length : Int) ≤ 1048576 := by omega
 by_cases hc0 : 1 ≤ ct
 rotate_left
 ·have zi0 : decide (1 ≤ ct) = false := decide_eq_false hc0
  have HE : Hid (roleB ⟨ci, cp, ct, cv, 3, cd, cb, cbt, lg, cc, ys, ns, ms⟩ = false) := roleB_no fun h => by
   rcases h with ⟨e, h⟩ | ⟨e, h⟩ | ⟨e, h⟩
   ·cases e
   ·cases e
   ·exact hc0 h.t
  clear hc0 
  generalize ys.length = ny at *
  generalize ns.length = nn at *
  generalize ms.length = nm at *
  go_enter Try.func71, Try.ntmps71
  go_wp2_with fail
  go_ret
  rw [← hX0]
  exact ⟨by rw [HE.out]; rfl, B0.out⟩
 have zi0 : decide (1 ≤ ct) = true := decide_eq_true hc0
 by_cases hc1 : cv = ci
 rotate_left
 ·have zi1 : (cv == ci) = false := beq_eq_false_iff_ne.2 hc1
  have HE : Hid (roleB ⟨ci, cp, ct, cv, 3, cd, cb, cbt, lg, cc, ys, ns, ms⟩ = false) := roleB_no fun h => by
   rcases h with ⟨e, h⟩ | ⟨e, h⟩ | ⟨e, h⟩
   ·cases e
   ·cases e
   ·exact hc1 h.v
  clear hc0 hc1 
  generalize ys.length = ny at *
  generalize ns.length = nn at *
  generalize ms.length = nm at *
  go_enter Try.func71, Try.ntmps71
  go_wp2_with fail
  go_ret
  rw [← hX0]
  exact ⟨by rw [HE.out]; rfl, B0.out⟩
 have zi1 : (cv == ci) = true := beq_iff_eq.2 hc1
 by_cases hc2 : cd = ci
 rotate_left
 ·have zi2 : (cd == ci) = false := beq_eq_false_iff_ne.2 hc2
  have HE : Hid (roleB ⟨ci, cp, ct, cv, 3, cd, cb, cbt, lg, cc, ys, ns, ms⟩ = false) := roleB_no fun h => by
   rcases h with ⟨e, h⟩ | ⟨e, h⟩ | ⟨e, h⟩
   ·cases e
   ·cases e
   ·exact hc2 h.l
  clear hc0 hc1 hc2 
  generalize ys.length = ny at *
  generalize ns.length = nn at *
  generalize ms.length = nm at *
  go_enter Try.func71, Try.ntmps71
  go_wp2_with fail
  go_ret
  rw [← hX0]
  exact ⟨by rw [HE.out]; rfl, B0.out⟩
 have zi2 : (cd == ci) = true := beq_iff_eq.2 hc2
 by_cases hc3 : ys.length = 0
 rotate_left
 ·have zi3 : ((ys.length : Int) == 0) = false := beq_eq_false_iff_ne.2 (by omega)
  have zn3 : (ys.length == 0) = false := beq_eq_false_iff_ne.2 hc3
  have HE : Hid (roleB ⟨ci, cp, ct, cv, 3, cd, cb, cbt, lg, cc, ys, ns, ms⟩ = false) := roleB_no fun h => by
   rcases h with ⟨e, h⟩ | ⟨e, h⟩ | ⟨e, h⟩
   ·cases e
   ·cases e
   ·exact hc3 h.y
  clear hc0 hc1 hc2 hc3 
  generalize ys.length = ny at *
  generalize ns.length = nn at *
  generalize ms.length = nm at *
  go_enter Try.func71, Try.ntmps71
  go_wp2_with fail
  go_ret
  rw [← hX0]
  exact ⟨by rw [HE.out]; rfl, B0.out⟩
 have zi3 : ((ys.length : Int) == 0) = true := by rw [hc3]; rfl
 have zn3 : (ys.length == 0) = true := by rw [hc3]; rfl
 cases hc4 : reachB ⟨ci, cp, ct, cv, 3, cd, cb, cbt, lg, cc, ys, ns, ms⟩
 ·rw [hc4] at cY1
  have HE : Hid (roleB ⟨ci, cp, ct, cv, 3, cd, cb, cbt, lg, cc, ys, ns, ms⟩ = false) := roleB_no fun h => by
   rcases h with ⟨e, h⟩ | ⟨e, h⟩ | ⟨e, h⟩
   ·cases e
   ·cases e
   ·exact HSN.out hc4 ⟨h.n, h.m, h.a, h.o⟩
  clear hc0 hc1 hc2 hc3 hc4
  generalize ys.length = ny at *
  generalize ns.length = nn at *
  generalize ms.length = nm at *
  go_enter Try.func71, Try.ntmps71
  go_wp2_with fail
  rw [← hX0]
  clear hX0
  have kk := cellsC13 K0.out
  obtain ⟨k0, k1, k2, k3, k4, k5, k6, k7, k8, k9, k10, k11, k12⟩ := kk
  clear k0 k1 k2 k3 k4 k5 k6 k7 k8 k9 k10 k11 k12
  refine cY1.mono ?_
  rintro e X1 ⟨rfl, hb⟩
  have B1 := Hid.mk (B0.out.trans (hb.mono B0.out.size))
  obtain ⟨k0, k1, k2, k3, k4, k5, k6, k7, k8, k9, k10, k11, k12⟩ := cellsC13 (K0.out.on hb K0.out.lt)
  clear hb
  go_wp2_with fail
  go_ret
  exact ⟨by rw [HE.out]; rfl, B1.out⟩
 rw [hc4] at cY1
 have HE : Hid (roleB ⟨ci, cp, ct, cv, 3, cd, cb, cbt, lg, cc, ys, ns, ms⟩ = true) := roleB_yes (.inr (.inr ⟨rfl, ⟨hc0, hc1, hc2, hc3, (HSY.out hc4).1, (HSY.out hc4).2.1, (HSY.out hc4).2.2.1, (HSY.out hc4).2.2.2⟩⟩))
 clear hc0 hc1 hc2 hc3 hc4
 generalize ys.length = ny at *
 generalize ns.length = nn at *
 generalize ms.length = nm at *
 go_enter Try.func71, Try.ntmps71
 go_wp2_with fail
 rw [← hX0]
 clear hX0
 have kk := cellsC13 K0.out
 obtain ⟨k0, k1, k2, k3, k4, k5, k6, k7, k8, k9, k10, k11, k12⟩ := kk
 clear k0 k1 k2 k3 k4 k5 k6 k7 k8 k9 k10 k11 k12
 refine cY1.mono ?_
 rintro e X1 ⟨rfl, hb⟩
 have B1 := Hid.mk (B0.out.trans (hb.mono B0.out.size))
 obtain ⟨k0, k1, k2, k3, k4, k5, k6, k7, k8, k9, k10, k11, k12⟩ := cellsC13 (K0.out.on hb K0.out.lt)
 clear hb
 go_wp2_with fail
 go_ret
 exact ⟨by rw [HE.out]; rfl, B1.out⟩
set_option maxHeartbeats 4000000 in
theorem roleIx (ci cp ct cv cr cd cb cbt : Int) (lg : List Ent) (cc : Int) (ys ns ms : List Int) (A0 : Option Addr) (n0 c0 : Nat) (u1 u2 u3 : Value) (w : World) (B : Nat) (hy : NumsV w B u1 ys) (hn : NumsV w B u2 ns) (hm : NumsV w B u3 ms) (hly : ys.length ≤ 1048576) (hln : ns.length ≤ 1048576) (hlm : ms.length ≤ 1048576) (hp0 : 1 ≤ cp) (hp1 : cp ≤ 5) (hi0 : 0 ≤ ci) (hi1 : ci ≤ cp - 1) (hb0 : 0 ≤ cb) (hb1 : cb ≤ 200000) (hl0 : lg.length = n0) (hl1 : n0 ≤ 1048576) (hB : B ≤ w.heap.size) (hr1 : ¬ cr = 1) (hr2 : ¬ cr = 2) (hr3 : ¬ cr = 3) : Calls Try.prog 71 #[.agg #[.int .i64 ci, .int .i64 cp, .int .i64 ct, .int .i64 cv, .int .i64 cr, .int .i64 cd, .int .i64 cb, .int .i64 cbt, .slice A0 n0 c0, .int .i64 cc, u1, u2, u3]] w fun e w' => e = .returned (.bool (roleB ⟨ci, cp, ct, cv, cr, cd, cb, cbt, lg, cc, ys, ns, ms⟩)) ∧ Below w.heap.size w w' := by
 have HYv : Hid (NumsV w B u1 ys ∧ NumsV w B u2 ns ∧ NumsV w B u3 ms) := ⟨hy, hn, hm⟩
 have HBB : Hid (B ≤ w.heap.size) := hB
 obtain ⟨A1, c1, rfl, _⟩ := hy
 obtain ⟨A2, c2, rfl, _⟩ := hn
 obtain ⟨A3, c3, rfl, _⟩ := hm
 obtain ⟨X0, hX0⟩ : ∃ X0, X0 = w.alloc (.cells #[.int .i64 ci, .int .i64 cp, .int .i64 ct, .int .i64 cv, .int .i64 cr, .int .i64 cd, .int .i64 cb, .int .i64 cbt, .slice A0 n0 c0, .int .i64 cc, .slice A1 ys.length c1, .slice A2 ns.length c2, .slice A3 ms.length c3] 29) := ⟨_, rfl⟩
 have B0 : Hid (Below w.heap.size w X0) := by unfold Hid; rw [hX0]; exact (Below.refl _ _).alloc (Nat.le_refl _) _
 have w1 : IntKind.i64.wrap (cp - 1) = cp - 1 := by rw [IntKind.wrap_i64]; omega
 have K0 : Hid (Blk X0 w.heap.size #[.int .i64 ci, .int .i64 cp, .int .i64 ct, .int .i64 cv, .int .i64 cr, .int .i64 cd, .int .i64 cb, .int .i64 cbt, .slice A0 n0 c0, .int .i64 cc, .slice A1 ys.length c1, .slice A2 ns.length c2, .slice A3 ms.length c3] 29) := by unfold Hid; rw [hX0]; exact Blk.new w _ _
 have qy : (ys.length : Int) ≤ 1048576 := by omega
 have qn : (ns.length : Int) ≤ 1048576 := by omega
 have qm : (ms.length : Int) ≤ 1048576 := by omega
 have HF : Hid (roleB ⟨ci, cp, ct, cv, cr, cd, cb, cbt, lg, cc, ys, ns, ms⟩ = false) := roleB_no fun h => by rcases h with ⟨e, _⟩ | ⟨e, _⟩ | ⟨e, _⟩ <;> simp only at e <;> omega
 have e1 : (cr == 1) = false := beq_eq_false_iff_ne.2 hr1
 have e2 : (cr == 2) = false := beq_eq_false_iff_ne.2 hr2
 have e3 : (cr == 3) = false := beq_eq_false_iff_ne.2 hr3
 clear K0
 generalize ys.length = ny at *
 generalize ns.length = nn at *
 generalize ms.length = nm at *
 go_enter Try.func71, Try.ntmps71
 go_wp2_with fail
 go_ret
 rw [← hX0]
 exact ⟨by rw [HF.out]; rfl, B0.out⟩
theorem roleI (ci cp ct cv cr cd cb cbt : Int) (lg : List Ent) (cc : Int) (ys ns ms : List Int) (A0 : Option Addr) (n0 c0 : Nat) (u1 u2 u3 : Value) (w : World) (B : Nat) (hy : NumsV w B u1 ys) (hn : NumsV w B u2 ns) (hm : NumsV w B u3 ms) (hly : ys.length ≤ 1048576) (hln : ns.length ≤ 1048576) (hlm : ms.length ≤ 1048576) (hp0 : 1 ≤ cp) (hp1 : cp ≤ 5) (hi0 : 0 ≤ ci) (hi1 : ci ≤ cp - 1) (hb0 : 0 ≤ cb) (hb1 : cb ≤ 200000) (hl0 : lg.length = n0) (hl1 : n0 ≤ 1048576) (hB : B ≤ w.heap.size) : Calls Try.prog 71 #[.agg #[.int .i64 ci, .int .i64 cp, .int .i64 ct, .int .i64 cv, .int .i64 cr, .int .i64 cd, .int .i64 cb, .int .i64 cbt, .slice A0 n0 c0, .int .i64 cc, u1, u2, u3]] w fun e w' => e = .returned (.bool (roleB ⟨ci, cp, ct, cv, cr, cd, cb, cbt, lg, cc, ys, ns, ms⟩)) ∧ Below w.heap.size w w' := by
 by_cases h1 : cr = 1
 ·subst h1; exact roleI1 ci cp ct cv cd cb cbt lg cc ys ns ms A0 n0 c0 u1 u2 u3 w B hy hn hm hly hln hlm hp0 hp1 hi0 hi1 hb0 hb1 hl0 hl1 hB
 by_cases h2 : cr = 2
 ·subst h2; exact roleI2 ci cp ct cv cd cb cbt lg cc ys ns ms A0 n0 c0 u1 u2 u3 w B hy hn hm hly hln hlm hp0 hp1 hi0 hi1 hb0 hb1 hl0 hl1 hB
 by_cases h3 : cr = 3
 ·subst h3; exact roleI3 ci cp ct cv cd cb cbt lg cc ys ns ms A0 n0 c0 u1 u2 u3 w B hy hn hm hly hln hlm hp0 hp1 hi0 hi1 hb0 hb1 hl0 hl1 hB
 exact roleIx ci cp ct cv cr cd cb cbt lg cc ys ns ms A0 n0 c0 u1 u2 u3 w B hy hn hm hly hln hlm hp0 hp1 hi0 hi1 hb0 hb1 hl0 hl1 hB h1 h2 h3
end Go.Proofs.Ytlhoonohpfpkbaa
