/-
  Cuts of rows of entries; the term at a number.
-/
import Derived.Test.YtjejcpieajeflaaRows
import Derived.Test.YtjejcpieajeflaaCoRes
import Derived.Test.YtjejcpieajeflaaCoI1
import Derived.Deep.Cut
import Derived.Handy
namespace Go.Proofs.Ytjejcpieajeflaa
open Go.ChangeShapes Go.WideShapes Go.ChangeAt Go.RowKit Go.PlainAid
set_option linter.unusedVariables false

theorem elem_entC : Try.prog.elem 28 = 88 := by kernel_rfl
theorem size_entC : (Try.prog.info? 88).map (·.size) = some 2 := by kernel_rfl
theorem cut_run (A : Option Addr) (n c k : Nat) (hk : k ≤ n) (hc : n ≤ c) (wx : World) : (Instr.sliceAt 28 (.slice A n c) (some (.int .i64 (k : Int))) none none).run Try.prog wx = .ok (.slice (if c = k then A else A.map (·.add (k * 2))) (n - k) (c - k)) wx := by
  have hu : Try.prog.underlying 28 = some (.slice (Try.prog.elem 28)) := by rw [elem_entC]; exact Try.underlying28
  have hz := size_entC
  cases hq : Try.prog.info? 88 with
  | none => rw [hq] at hz; simp at hz
  | some i =>
    rw [hq] at hz
    have hi : i.size = 2 := by simpa using hz
    rw [run_sliceAt_slice wx 28 _ _ _ _ hu, run_slice_l wx 28 A n c hu .i64 (k : Int) (by omega) (by omega), elem_entC]
    simp [sizeOf, typeInfo, hq, hi, sliced]
/-- A row of entries, cut at its beginning. -/
theorem OwnF.cut {w : World} {base n c : Nat} {A : Option Addr} {R : List (List Value)} (h : OwnF w base (.slice A n c) R) (k : Nat) (hk : k ≤ R.length) : ∃ A' m' c', (∀ wx, (Instr.sliceAt 28 (.slice A n c) (some (.int .i64 (k : Int))) none none).run Try.prog wx = .ok (.slice A' m' c') wx) ∧ OwnF w base (.slice A' m' c') (R.drop k) ∧ (∀ g, blkF (.slice A' m' c') = some g → blkF (.slice A n c) = some g) := by
  rcases h with ⟨rfl, A1, c1, e, hA⟩ | ⟨h0, g, n0, c0, d, c1, R0, h1, h2, h3, e, h5, h6⟩
  · cases e
    have hk0 : k = 0 := by simpa using hk
    subst hk0
    refine ⟨_, _, _, fun wx => cut_run A 0 c 0 (Nat.le_refl _) (Nat.zero_le _) wx, .inl ⟨by simp, _, _, rfl, fun e => ?_⟩, fun g hg => ?_⟩
    · split at e
      · rw [hA e]
      · cases A with
        | none => rw [hA rfl]
        | some a => cases e
    · split at hg
      · cases A <;> cases hg
      · cases A <;> cases hg
  · cases e
    have hb1 : ∀ g', blkF (.slice (some ⟨g, d * 2, none⟩) R.length c) = some g' ↔ g = g' := fun g' => by
      obtain ⟨q, hq⟩ : ∃ q, R.length = q + 1 := ⟨R.length - 1, by omega⟩
      rw [hq]
      exact ⟨fun h => by cases h; rfl, fun h => by subst h; rfl⟩
    refine ⟨_, _, _, fun wx => cut_run _ _ _ k hk h5 wx, ?_, fun g' hg => ?_⟩
    · by_cases hkn : k = R.length
      · left
        refine ⟨by rw [hkn, List.drop_length], _, _, by rw [hkn, Nat.sub_self], fun e => ?_⟩
        split at e
        · cases e
        · cases e
      · right
        have hne : c ≠ k := by omega
        have hl : (R.drop k).length = R.length - k := List.length_drop
        refine ⟨by omega, g, n0, c0, d + k, c - k, R0, h1, h2, by omega, ?_, by omega, ?_⟩
        · rw [if_neg hne, hl]
          simp [Addr.add]
          cases k with
          | zero => simp
          | succ k => simp [Nat.add_mul]
        · rw [h6, List.drop_drop]
    · rw [hb1]
      have := blkF_own hg
      split at this
      · simpa [Value.ownBlock] using this
      · simp [Value.ownBlock, Addr.add] at this
        cases k with
        | zero => simpa using this
        | succ k => simpa using this
theorem termAt_at (x : Cor) (i : Int) (j : Nat) (h : ¬ i = x.base) (hj : i - x.base - 1 = (j : Int)) : termAt x i = (x.log.getD j default).term := by
  unfold termAt
  rw [if_neg h, hj]
  rfl
set_option maxHeartbeats 2000000 in
theorem termI (ci cp ct cv cr cd cb cbt : Int) (lg : List Ent) (cc : Int) (ys ns ms : List Int) (A0 : Option Addr) (n0 c0 : Nat) (u1 u2 u3 : Value) (i : Int) (w : World) (B : Nat) (hl : Lies w B 2 (.slice A0 n0 c0) (entR lg)) (hn : lg.length ≤ 1048576) (h0 : 0 ≤ cb) (h1 : cb ≤ 200000) (hi0 : cb ≤ i) (hi1 : i ≤ cb + (lg.length : Int)) (hB : B ≤ w.heap.size) : Calls Try.prog 86 #[.agg #[.int .i64 ci, .int .i64 cp, .int .i64 ct, .int .i64 cv, .int .i64 cr, .int .i64 cd, .int .i64 cb, .int .i64 cbt, .slice A0 n0 c0, .int .i64 cc, u1, u2, u3], .int .i64 i] w fun e w' => e = .returned (.int .i64 (termAt ⟨ci, cp, ct, cv, cr, cd, cb, cbt, lg, cc, ys, ns, ms⟩ i)) ∧ Below w.heap.size w w' := by
  have HB : Hid (B ≤ w.heap.size) := hB
  obtain ⟨A, cap, e, hlk⟩ := ent_look hl
  cases e
  have HL := Hid.mk hlk
  have BX : Hid (Below w.heap.size w (w.alloc (.cells #[.int .i64 ci, .int .i64 cp, .int .i64 ct, .int .i64 cv, .int .i64 cr, .int .i64 cd, .int .i64 cb, .int .i64 cbt, .slice A0 lg.length c0, .int .i64 cc, u1, u2, u3] 30))) := (Below.refl _ _).alloc (Nat.le_refl _) _
  clear hl hlk hB
  by_cases hib : i = cb
  · have HE : Hid (termAt ⟨ci, cp, ct, cv, cr, cd, cb, cbt, lg, cc, ys, ns, ms⟩ i = cbt) := by unfold Hid termAt; exact if_pos hib
    have e1 : (i == cb) = true := beq_iff_eq.2 hib
    clear hib
    generalize lg.length = n at *
    go_enter Try.func86, Try.ntmps86
    go_wp2_with fail
    go_ret
    exact ⟨by rw [HE.out]; rfl, BX.out⟩
  obtain ⟨j, hj⟩ : ∃ j : Nat, i - cb - 1 = (j : Int) := ⟨(i - cb - 1).toNat, by omega⟩
  have HE : Hid (termAt ⟨ci, cp, ct, cv, cr, cd, cb, cbt, lg, cc, ys, ns, ms⟩ i = (lg.getD j default).term) := termAt_at ⟨ci, cp, ct, cv, cr, cd, cb, cbt, lg, cc, ys, ns, ms⟩ i j hib hj
  have e1 : (i == cb) = false := beq_eq_false_iff_ne.2 hib
  have hjn : j < lg.length := by omega
  obtain ⟨g, off, rfl, hg, d0, _⟩ := HL.out j hjn
  rw [← BX.out.cell (p := ⟨_, _, none⟩) (Nat.lt_of_lt_of_le hg HB.out)] at d0
  have w1 : IntKind.i64.wrap (i - cb) = i - cb := by rw [IntKind.wrap_i64]; omega
  have w2 : IntKind.i64.wrap (i - cb - 1) = (j : Int) := by rw [IntKind.wrap_i64]; omega
  have q1 : (j : Int) < (lg.length : Int) := by omega
  have HN : Hid (lg.length ≤ 1048576) := hn
  generalize (lg.getD j default).term = tt at *
  generalize lg.length = n at *
  clear hib hj hjn HL
  go_enter Try.func86, Try.ntmps86
  go_wp2_with fail
  go_ret
  exact ⟨by rw [HE.out]; rfl, BX.out⟩
set_option maxHeartbeats 2000000 in
theorem termS (ci cp ct cv cr cd cb cbt : Int) (lg : List Ent) (cc : Int) (ys ns ms : List Int) (A0 : Option Addr) (n0 c0 : Nat) (u1 u2 u3 : Value) (i : Int) (w : World) (B : Nat) (hl : Lies w B 2 (.slice A0 n0 c0) (entR lg)) (hn : lg.length ≤ 1048576) (h0 : 0 ≤ cb) (h1 : cb ≤ 200000) (hi0 : cb ≤ i) (hi1 : i ≤ cb + (lg.length : Int)) (hB : B ≤ w.heap.size) : Calls Try.prog 60 #[.agg #[.int .i64 ci, .int .i64 cp, .int .i64 ct, .int .i64 cv, .int .i64 cr, .int .i64 cd, .int .i64 cb, .int .i64 cbt, .slice A0 n0 c0, .int .i64 cc, u1, u2, u3], .int .i64 i] w fun e w' => e = .returned (.int .i64 (termAt ⟨ci, cp, ct, cv, cr, cd, cb, cbt, lg, cc, ys, ns, ms⟩ i)) ∧ Below w.heap.size w w' := by
  have HB : Hid (B ≤ w.heap.size) := hB
  obtain ⟨A, cap, e, hlk⟩ := ent_look hl
  cases e
  have HL := Hid.mk hlk
  have BX : Hid (Below w.heap.size w (w.alloc (.cells #[.int .i64 ci, .int .i64 cp, .int .i64 ct, .int .i64 cv, .int .i64 cr, .int .i64 cd, .int .i64 cb, .int .i64 cbt, .slice A0 lg.length c0, .int .i64 cc, u1, u2, u3] 30))) := (Below.refl _ _).alloc (Nat.le_refl _) _
  clear hl hlk hB
  by_cases hib : i = cb
  · have HE : Hid (termAt ⟨ci, cp, ct, cv, cr, cd, cb, cbt, lg, cc, ys, ns, ms⟩ i = cbt) := by unfold Hid termAt; exact if_pos hib
    have e1 : (i == cb) = true := beq_iff_eq.2 hib
    clear hib
    generalize lg.length = n at *
    go_enter Try.func60, Try.ntmps60
    go_wp2_with fail
    go_ret
    exact ⟨by rw [HE.out]; rfl, BX.out⟩
  obtain ⟨j, hj⟩ : ∃ j : Nat, i - cb - 1 = (j : Int) := ⟨(i - cb - 1).toNat, by omega⟩
  have HE : Hid (termAt ⟨ci, cp, ct, cv, cr, cd, cb, cbt, lg, cc, ys, ns, ms⟩ i = (lg.getD j default).term) := termAt_at ⟨ci, cp, ct, cv, cr, cd, cb, cbt, lg, cc, ys, ns, ms⟩ i j hib hj
  have e1 : (i == cb) = false := beq_eq_false_iff_ne.2 hib
  have hjn : j < lg.length := by omega
  obtain ⟨g, off, rfl, hg, d0, _⟩ := HL.out j hjn
  rw [← BX.out.cell (p := ⟨_, _, none⟩) (Nat.lt_of_lt_of_le hg HB.out)] at d0
  have w1 : IntKind.i64.wrap (i - cb) = i - cb := by rw [IntKind.wrap_i64]; omega
  have w2 : IntKind.i64.wrap (i - cb - 1) = (j : Int) := by rw [IntKind.wrap_i64]; omega
  have q1 : (j : Int) < (lg.length : Int) := by omega
  have HN : Hid (lg.length ≤ 1048576) := hn
  generalize (lg.getD j default).term = tt at *
  generalize lg.length = n at *
  clear hib hj hjn HL
  go_enter Try.func60, Try.ntmps60
  go_wp2_with fail
  go_ret
  exact ⟨by rw [HE.out]; rfl, BX.out⟩
set_option maxHeartbeats 2000000 in
theorem behindI (ci cp ct cv cr cd cb cbt : Int) (lg : List Ent) (cc : Int) (A0 : Option Addr) (n0 c0 : Nat) (u1 u2 u3 : Value) (i : Int) (k : Nat) (A' : Option Addr) (m' c' : Nat) (w : World) (hk : i - cb = (k : Int)) (hkn : k ≤ 1048576) (hr : ∀ wx, (Instr.sliceAt 28 (.slice A0 n0 c0) (some (.int .i64 (k : Int))) none none).run Try.prog wx = .ok (.slice A' m' c') wx) : Calls Try.prog 100 #[.agg #[.int .i64 ci, .int .i64 cp, .int .i64 ct, .int .i64 cv, .int .i64 cr, .int .i64 cd, .int .i64 cb, .int .i64 cbt, .slice A0 n0 c0, .int .i64 cc, u1, u2, u3], .int .i64 i] w fun e w' => e = .returned (.slice A' m' c') ∧ Below w.heap.size w w' := by
  have BX : Hid (Below w.heap.size w (w.alloc (.cells #[.int .i64 ci, .int .i64 cp, .int .i64 ct, .int .i64 cv, .int .i64 cr, .int .i64 cd, .int .i64 cb, .int .i64 cbt, .slice A0 n0 c0, .int .i64 cc, u1, u2, u3] 30))) := (Below.refl _ _).alloc (Nat.le_refl _) _
  have w1 : IntKind.i64.wrap (i - cb) = (k : Int) := by rw [IntKind.wrap_i64]; omega
  clear hk
  go_enter Try.func100, Try.ntmps100
  go_wp2_with fail
  go_ret
  exact ⟨rfl, BX.out⟩
end Go.Proofs.Ytjejcpieajeflaa
