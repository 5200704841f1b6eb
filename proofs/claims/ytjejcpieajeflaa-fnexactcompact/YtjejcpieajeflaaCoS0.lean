/-
  Contracts of spec's small functions on cores: l16Wal, l16Last, l16In.
-/
import Derived.Test.YtjejcpieajeflaaRows
import Derived.Test.YtjejcpieajeflaaCoI1
import Derived.Test.YtjejcpieajeflaaCoApp
import Derived.Test.YtjejcpieajeflaaWkTo
import Derived.Deep.Cut
import Derived.Handy
namespace Go.Proofs.Ytjejcpieajeflaa
open Go.ChangeShapes Go.WideShapes Go.ChangeAt Go.RowKit Go.PlainAid
set_option linter.unusedVariables false

theorem inIt_mk {x lo hi : Int} (h1 : lo ≤ x) (h2 : x ≤ hi) : inIt x lo hi = true := by unfold inIt; rw [decide_eq_true h1, decide_eq_true h2]; rfl
theorem Owns.lowM {X : World} {bs g j sz : Nat} {e : TypeId} {v u : Value} {r : List (List Value)} (h : Owns X bs e sz u r) (hl : g < bs) : Owns (X.setCell ⟨g, j, none⟩ v) bs e sz u r := h.other (h.below hl) j v
theorem resW5 {w : World} {g : Nat} {a0 a1 a2 a3 a4 x0 x1 x2 x3 x4 : Value} {t : TypeId} (h : Blk w g #[a0, a1, a2, a3, a4] t) :
    (w.cell? ⟨g, 0, none⟩ = some a0 ∧ w.frozen? ⟨g, 0, none⟩ = false) ∧ ((w.setCell ⟨g, 0, none⟩ x0).cell? ⟨g, 1, none⟩ = some a1 ∧ (w.setCell ⟨g, 0, none⟩ x0).frozen? ⟨g, 1, none⟩ = false) ∧ (((w.setCell ⟨g, 0, none⟩ x0).setCell ⟨g, 1, none⟩ x1).cell? ⟨g, 2, none⟩ = some a2 ∧ ((w.setCell ⟨g, 0, none⟩ x0).setCell ⟨g, 1, none⟩ x1).frozen? ⟨g, 2, none⟩ = false) ∧ ((((w.setCell ⟨g, 0, none⟩ x0).setCell ⟨g, 1, none⟩ x1).setCell ⟨g, 2, none⟩ x2).cell? ⟨g, 3, none⟩ = some a3 ∧ (((w.setCell ⟨g, 0, none⟩ x0).setCell ⟨g, 1, none⟩ x1).setCell ⟨g, 2, none⟩ x2).frozen? ⟨g, 3, none⟩ = false) ∧ (((((w.setCell ⟨g, 0, none⟩ x0).setCell ⟨g, 1, none⟩ x1).setCell ⟨g, 2, none⟩ x2).setCell ⟨g, 3, none⟩ x3).cell? ⟨g, 4, none⟩ = some a4 ∧ ((((w.setCell ⟨g, 0, none⟩ x0).setCell ⟨g, 1, none⟩ x1).setCell ⟨g, 2, none⟩ x2).setCell ⟨g, 3, none⟩ x3).frozen? ⟨g, 4, none⟩ = false) ∧
    (((((w.setCell ⟨g, 0, none⟩ x0).setCell ⟨g, 1, none⟩ x1).setCell ⟨g, 2, none⟩ x2).setCell ⟨g, 3, none⟩ x3).setCell ⟨g, 4, none⟩ x4).cell? ⟨g, 0, none⟩ = some x0 ∧ (((((w.setCell ⟨g, 0, none⟩ x0).setCell ⟨g, 1, none⟩ x1).setCell ⟨g, 2, none⟩ x2).setCell ⟨g, 3, none⟩ x3).setCell ⟨g, 4, none⟩ x4).cell? ⟨g, 1, none⟩ = some x1 ∧ (((((w.setCell ⟨g, 0, none⟩ x0).setCell ⟨g, 1, none⟩ x1).setCell ⟨g, 2, none⟩ x2).setCell ⟨g, 3, none⟩ x3).setCell ⟨g, 4, none⟩ x4).cell? ⟨g, 2, none⟩ = some x2 ∧ (((((w.setCell ⟨g, 0, none⟩ x0).setCell ⟨g, 1, none⟩ x1).setCell ⟨g, 2, none⟩ x2).setCell ⟨g, 3, none⟩ x3).setCell ⟨g, 4, none⟩ x4).cell? ⟨g, 3, none⟩ = some x3 ∧ (((((w.setCell ⟨g, 0, none⟩ x0).setCell ⟨g, 1, none⟩ x1).setCell ⟨g, 2, none⟩ x2).setCell ⟨g, 3, none⟩ x3).setCell ⟨g, 4, none⟩ x4).cell? ⟨g, 4, none⟩ = some x4 := by
  have h1 : Blk (w.setCell ⟨g, 0, none⟩ x0) g #[x0, a1, a2, a3, a4] t := h.set 0 x0
  have h2 : Blk ((w.setCell ⟨g, 0, none⟩ x0).setCell ⟨g, 1, none⟩ x1) g #[x0, x1, a2, a3, a4] t := h1.set 1 x1
  have h3 : Blk (((w.setCell ⟨g, 0, none⟩ x0).setCell ⟨g, 1, none⟩ x1).setCell ⟨g, 2, none⟩ x2) g #[x0, x1, x2, a3, a4] t := h2.set 2 x2
  have h4 : Blk ((((w.setCell ⟨g, 0, none⟩ x0).setCell ⟨g, 1, none⟩ x1).setCell ⟨g, 2, none⟩ x2).setCell ⟨g, 3, none⟩ x3) g #[x0, x1, x2, x3, a4] t := h3.set 3 x3
  have h5 : Blk (((((w.setCell ⟨g, 0, none⟩ x0).setCell ⟨g, 1, none⟩ x1).setCell ⟨g, 2, none⟩ x2).setCell ⟨g, 3, none⟩ x3).setCell ⟨g, 4, none⟩ x4) g #[x0, x1, x2, x3, x4] t := h4.set 4 x4
  exact ⟨⟨h.cell 0 _ rfl, h.free 0⟩, ⟨h1.cell 1 _ rfl, h1.free 1⟩, ⟨h2.cell 2 _ rfl, h2.free 2⟩, ⟨h3.cell 3 _ rfl, h3.free 3⟩, ⟨h4.cell 4 _ rfl, h4.free 4⟩, h5.cell 0 _ rfl, h5.cell 1 _ rfl, h5.cell 2 _ rfl, h5.cell 3 _ rfl, h5.cell 4 _ rfl⟩
theorem blkW5 {w : World} {g : Nat} {a0 a1 a2 a3 a4 x0 x1 x2 x3 x4 : Value} {t : TypeId} (h : Blk w g #[a0, a1, a2, a3, a4] t) : Blk (((((w.setCell ⟨g, 0, none⟩ x0).setCell ⟨g, 1, none⟩ x1).setCell ⟨g, 2, none⟩ x2).setCell ⟨g, 3, none⟩ x3).setCell ⟨g, 4, none⟩ x4) g #[x0, x1, x2, x3, x4] t := by
  have h1 : Blk (w.setCell ⟨g, 0, none⟩ x0) g #[x0, a1, a2, a3, a4] t := h.set 0 x0
  have h2 : Blk ((w.setCell ⟨g, 0, none⟩ x0).setCell ⟨g, 1, none⟩ x1) g #[x0, x1, a2, a3, a4] t := h1.set 1 x1
  have h3 : Blk (((w.setCell ⟨g, 0, none⟩ x0).setCell ⟨g, 1, none⟩ x1).setCell ⟨g, 2, none⟩ x2) g #[x0, x1, x2, a3, a4] t := h2.set 2 x2
  have h4 : Blk ((((w.setCell ⟨g, 0, none⟩ x0).setCell ⟨g, 1, none⟩ x1).setCell ⟨g, 2, none⟩ x2).setCell ⟨g, 3, none⟩ x3) g #[x0, x1, x2, x3, a4] t := h3.set 3 x3
  have h5 : Blk (((((w.setCell ⟨g, 0, none⟩ x0).setCell ⟨g, 1, none⟩ x1).setCell ⟨g, 2, none⟩ x2).setCell ⟨g, 3, none⟩ x3).setCell ⟨g, 4, none⟩ x4) g #[x0, x1, x2, x3, x4] t := h4.set 4 x4
  exact h5
theorem belowW5 {w w' : World} {B g : Nat} (h : Below B w w') (hg : B ≤ g) (x0 x1 x2 x3 x4 : Value) : Below B w (((((w'.setCell ⟨g, 0, none⟩ x0).setCell ⟨g, 1, none⟩ x1).setCell ⟨g, 2, none⟩ x2).setCell ⟨g, 3, none⟩ x3).setCell ⟨g, 4, none⟩ x4) := (((((h.setCell hg _).setCell hg _).setCell hg _).setCell hg _).setCell hg _)
theorem ownsW5 {w : World} {bs g sz : Nat} {e : TypeId} {u : Value} {r : List (List Value)} (h : Owns w bs e sz u r) (hl : g < bs) (x0 x1 x2 x3 x4 : Value) : Owns (((((w.setCell ⟨g, 0, none⟩ x0).setCell ⟨g, 1, none⟩ x1).setCell ⟨g, 2, none⟩ x2).setCell ⟨g, 3, none⟩ x3).setCell ⟨g, 4, none⟩ x4) bs e sz u r := (((((h.lowM hl).lowM hl).lowM hl).lowM hl).lowM hl)
set_option maxHeartbeats 1000000 in
theorem lastS (ci cp ct cv cr cd cb cbt : Int) (cc : Int) (A0 : Option Addr) (n0 c0 : Nat) (u1 u2 u3 : Value) (w : World) (h0 : 0 ≤ cb) (h1 : cb ≤ 200000) (hn : n0 ≤ 1048576) : Calls Try.prog 42 #[.agg #[.int .i64 ci, .int .i64 cp, .int .i64 ct, .int .i64 cv, .int .i64 cr, .int .i64 cd, .int .i64 cb, .int .i64 cbt, .slice A0 n0 c0, .int .i64 cc, u1, u2, u3]] w fun e w' => e = .returned (.int .i64 (cb + (n0 : Int))) ∧ Below w.heap.size w w' := by
  have w1 : IntKind.i64.wrap (cb + (n0 : Int)) = cb + (n0 : Int) := by rw [IntKind.wrap_i64]; omega
  have q : (n0 : Int) ≤ 1048576 := by omega
  go_enter Try.func42, Try.ntmps42
  go_wp2
  go_ret
  exact ⟨rfl, (Below.refl _ _).alloc (Nat.le_refl _) _⟩
set_option maxHeartbeats 2000000 in
theorem hasS (l : List Int) (v : Value) (x : Int) (w : World) (B : Nat) (hv : NumsV w B v l) (hn : l.length ≤ 1048576) : Calls Try.prog 43 #[v, .int .i64 x] w fun e w' => e = .returned (.bool (decide (x ∈ l))) ∧ w = w' := by
  obtain ⟨A, cap, rfl, _, _, hc⟩ := hv
  have HC : Hid (∀ j, j < l.length → ∃ g off, A = some ⟨g, off, none⟩ ∧ g < B ∧ w.cell? ⟨g, off + j, none⟩ = some (.int .i64 (l.getD j 0))) := hc
  have HMem : Hid (∀ j, j < l.length → l.getD j 0 ∈ l) := fun j hj => by rw [List.getD_eq_getElem?_getD, List.getElem?_eq_getElem hj]; exact List.getElem_mem hj
  have HAll : Hid ((∀ j, j < l.length → l.getD j 0 ≠ x) → x ∉ l) := fun h hm => by
    obtain ⟨j, hj, e⟩ := List.getElem_of_mem hm
    exact h j hj (by rw [List.getD_eq_getElem?_getD, List.getElem?_eq_getElem hj]; exact e)
  have q1 : (l.length : Int) ≤ 1048576 := by omega
  have HD : Hid (∀ b, (x ∈ l ↔ b = true) → decide (x ∈ l) = b) := fun b h => by cases b <;> simp_all
  clear hc
  generalize hN : l.length = n at *
  clear hN
  generalize decide (x ∈ l) = dd at *
  go_enter Try.func43, Try.ntmps43
  go_wp2_with fail
  go_loopw [5] (fun v5 wr => ∃ k : Nat, k ≤ n ∧ v5 = .int .i64 (k : Int) ∧ w = wr ∧ Hid (∀ j, j < k → l.getD j 0 ≠ x)) (fun v _ => n - (intOf v).toNat)
  case atStart => exact ⟨0, by omega, rfl, rfl, fun j hj => by omega⟩
  case round =>
    obtain ⟨k, hk, rfl, rfl, HR⟩ := hrel
    by_cases hlt : k < n
    · have q2 : (k : Int) < (n : Int) := by omega
      obtain ⟨g, off, rfl, hg, d0⟩ := HC.out k hlt
      have HM : Hid (l.getD k 0 ∈ l) := HMem.out k hlt
      have HNx : Hid (∀ j, j < k + 1 → j = k ∨ l.getD j 0 ≠ x) := fun j hj => by
        by_cases h : j = k
        · exact .inl h
        · exact .inr (HR.out j (by omega))
      generalize hy : l.getD k 0 = y at *
      by_cases he : y = x
      · subst he
        have HT : Hid (dd = true) := HD.out true ⟨fun _ => rfl, fun _ => HM.out⟩
        go_wp2_with fail
        go_ret
        exact ⟨by rw [HT.out]; rfl, rfl⟩
      · have e1 : (y == x) = false := beq_eq_false_iff_ne.2 he
        have HNy : Hid (¬ y = x) := he
        have HY : Hid (l.getD k 0 = y) := hy
        clear hy he
        go_wp2_with fail
        go_roundw
        case rel => exact ⟨k + 1, by omega, by go_num, by trivial, fun j hj => (HNx.out j hj).elim (fun h => by rw [h, HY.out]; exact HNy.out) id⟩
        case measure => simp [intOf]; omega
    · obtain rfl : k = n := by omega
      have HF : Hid (dd = false) := HD.out false ⟨fun h => absurd h (HAll.out HR.out), fun h => by cases h⟩
      go_wp2_with fail
      go_ret
      exact ⟨by rw [HF.out]; rfl, rfl⟩
set_option maxRecDepth 20000 in
set_option maxHeartbeats 4000000 in
theorem walS (ci cp ct cv cr cd cb cbt : Int) (lg : List Ent) (cc : Int) (A0 : Option Addr) (n0 c0 : Nat) (u1 u2 u3 : Value) (w : World) (B : Nat) (hv : Lies w B 2 (.slice A0 n0 c0) (entR lg)) (hn : lg.length ≤ 1048576) (hB : B ≤ w.heap.size) : Calls Try.prog 41 #[.agg #[.int .i64 ci, .int .i64 cp, .int .i64 ct, .int .i64 cv, .int .i64 cr, .int .i64 cd, .int .i64 cb, .int .i64 cbt, .slice A0 n0 c0, .int .i64 cc, u1, u2, u3]] w fun e w' => (∃ u, e = .returned (.agg #[.int .i64 ct, .int .i64 cv, .int .i64 cb, .int .i64 cbt, u]) ∧ Owns w' w.heap.size 88 2 u (entR lg)) ∧ Below w.heap.size w w' := by
  have HV : Hid (Lies w B 2 (.slice A0 n0 c0) (entR lg)) := hv
  have HBB : Hid (B ≤ w.heap.size) := hB
  have HLn : Hid ((entR ([] : List Ent)).length + (entR lg).length ≤ 2097152) := by unfold Hid; rw [entR_length, entR_length]; simp only [List.length_nil]; omega
  clear hv hB hn
  obtain ⟨X0, hX0⟩ : ∃ X0, X0 = (w.alloc (.cells #[.int .i64 ci, .int .i64 cp, .int .i64 ct, .int .i64 cv, .int .i64 cr, .int .i64 cd, .int .i64 cb, .int .i64 cbt, .slice A0 n0 c0, .int .i64 cc, u1, u2, u3] 30)).alloc (.cells #[.int .i64 0, .int .i64 0, .int .i64 0, .int .i64 0, .slice none 0 0] 35) := ⟨_, rfl⟩
  have B0 : Hid (Below w.heap.size w X0) := by unfold Hid; rw [hX0]; exact ((Below.refl _ w).alloc (Nat.le_refl _) _).alloc (by simp) _
  have K0 : Hid (Blk X0 w.heap.size #[.int .i64 ci, .int .i64 cp, .int .i64 ct, .int .i64 cv, .int .i64 cr, .int .i64 cd, .int .i64 cb, .int .i64 cbt, .slice A0 n0 c0, .int .i64 cc, u1, u2, u3] 30) := by unfold Hid; rw [hX0]; exact (Blk.new w _ _).alloc _
  have R0 : Hid (Blk X0 (w.heap.size + 1) #[.int .i64 0, .int .i64 0, .int .i64 0, .int .i64 0, .slice none 0 0] 35) := by unfold Hid; rw [hX0]; have := Blk.new (w.alloc (.cells #[.int .i64 ci, .int .i64 cp, .int .i64 ct, .int .i64 cv, .int .i64 cr, .int .i64 cd, .int .i64 cb, .int .i64 cbt, .slice A0 n0 c0, .int .i64 cc, u1, u2, u3] 30)) #[.int .i64 0, .int .i64 0, .int .i64 0, .int .i64 0, .slice none 0 0] 35; simp only [World.size_alloc] at this; exact this
  have HZ : Hid (X0.heap.size = w.heap.size + 2) := by unfold Hid; rw [hX0]; simp
  go_enter Try.func41, Try.ntmps41
  go_wp2_with fail
  rw [← hX0]
  clear hX0
  refine wp_region_until (fun w' => w'.cell? ⟨w.heap.size, 0, none⟩ = some (.int .i64 ci) ∧ w'.cell? ⟨w.heap.size, 1, none⟩ = some (.int .i64 cp) ∧ w'.cell? ⟨w.heap.size, 2, none⟩ = some (.int .i64 ct) ∧ w'.cell? ⟨w.heap.size, 3, none⟩ = some (.int .i64 cv) ∧ w'.cell? ⟨w.heap.size, 4, none⟩ = some (.int .i64 cr) ∧ w'.cell? ⟨w.heap.size, 5, none⟩ = some (.int .i64 cd) ∧ w'.cell? ⟨w.heap.size, 6, none⟩ = some (.int .i64 cb) ∧ w'.cell? ⟨w.heap.size, 7, none⟩ = some (.int .i64 cbt) ∧ w'.cell? ⟨w.heap.size, 8, none⟩ = some (.slice A0 n0 c0) ∧ w'.cell? ⟨w.heap.size, 9, none⟩ = some (.int .i64 cc) ∧ w'.cell? ⟨w.heap.size, 10, none⟩ = some (u1) ∧ w'.cell? ⟨w.heap.size, 11, none⟩ = some (u2) ∧ w'.cell? ⟨w.heap.size, 12, none⟩ = some (u3)) (fun i => i == 13) 14 (by rfl) (by kernel_rfl) ?_
  have V0 : Hid (Below X0.heap.size X0 X0.drew) := (Below.refl _ _).drew
  generalize X0.drew = Y0 at *
  have SS0 := Hid.mk (cellsC13 (K0.out.on V0.out K0.out.lt))
  refine tF 0 SS0.out ?_
  refine tF 1 SS0.out ?_
  refine tF 2 SS0.out ?_
  refine tF 3 SS0.out ?_
  refine tF 4 SS0.out ?_
  refine tF 5 SS0.out ?_
  refine tF 6 SS0.out ?_
  refine tF 7 SS0.out ?_
  refine tF 9 SS0.out ?_
  refine tF 10 SS0.out ?_
  refine until_one 8 (by rfl) (by kernel_rfl) (fun K hK => ?_)
  go_simp
  have ob := Owns.empty Y0 X0.heap.size 88 2 V0.out.size
  have bz : Below Y0.heap.size Y0 (Y0.alloc (.cells #[] 88)) := (Below.refl _ _).alloc (Nat.le_refl _) _
  generalize Y0.alloc (.cells #[] 88) = Y1 at *
  have V1 : Hid (Below X0.heap.size X0 Y1) := V0.out.trans (bz.mono V0.out.size)
  have OB1 : Hid (Owns Y1 X0.heap.size 88 2 (.slice (some ⟨Y0.heap.size, 0, none⟩) 0 0) (entR [])) := ob
  clear ob bz
  refine hK.out _ _ (fun _ _ => cellsC13 (K0.out.on V1.out K0.out.lt)) ?_
  clear hK K
  try simp only [Act.put, List.setIfInBounds_toArray, List.set_cons_zero, List.set_cons_succ]
  refine until_one 11 (by rfl) (by kernel_rfl) (fun K hK => ?_)
  obtain ⟨Ap, mp, kp, Y2, hr, hOp, hbp, hkp⟩ := run_append_allC (P := Try.prog) Y1 28 28 88 (.agg #[.int .i64 0, .string ⟨#[]⟩]) 2 24 Try.underlying28 Try.infoEnt rfl (by omega) X0.heap.size _ _ (entR []) (entR lg) Y1.heap.size OB1.out ((HV.out.on ((B0.out.trans (V1.out.mono B0.out.size)).mono HBB.out)).mono (Nat.le_trans HBB.out (B0.out.trans (V1.out.mono B0.out.size)).size)) (ent_one _) HLn.out (by omega) V1.out.size
  refine step_append_run (by rfl) (.tmp 11) (.tmp 13) 28 (by rfl) _ _ _ _ (by rfl) (by rfl) hr ?_
  have V2 : Hid (Below X0.heap.size X0 Y2) := V1.out.trans hbp
  have OA2 : Hid (Owns Y2 X0.heap.size 88 2 (.slice Ap mp kp) (entR lg)) := hOp
  clear hr hOp hbp hkp
  refine hK.out _ _ (fun _ _ => cellsC13 (K0.out.on V2.out K0.out.lt)) ?_
  clear hK K
  try simp only [Act.put, List.setIfInBounds_toArray, List.set_cons_zero, List.set_cons_succ]
  refine pF 12 ?_
  have RY := Hid.mk (R0.out.on V2.out R0.out.lt)
  have BY : Hid (Below w.heap.size w Y2) := B0.out.trans (V2.out.mono B0.out.size)
  refine until_one 13 (by rfl) (by kernel_rfl) (fun K hK => ?_)
  obtain ⟨⟨r0, g0⟩, ⟨r1, g1⟩, ⟨r2, g2⟩, ⟨r3, g3⟩, ⟨r4, g4⟩, z0, z1, z2, z3, z4⟩ := resW5 (x0 := .int .i64 ct) (x1 := .int .i64 cv) (x2 := .int .i64 cb) (x3 := .int .i64 cbt) (x4 := .slice Ap mp kp) RY.out
  go_simp
  refine hK.out _ _ (fun h => by cases h) ?_
  clear hK K r0 g0 r1 g1 r2 g2 r3 g3 r4 g4
  try simp only [Act.put, List.setIfInBounds_toArray, List.set_cons_zero, List.set_cons_succ]
  refine until_done (by kernel_rfl) ?_ _
  have FO := Hid.mk (ownsW5 OA2.out (show w.heap.size + 1 < X0.heap.size by rw [HZ.out]; omega) (.int .i64 ct) (.int .i64 cv) (.int .i64 cb) (.int .i64 cbt) (.slice Ap mp kp))
  have FB := Hid.mk (belowW5 BY.out (show w.heap.size ≤ w.heap.size + 1 by omega) (.int .i64 ct) (.int .i64 cv) (.int .i64 cb) (.int .i64 cbt) (.slice Ap mp kp))
  have HX : Hid (w.heap.size ≤ X0.heap.size) := B0.out.size
  try go_wp2_with fail
  exact bodyPost_ret (v := .agg #[.int .i64 ct, .int .i64 cv, .int .i64 cb, .int .i64 cbt, .slice Ap mp kp]) (by simp [results, go_sem, z0, z1, z2, z3, z4]) rfl ⟨⟨_, rfl, FO.out.mono HX.out⟩, FB.out⟩
end Go.Proofs.Ytjejcpieajeflaa
