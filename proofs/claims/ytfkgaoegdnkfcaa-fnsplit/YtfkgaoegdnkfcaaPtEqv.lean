/-
  '==' on two points (no condition), and the cut of a slice of points behind its first ones.
-/
import Derived.Test.YtfkgaoegdnkfcaaRows
import Derived.Test.YtfkgaoegdnkfcaaPtLaw
import Derived.Laws.StructEq
import Derived.Handy
namespace Go.Proofs.Ytfkgaoegdnkfcaa
open Go.ChangeShapes Go.WideShapes Go.ChangeAt Go.RowKit Go.PlainAid
set_option linter.unusedVariables false

theorem elem_pts : Try.prog.elem 24 = 33 := by kernel_rfl
theorem fields_names : (Try.prog.fieldsOf 33).toList.map (fun f => (f.name, f.type, f.offset)) = [("T", 3, 0), ("V", 3, 1)] := by kernel_rfl
theorem fields_pt : ∃ f g : Field, (Try.prog.fieldsOf 33).toList = [f, g] ∧ f.name = "T" ∧ g.name = "V" ∧ f.type = 3 ∧ g.type = 3 ∧ f.offset = 0 ∧ g.offset = 1 := by
  have h := fields_names
  generalize (Try.prog.fieldsOf 33).toList = l at *
  have hl : l.length = 2 := by simpa using congrArg List.length h
  match l, hl with
  | [f, g], _ =>
    simp at h
    exact ⟨f, g, rfl, h.1.1, h.2.1, h.1.2.1, h.2.2.1, h.1.2.2, h.2.2.2⟩
theorem held_pt : Try.prog.stoodInHeld 33 = false := by kernel_rfl
theorem struct_pt : Try.prog.underlying 33 = some (.struct (Try.prog.fieldsOf 33)) := by kernel_rfl
theorem size_pt : (Try.prog.info? 33).map (·.size) = some 2 := by kernel_rfl
theorem size_int : (Try.prog.info? 3).map (·.size) = some 1 := by kernel_rfl

theorem eq_pt (a b c d : Int) (w : World) : (Op.equalIn 10000 33 (.agg #[.int .i64 a, .int .i64 b]) (.agg #[.int .i64 c, .int .i64 d])).run Try.prog w = .ok (decide (a = c) && decide (b = d)) w := by
  rw [show (10000 : Nat) = 9999 + 1 from rfl, run_equalIn_struct w 9999 33 _ _ struct_pt held_pt]
  obtain ⟨f, g, e, n1, n2, t1, t2, o1, o2⟩ := fields_pt
  rw [e]
  have hi := size_int
  cases hq : Try.prog.info? 3 with
  | none => rw [hq] at hi; simp at hi
  | some i =>
    rw [hq] at hi
    have hi' : i.size = 1 := by simpa using hi
    simp [Op.eqFields, n1, n2, t1, t2, o1, o2, part, isAgg, run_underlying Try.underlying3, sizeOf, typeInfo, hq, hi', run_equalIn_int (P := Try.prog) w 9998 3 .i64 .i64 _ _ Try.underlying3]
    by_cases h1 : a = c <;> by_cases h2 : b = d <;> simp [h1, h2]

set_option maxRecDepth 100000 in
/-- 's[k:]' of a slice of points. -/
theorem cut_from {w : World} {B n c : Nat} {A : Option Addr} {rows : List (List Value)} (h : Lies w B 2 (.slice A n c) rows) (k : Nat) (hk : k ≤ rows.length) : ∃ A' c', (∀ wx, (Instr.sliceAt 24 (.slice A n c) (some (.int .i64 (k : Int))) none none).run Try.prog wx = .ok (.slice A' (n - k) c') wx) ∧ Lies w B 2 (.slice A' (n - k) c') (rows.drop k) ∧ (c ≠ k → A' = A.map (·.add (k * 2))) := by
  have hr := h.room
  have hu : Try.prog.underlying 24 = some (.slice (Try.prog.elem 24)) := by rw [elem_pts]; exact Try.underlying24
  have hz := size_pt
  cases hq : Try.prog.info? 33 with
  | none => rw [hq] at hz; simp at hz
  | some i =>
    rw [hq] at hz
    have hi : i.size = 2 := by simpa using hz
    have hrun : ∀ wx, (Instr.sliceAt 24 (.slice A n c) (some (.int .i64 (k : Int))) none none).run Try.prog wx = .ok (.slice (if c = k then A else A.map (·.add (k * 2))) (n - k) (c - k)) wx := fun wx => by
      rw [run_sliceAt_slice wx 24 _ _ _ _ hu, run_slice_l wx 24 A n c hu .i64 (k : Int) (by omega) (by omega), elem_pts]
      simp [sizeOf, typeInfo, hq, hi, sliced]
    refine ⟨_, _, hrun, ?_, fun hne => if_neg hne⟩
    by_cases hck : c = k
    · rw [if_pos hck]
      have h0 : rows.drop k = [] := List.drop_eq_nil_of_le (by omega)
      rw [h0]
      refine ⟨A, c - k, by simp; omega, ⟨fun e => by omega, by simp⟩, fun r hr => (by cases hr), .inl rfl⟩
    · rw [if_neg hck]
      match A, h with
      | none, h =>
        obtain ⟨A', c', e, hz, hs, hh⟩ := h
        cases e
        have := hz.1 rfl
        rcases hh with hh | ⟨g, off, e, _⟩
        · have hk0 : k = 0 := by omega
          subst hk0
          simp only [Option.map_none, List.drop_zero, Nat.sub_zero]
          exact ⟨none, c, rfl, hz, hs, .inl hh⟩
        · cases e
      | some ad, h =>
        obtain ⟨b, off, spot⟩ := ad
        by_cases hl0 : rows.length = k
        · have h0 : rows.drop k = [] := List.drop_eq_nil_of_le (by omega)
          rw [h0]
          refine ⟨_, c - k, by rw [show n - k = 0 by omega]; rfl, ⟨fun e => (by cases e), by simp⟩, fun r hr => (by cases hr), .inl rfl⟩
        · have hspot : spot = none := by
            obtain ⟨A', c', e, hz, hs, hh⟩ := h
            cases e
            rcases hh with hh | ⟨g, off, e, _⟩
            · omega
            · cases e; rfl
          subst hspot
          have e1 : (⟨b, off, none⟩ : Addr).add (k * 2) = ⟨b, off + k * 2, none⟩ := by
            generalize k * 2 = j
            cases j <;> simp [Addr.add]
          have := h.behind k hk
          simp only [Option.map_some, e1]
          exact this
/-- 's[:k]' of a slice of points. -/
theorem cut_to (A : Option Addr) (n c k : Nat) (hk : k ≤ c) (wx : World) : (Instr.sliceAt 24 (.slice A n c) none (some (.int .i64 (k : Int))) none).run Try.prog wx = .ok (.slice A k c) wx := by
  have hu : Try.prog.underlying 24 = some (.slice (Try.prog.elem 24)) := by rw [elem_pts]; exact Try.underlying24
  have hz := size_pt
  cases hq : Try.prog.info? 33 with
  | none => rw [hq] at hz; simp at hz
  | some i =>
    rw [run_sliceAt_slice wx 24 _ _ _ _ hu, run_slice_h wx 24 A n c hu .i64 (k : Int) (by omega) (by omega), elem_pts]
    have e : A.map (·.add (0 * i.size)) = A := by
      cases A <;> simp [Addr.add]
    simp [sizeOf, typeInfo, hq, sliced]
    intro _
    simpa using e
/-- What is there stays when something is laid anew. -/
theorem cell_alloc_keep {w : World} {p : Addr} {x : Value} (h : w.cell? p = some x) (o : Obj) : (w.alloc o).cell? p = some x := by
  rw [((Below.refl w.heap.size w).alloc (Nat.le_refl _) o).cell (World.block_lt_of_cell? _ _ h)]
  exact h
/-- How long a slice is. -/
def sliceLen : Value → Nat
  | .slice _ n _ => n
  | _ => 0
end Go.Proofs.Ytfkgaoegdnkfcaa
