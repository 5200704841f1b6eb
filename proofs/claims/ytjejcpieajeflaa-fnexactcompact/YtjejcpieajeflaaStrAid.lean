/-
  Slices of texts of the call's own: what they hold, that they hold it on, that one is appended to or written into; the texts by which the laws mark what they were answered (no program in sight, no condition).
-/
import Derived.Test.YtjejcpieajeflaaAid
import Derived.WalkKit
import Derived.ProofKit
import Derived.Laws.OwnMore
import Derived.Below
import Derived.OwnWalk
import Derived.WalkSmall
namespace Go.Proofs.Ytjejcpieajeflaa
open Go.RowKit Go.PlainAid

/-- The cells of a list of texts. -/
def strCells (l : List ByteArray) : List Value := l.map Value.string
/-- The slice v is the call's own (its block is base or behind it), of texts, and holds l. -/
def Strs (w : World) (base : Nat) (v : Value) (l : List ByteArray) : Prop := w.ownsRow base 9 1 v l.length (strCells l)
theorem Strs.nil (w : World) (base : Nat) : Strs w base (.slice none 0 0) [] := World.ownsRow_nil w base 9 1
theorem Strs.empty (w : World) (base : Nat) (hb : base ≤ w.heap.size) : Strs (w.alloc (.cells #[] 9)) base (.slice (some ⟨w.heap.size, 0, none⟩) 0 0) [] :=
  World.ownsRow_lit w #[] 0 hb (by unfold maxLen; omega) rfl
theorem Strs.mono {w : World} {base base' : Nat} {v : Value} {l : List ByteArray} (h : Strs w base v l) (hb : base' ≤ base) : Strs w base' v l :=
  ⟨h.1, h.2.imp id fun ⟨g, cap, cur, e, hg, r⟩ => ⟨g, cap, cur, e, Nat.le_trans hb hg, r⟩⟩
/-- It holds on where its block is as it was. -/
theorem Strs.kept {w w' : World} {base : Nat} {v : Value} {l : List ByteArray} (h : Strs w base v l) (hk : ∀ g, g < w.heap.size → v.ownBlock = some g → w'.heap[g]? = w.heap[g]?) : Strs w' base v l := by
  have hl := World.ownsRow.lt h
  refine ⟨h.1, h.2.imp id ?_⟩
  rintro ⟨g, cap, cur, rfl, hg, hh, r⟩
  refine ⟨g, cap, cur, rfl, hg, ?_, r⟩
  rw [hk g (hl g rfl).2 rfl]
  exact hh
theorem Strs.on {w w' : World} {base : Nat} {v : Value} {l : List ByteArray} (h : Strs w base v l) (hb : Below w.heap.size w w') : Strs w' base v l := h.kept fun g hg _ => hb.block g hg
/-- .. where all that was written since lies behind another world's end. -/
theorem Strs.under {w w' : World} {base B : Nat} {v : Value} {l : List ByteArray} (h : Strs w base v l) (hB : w.heap.size ≤ B) (hb : Below B w w') : Strs w' base v l := h.kept fun g hg _ => hb.block g (Nat.lt_of_lt_of_le hg hB)
theorem Strs.alloc {w : World} {base : Nat} {v : Value} {l : List ByteArray} (h : Strs w base v l) (o : Obj) : Strs (w.alloc o) base v l := World.ownsRow.alloc h o
/-- What such a value is. -/
theorem Strs.form {w : World} {base : Nat} {v : Value} {l : List ByteArray} (h : Strs w base v l) : (v = .slice none 0 0 ∧ l = []) ∨ ∃ g cap, v = .slice (some ⟨g, 0, none⟩) l.length cap ∧ base ≤ g ∧ g < w.heap.size := by
  have hl := World.ownsRow.lt h
  rcases h.2 with ⟨rfl, h0⟩ | ⟨g, cap, cur, rfl, hg, _⟩
  · exact .inl ⟨rfl, List.eq_nil_of_length_eq_zero h0⟩
  · exact .inr ⟨g, cap, rfl, hg, (hl g rfl).2⟩
theorem Strs.cell {w : World} {base g cap : Nat} {l : List ByteArray} (h : Strs w base (.slice (some ⟨g, 0, none⟩) l.length cap) l) (j : Nat) (hj : j < l.length) : w.cell? ⟨g, j, none⟩ = some (.string l[j]) := by
  rw [World.ownsRow.cellAt h j (by omega)]
  simp [strCells, hj]
theorem Strs.frozen {w : World} {base g cap : Nat} {l : List ByteArray} (h : Strs w base (.slice (some ⟨g, 0, none⟩) l.length cap) l) (j : Nat) : w.frozen? ⟨g, j, none⟩ = false := World.ownsRow.frozenAt h j
theorem Strs.stored {w : World} {base g cap : Nat} {l : List ByteArray} (h : Strs w base (.slice (some ⟨g, 0, none⟩) l.length cap) l) (j : Nat) (x : ByteArray) :
    Strs (w.setCell ⟨g, j, none⟩ (.string x)) base (.slice (some ⟨g, 0, none⟩) l.length cap) (l.set j x) := by
  have hs := (World.ownsRow.stored h j (.string x)).1
  unfold Strs
  rw [List.length_set, strCells, List.map_set]
  exact hs

/-- 'append(out, x)', x lying in a new block. -/
theorem wpList_append_str {P : Program} {w : World} {ops : Array Oper} {rest : List Oper} {o : Oper} {a : Act} {Q : Exit → Act → World → Prop} (hgd : o.guard = none) (s x : Operand) (t : TypeId)
    (ho : o.op = .call { callee := .builtin .append, args := #[s, x], argTypes := #[t, t] })
    (ht : P.underlying t = some (.slice 9)) (hinfo : (P.info? 9).map (fun i => (i.zero, i.size, i.bytes)) = some (some (.string ⟨#[]⟩), 1, 16))
    (base : Nat) (v : Value) (l : List ByteArray) (hs : a.eval s = v) (hown : Strs w base v l) (b : ByteArray)
    (hx : a.eval x = .slice (some ⟨w.heap.size, 0, none⟩) 1 1) (hlen : l.length ≤ 2097152) (hbase : base ≤ w.heap.size)
    (h : ∀ v' w', Strs w' base v' (l ++ [b]) → Below base w w' → wpList P ops Q rest (a.put o.dst v') w') : wpList P ops Q (o :: rest) a (w.alloc (.cells #[.string b] 9)) := by
  obtain ⟨i0, hi, hz0, hz1, hz2⟩ := info_parts hinfo
  refine wpList_append_own (w := w.alloc (.cells #[.string b] 9)) hgd s x t ho base 9 i0 (.string ⟨#[]⟩) 1 16 ht hi hz0 hz1 hz2 rfl (by decide) v l.length (strCells l) hs (hown.alloc _) ⟨w.heap.size, 0, none⟩ 1 1 [.string b] hx rfl ?_ ?_ ?_ ?_ ?_ ?_
  · intro j u hj
    have e : (⟨w.heap.size, 0, none⟩ : Addr).add j = ⟨w.heap.size, j, none⟩ := by cases j <;> simp [Addr.add]
    rw [e, World.cell?_alloc_mark]
    simpa using hj
  · intro u hu
    simp at hu
    subst hu
    rfl
  · unfold maxLen; omega
  · omega
  · simp; omega
  · intro v' w' h1 h2 _
    have hb0 : ∀ k, v.ownBlock = some k → base ≤ k := fun k hk => (World.ownsRow.lt hown k hk).1
    refine h v' w' ?_ ?_
    · unfold Strs
      rw [List.length_append, strCells, List.map_append]
      exact h1
    · exact ((Below.refl base w).alloc hbase _).grown h2 (by simp; omega) hb0

/-! ### Marks -/
/-- The digits of a number, with fuel. -/
def dg : Nat → Nat → List UInt8
  | 0, _ => []
  | f + 1, n => if n = 0 then [] else dg f (n / 10) ++ [byt (48 + n % 10)]
theorem dg_zero (f : Nat) : dg f 0 = [] := by
  cases f with
  | zero => rfl
  | succ f => rw [dg, if_pos rfl]
theorem dg_length (f n : Nat) : (dg f n).length ≤ f := by
  induction f generalizing n with
  | zero => simp [dg]
  | succ f ih =>
    rw [dg]
    split
    · simp
    · have := ih (n / 10)
      simp
      omega
/-- The text that marks number k. -/
def mark (k : Nat) : ByteArray := txt (109 :: dg 20 k)
/-- n marks from k on. -/
def marks (k : Nat) : Nat → List ByteArray
  | 0 => []
  | n + 1 => marks k n ++ [mark (k + n)]
theorem marks_length (k n : Nat) : (marks k n).length = n := by
  induction n with
  | zero => rfl
  | succ n ih => rw [marks, List.length_append, ih]; rfl
theorem marks_succ (k n : Nat) : marks k (n + 1) = marks k n ++ [mark (k + n)] := by rw [marks]
theorem marks_get (k n : Nat) : ∀ j (h : j < (marks k n).length), (marks k n)[j] = mark (k + j) := by
  induction n with
  | zero => intro j h; simp [marks] at h
  | succ n ih =>
    intro j h
    simp only [marks]
    rw [List.getElem_append]
    split
    · rename_i h'
      exact ih j h'
    · rename_i h'
      rw [marks_length] at h'
      rw [marks_length] at h
      have : j = n := by omega
      subst this
      simp [marks_length]
/-- The list behind j of its places marked. -/
def marked (k : Nat) (l : List ByteArray) (j : Nat) : List ByteArray := marks k j ++ l.drop j
theorem marked_zero (k : Nat) (l : List ByteArray) : marked k l 0 = l := by simp [marked, marks]
theorem marked_length (k : Nat) (l : List ByteArray) (j : Nat) (h : j ≤ l.length) : (marked k l j).length = l.length := by
  simp [marked, marks_length]
  omega
theorem marked_set (k : Nat) (l : List ByteArray) (j : Nat) (h : j < l.length) : (marked k l j).set j (mark (k + j)) = marked k l (j + 1) := by
  unfold marked
  rw [List.set_append_right _ _ (by rw [marks_length]; omega), marks_length, Nat.sub_self, List.drop_eq_getElem_cons h, List.set_cons_zero, marks_succ]
  simp
theorem marked_all (k : Nat) (l : List ByteArray) : marked k l l.length = marks k l.length := by simp [marked]
end Go.Proofs.Ytjejcpieajeflaa
