/-
  Slices of numbers: of the call's own (Nums), or that lie somewhere (NumsV); what they hold, that they hold it on, that one is appended to or written into (no program in sight, no condition).
-/
import Derived.Test.YtjejcpieajeflaaAid
import Derived.WalkKit
import Derived.ProofKit
import Derived.Laws.OwnMore
import Derived.Below
import Derived.OwnWalk
import Derived.WalkSmall
import Derived.Lib.OwnKind
import Derived.Shelf.Strings.BuilderK
namespace Go.Proofs.Ytjejcpieajeflaa
open Go.RowKit Go.PlainAid

/-- The cells of a list of numbers. -/
def numCells (l : List Int) : List Value := l.map fun z => Value.int .i64 z
/-- The slice v is the call's own (its block is base or behind it), of ints, and holds l. -/
def Nums (w : World) (base : Nat) (v : Value) (l : List Int) : Prop := w.ownsRow base 3 1 v l.length (numCells l)
/-- The slice v holds l, in blocks below B. -/
def NumsV (w : World) (B : Nat) (v : Value) (l : List Int) : Prop :=
  ∃ A cap, v = .slice A l.length cap ∧ l.length ≤ cap ∧ cap ≤ maxLen ∧ ∀ j, j < l.length → ∃ g off, A = some ⟨g, off, none⟩ ∧ g < B ∧ w.cell? ⟨g, off + j, none⟩ = some (.int .i64 (l.getD j 0))
theorem Nums.nil (w : World) (base : Nat) : Nums w base (.slice none 0 0) [] := World.ownsRow_nil w base 3 1
theorem Nums.empty (w : World) (base : Nat) (hb : base ≤ w.heap.size) : Nums (w.alloc (.cells #[] 3)) base (.slice (some ⟨w.heap.size, 0, none⟩) 0 0) [] :=
  World.ownsRow_lit w #[] 0 hb (by unfold maxLen; omega) rfl
theorem Nums.one (w : World) (base : Nat) (z : Int) (hb : base ≤ w.heap.size) : Nums (w.alloc (.cells #[.int .i64 z] 3)) base (.slice (some ⟨w.heap.size, 0, none⟩) 1 1) [z] :=
  World.ownsRow_lit w #[.int .i64 z] 1 hb (by unfold maxLen; omega) rfl
theorem Nums.mono {w : World} {base base' : Nat} {v : Value} {l : List Int} (h : Nums w base v l) (hb : base' ≤ base) : Nums w base' v l :=
  ⟨h.1, h.2.imp id fun ⟨g, cap, cur, e, hg, r⟩ => ⟨g, cap, cur, e, Nat.le_trans hb hg, r⟩⟩
theorem Nums.lt {w : World} {base : Nat} {v : Value} {l : List Int} (h : Nums w base v l) : ∀ k, v.ownBlock = some k → base ≤ k ∧ k < w.heap.size := World.ownsRow.lt h
theorem Nums.kept {w w' : World} {base : Nat} {v : Value} {l : List Int} (h : Nums w base v l) (hk : ∀ g, g < w.heap.size → v.ownBlock = some g → w'.heap[g]? = w.heap[g]?) : Nums w' base v l := by
  have hl := World.ownsRow.lt h
  refine ⟨h.1, h.2.imp id ?_⟩
  rintro ⟨g, cap, cur, rfl, hg, hh, r⟩
  refine ⟨g, cap, cur, rfl, hg, ?_, r⟩
  rw [hk g (hl g rfl).2 rfl]
  exact hh
theorem Nums.on {w w' : World} {base : Nat} {v : Value} {l : List Int} (h : Nums w base v l) (hb : Below w.heap.size w w') : Nums w' base v l := h.kept fun g hg _ => hb.block g hg
theorem Nums.under {w w' : World} {base B : Nat} {v : Value} {l : List Int} (h : Nums w base v l) (hB : w.heap.size ≤ B) (hb : Below B w w') : Nums w' base v l := h.kept fun g hg _ => hb.block g (Nat.lt_of_lt_of_le hg hB)
theorem Nums.heap {w w' : World} {base : Nat} {v : Value} {l : List Int} (h : Nums w base v l) (hh : w'.heap = w.heap) : Nums w' base v l := h.kept fun g _ _ => by rw [hh]
theorem Nums.alloc {w : World} {base : Nat} {v : Value} {l : List Int} (h : Nums w base v l) (o : Obj) : Nums (w.alloc o) base v l := World.ownsRow.alloc h o
theorem Nums.other {w : World} {base : Nat} {v : Value} {l : List Int} (h : Nums w base v l) {g : Nat} (hne : v.ownBlock ≠ some g) (i : Nat) (x : Value) : Nums (w.setCell ⟨g, i, none⟩ x) base v l :=
  h.kept fun k _ hk => Below.heap_setCell _ _ _ _ (fun e => hne (by rw [hk]; exact congrArg some e))
theorem Nums.others {w w' : World} {base b : Nat} {v : Value} {l : List Int} (h : Nums w base v l) (hk : Lib.OthersKept 5 (some b) w w') (hb : v.ownBlock ≠ some b) : Nums w' base v l :=
  h.kept fun g hg ho => by
    obtain ⟨c, fz, e1⟩ := Lib.ownsRow_kind h g ho
    rw [hk g _ e1 (fun e => hb (by rw [ho]; exact e)) (fun c fz e => by cases e), e1]
/-- What such a value is. -/
theorem Nums.form {w : World} {base : Nat} {v : Value} {l : List Int} (h : Nums w base v l) : (v = .slice none 0 0 ∧ l = []) ∨ ∃ g cap, v = .slice (some ⟨g, 0, none⟩) l.length cap ∧ l.length ≤ cap ∧ cap ≤ maxLen ∧ base ≤ g ∧ g < w.heap.size := by
  have hl := World.ownsRow.lt h
  rcases h.2 with ⟨rfl, h0⟩ | ⟨g, cap, cur, rfl, hg, _, hc, hm, _⟩
  · exact .inl ⟨rfl, List.eq_nil_of_length_eq_zero h0⟩
  · exact .inr ⟨g, cap, rfl, hc, hm, hg, (hl g rfl).2⟩
theorem Nums.shape {w : World} {base : Nat} {v : Value} {l : List Int} (h : Nums w base v l) : ∃ A c, v = .slice A l.length c ∧ l.length ≤ c ∧ c ≤ maxLen := by
  rcases h.form with ⟨rfl, rfl⟩ | ⟨g, c, rfl, h1, h2, _⟩
  · exact ⟨_, _, rfl, by simp, by unfold maxLen; omega⟩
  · exact ⟨_, _, rfl, h1, h2⟩
theorem Nums.len {w : World} {base n cap : Nat} {A : Option Addr} {l : List Int} (h : Nums w base (.slice A n cap) l) : n = l.length := by
  rcases h.form with ⟨e, e2⟩ | ⟨g', c', e, _⟩
  · injection e with _ e1; rw [e1, e2]; rfl
  · injection e
theorem Nums.cell {w : World} {base g cap n : Nat} {l : List Int} (h : Nums w base (.slice (some ⟨g, 0, none⟩) n cap) l) (j : Nat) (hj : j < l.length) : w.cell? ⟨g, j, none⟩ = some (.int .i64 (l.getD j 0)) := by
  have hn := h.len
  subst hn
  rw [World.ownsRow.cellAt h j (by omega)]
  simp [numCells, hj]
theorem Nums.frozen {w : World} {base g cap n : Nat} {l : List Int} (h : Nums w base (.slice (some ⟨g, 0, none⟩) n cap) l) (j : Nat) : w.frozen? ⟨g, j, none⟩ = false := by
  have hn := h.len
  subst hn
  exact World.ownsRow.frozenAt h j
theorem Nums.stored {w : World} {base g cap n : Nat} {l : List Int} (h : Nums w base (.slice (some ⟨g, 0, none⟩) n cap) l) (j : Nat) (x : Int) :
    Nums (w.setCell ⟨g, j, none⟩ (.int .i64 x)) base (.slice (some ⟨g, 0, none⟩) n cap) (l.set j x) := by
  have hn := h.len
  subst hn
  have hs := (World.ownsRow.stored h j (.int .i64 x)).1
  unfold Nums
  rw [List.length_set, numCells, List.map_set]
  exact hs
/-- Where it holds something, it lies in a block. -/
theorem Nums.block {w : World} {base n cap : Nat} {A : Option Addr} {l : List Int} (h : Nums w base (.slice A n cap) l) (hn : 0 < l.length) : ∃ g, A = some ⟨g, 0, none⟩ ∧ base ≤ g ∧ g < w.heap.size := by
  rcases h.form with ⟨e, e2⟩ | ⟨g', c', e, _, _, h3, h4⟩
  · rw [e2] at hn; simp at hn
  · injection e with e1; exact ⟨g', e1, h3, h4⟩
theorem Nums.lies {w : World} {base : Nat} {v : Value} {l : List Int} (h : Nums w base v l) : NumsV w w.heap.size v l := by
  rcases h.form with ⟨rfl, rfl⟩ | ⟨g, c, rfl, h1, h2, h3, h4⟩
  · exact ⟨none, 0, rfl, Nat.zero_le _, by unfold maxLen; omega, fun j hj => by simp at hj⟩
  · exact ⟨_, c, rfl, h1, h2, fun j hj => ⟨g, 0, rfl, h4, by rw [Nat.zero_add]; exact h.cell j hj⟩⟩
theorem NumsV.on {w w' : World} {B : Nat} {v : Value} {l : List Int} (h : NumsV w B v l) (hb : Below B w w') : NumsV w' B v l := by
  obtain ⟨A, cap, rfl, h1, h2, h3⟩ := h
  refine ⟨A, cap, rfl, h1, h2, fun j hj => ?_⟩
  obtain ⟨g, off, rfl, hg, hc⟩ := h3 j hj
  exact ⟨g, off, rfl, hg, by rw [hb.cell (p := ⟨_, _, none⟩) hg]; exact hc⟩
theorem NumsV.mono {w : World} {B C : Nat} {v : Value} {l : List Int} (h : NumsV w B v l) (hB : B ≤ C) : NumsV w C v l := by
  obtain ⟨A, cap, rfl, h1, h2, h3⟩ := h
  refine ⟨A, cap, rfl, h1, h2, fun j hj => ?_⟩
  obtain ⟨g, off, rfl, hg, hc⟩ := h3 j hj
  exact ⟨g, off, rfl, Nat.lt_of_lt_of_le hg hB, hc⟩
theorem NumsV.heap {w w' : World} {B : Nat} {v : Value} {l : List Int} (h : NumsV w B v l) (hh : w'.heap = w.heap) : NumsV w' B v l := by
  obtain ⟨A, cap, rfl, h1, h2, h3⟩ := h
  refine ⟨A, cap, rfl, h1, h2, fun j hj => ?_⟩
  obtain ⟨g, off, rfl, hg, hc⟩ := h3 j hj
  exact ⟨g, off, rfl, hg, by unfold World.cell? at *; rw [hh]; exact hc⟩
/-- Where it holds something, it lies in a block; and its cells stay where nothing below B is written. -/
theorem NumsV.full {w : World} {B : Nat} {v : Value} {l : List Int} (h : NumsV w B v l) (hn : 0 < l.length) : ∃ g off cap, v = .slice (some ⟨g, off, none⟩) l.length cap ∧ l.length ≤ cap ∧ cap ≤ maxLen ∧ g < B ∧ ∀ wx, Below B w wx → ∀ j, j < l.length → wx.cell? ⟨g, off + j, none⟩ = some (.int .i64 (l.getD j 0)) := by
  obtain ⟨A, cap, rfl, h1, h2, h3⟩ := h
  obtain ⟨g, off, rfl, hg, _⟩ := h3 0 hn
  refine ⟨g, off, cap, rfl, h1, h2, hg, fun wx hx j hj => ?_⟩
  obtain ⟨g', off', e, _, hc⟩ := h3 j hj
  injection e with e
  injection e with e1 e2
  subst e1
  subst e2
  rw [hx.cell (p := ⟨_, _, none⟩) hg]
  exact hc
theorem getD_set_same (l : List Int) (j : Nat) (x : Int) (h : j < l.length) : (l.set j x).getD j 0 = x := by simp [List.getD, h]
theorem getD_set_ne (l : List Int) (j k : Nat) (x : Int) (h : j ≠ k) : (l.set j x).getD k 0 = l.getD k 0 := by simp [List.getD, List.getElem?_set_ne h]
/-- Two lists of one length that hold the same are one. -/
theorem nums_ext {l m : List Int} (h : l.length = m.length) (hj : ∀ j, j < l.length → l.getD j 0 = m.getD j 0) : l = m := by
  apply List.ext_getElem h
  intro j h1 h2
  have := hj j h1
  simpa [List.getD, h1, h2] using this
theorem take_num (l : List Int) (k : Nat) (h : k < l.length) : l.take (k + 1) = l.take k ++ [l.getD k 0] := by
  rw [List.take_succ_eq_append_getElem h]
  simp [List.getD, h]
/-- One number more is right. -/
theorem fill_num (done : List Int) (r : Int) (n k : Nat) (hk : done.length = k) (hn : k < n) : (done ++ List.replicate (n - k) 0).set k r = (done ++ [r]) ++ List.replicate (n - (k + 1)) 0 := by
  obtain ⟨m, rfl⟩ : ∃ m, n = k + 1 + m := ⟨n - (k + 1), by omega⟩
  rw [show k + 1 + m - k = m + 1 by omega, show k + 1 + m - (k + 1) = m by omega, List.set_append_right _ _ (by omega), hk, Nat.sub_self, List.replicate_succ, List.set_cons_zero]
  simp

/-- 'append(out, x)' of a number, all else kept. -/
theorem wpList_append_num {P : Program} {w : World} {ops : Array Oper} {rest : List Oper} {o : Oper} {a : Act} {Q : Exit → Act → World → Prop} (hgd : o.guard = none) (s x : Operand) (t : TypeId)
    (ho : o.op = .call { callee := .builtin .append, args := #[s, x], argTypes := #[t, t] })
    (ht : P.underlying t = some (.slice 3)) (hinfo : (P.info? 3).map (fun i => (i.zero, i.size, i.bytes)) = some (some (.int .i64 0), 1, 8))
    (base : Nat) (v : Value) (l : List Int) (hs : a.eval s = v) (hown : Nums w base v l) (z : Int)
    (hx : a.eval x = .slice (some ⟨w.heap.size, 0, none⟩) 1 1) (hlen : l.length ≤ 2097152) (hbase : base ≤ w.heap.size)
    (h : ∀ v' w', Nums w' base v' (l ++ [z]) → Below base w w' → (∀ g, g < w.heap.size → v.ownBlock ≠ some g → w'.heap[g]? = w.heap[g]?) → wpList P ops Q rest (a.put o.dst v') w') : wpList P ops Q (o :: rest) a (w.alloc (.cells #[.int .i64 z] 3)) := by
  obtain ⟨i0, hi, hz0, hz1, hz2⟩ := info_parts hinfo
  refine wpList_append_own (w := w.alloc (.cells #[.int .i64 z] 3)) hgd s x t ho base 3 i0 (.int .i64 0) 1 8 ht hi hz0 hz1 hz2 rfl (by decide) v l.length (numCells l) hs (hown.alloc _) ⟨w.heap.size, 0, none⟩ 1 1 [.int .i64 z] hx rfl ?_ ?_ ?_ ?_ ?_ ?_
  · intro j u hj
    have e : (⟨w.heap.size, 0, none⟩ : Addr).add j = ⟨w.heap.size, j, none⟩ := by cases j <;> simp [Addr.add]
    rw [e, World.cell?_alloc_mark]
    simpa using hj
  · intro u hu
    simp at hu
    subst hu
    rfl
  · unfold maxLen; omega
  · omega
  · simp; omega
  · intro v' w' h1 h2 _
    have hb0 : ∀ k, v.ownBlock = some k → base ≤ k := fun k hk => (World.ownsRow.lt hown k hk).1
    refine h v' w' ?_ ?_ ?_
    · unfold Nums
      rw [List.length_append, numCells, List.map_append]
      exact h1
    · exact ((Below.refl base w).alloc hbase _).grown h2 (by simp; omega) hb0
    · intro g hg hne
      rw [h2.block g (by simp; omega) (fun e => hne e.symm)]
      exact Below.heap_alloc w _ g hg

/-! ### Marks -/
/-- n marks from k on. -/
def nmarks (k n : Nat) : List Int := (List.range n).map fun j => ((k + j : Nat) : Int)
theorem nmarks_length (k n : Nat) : (nmarks k n).length = n := by simp [nmarks]
theorem nmarks_get (k n j : Nat) (h : j < n) : (nmarks k n).getD j 0 = ((k + j : Nat) : Int) := by simp [nmarks, List.getD, h]
/-- The list behind j of its places marked. -/
def nmarked (k : Nat) (l : List Int) (j : Nat) : List Int := nmarks k j ++ l.drop j
theorem nmarked_zero (k : Nat) (l : List Int) : nmarked k l 0 = l := by simp [nmarked, nmarks]
theorem nmarked_length (k : Nat) (l : List Int) (j : Nat) (h : j ≤ l.length) : (nmarked k l j).length = l.length := by
  simp [nmarked, nmarks_length]
  omega
theorem nmarked_set (k : Nat) (l : List Int) (j : Nat) (h : j < l.length) : (nmarked k l j).set j ((k + j : Nat) : Int) = nmarked k l (j + 1) := by
  unfold nmarked
  rw [List.set_append_right _ _ (by rw [nmarks_length]; omega), nmarks_length, Nat.sub_self, List.drop_eq_getElem_cons h, List.set_cons_zero]
  unfold nmarks
  rw [List.range_succ, List.map_append]
  simp
theorem nmarked_all (k : Nat) (l : List Int) : nmarked k l l.length = nmarks k l.length := by simp [nmarked]
end Go.Proofs.Ytjejcpieajeflaa
