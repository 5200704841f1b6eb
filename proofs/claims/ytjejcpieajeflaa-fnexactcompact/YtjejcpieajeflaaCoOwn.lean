/-
  Rows of entries of the call's own that were cut at their beginning; cores of the call's own (no program in sight, no condition).
-/
import Derived.Test.YtjejcpieajeflaaRows
import Derived.Test.YtjejcpieajeflaaCoVal
import Derived.Test.YtjejcpieajeflaaWkBlk
import Derived.Test.YtjejcpieajeflaaWkPut
namespace Go.Proofs.Ytjejcpieajeflaa
open Go.ChangeShapes Go.WideShapes Go.ChangeAt Go.RowKit Go.PlainAid
set_option linter.unusedVariables false

/-- The block of a slice that holds something. -/
def blkF (v : Value) : Option Nat := match v with
  | .slice (some a) (_ + 1) _ => some a.block
  | _ => none
theorem blkF_own {v : Value} {g : Nat} (h : blkF v = some g) : v.ownBlock = some g := by
  unfold blkF at h
  split at h
  · simpa [Value.ownBlock] using h
  · cases h
/-- The slice v is the call's own, cut at its beginning perhaps, and holds rows of entries. -/
def OwnF (w : World) (base : Nat) (v : Value) (R : List (List Value)) : Prop :=
  (R = [] ∧ ∃ A c, v = .slice A 0 c ∧ (A = none → c = 0)) ∨ (0 < R.length ∧ ∃ g n0 c0 d c R0, Owns w base 88 2 (.slice (some ⟨g, 0, none⟩) n0 c0) R0 ∧ n0 = R0.length ∧ d + R.length = n0 ∧ v = .slice (some ⟨g, d * 2, none⟩) R.length c ∧ R.length ≤ c ∧ R = R0.drop d)
theorem Owns.toF {w : World} {base : Nat} {v : Value} {R : List (List Value)} (h : Owns w base 88 2 v R) : OwnF w base v R := by
  by_cases h0 : R.length = 0
  · obtain rfl := List.eq_nil_of_length_eq_zero h0
    left
    rcases h.2.2 with ⟨rfl, _⟩ | ⟨g, cap, cur, rfl, _⟩
    · exact ⟨rfl, _, _, rfl, fun _ => rfl⟩
    · exact ⟨rfl, _, _, rfl, fun e => by cases e⟩
  · right
    have hh := h
    rcases h.2.2 with ⟨rfl, e⟩ | ⟨g, cap, cur, rfl, _, _, hc, _⟩
    · exact absurd e h0
    · exact ⟨by omega, g, R.length, cap, 0, cap, R, hh, rfl, by omega, by simp, hc, rfl⟩
theorem OwnF.kept {w w' : World} {base : Nat} {v : Value} {R : List (List Value)} (h : OwnF w base v R) (hk : ∀ g, g < w.heap.size → blkF v = some g → w'.heap[g]? = w.heap[g]?) : OwnF w' base v R := by
  rcases h with h | ⟨h0, g, n0, c0, d, c, R0, h1, h2, h3, rfl, h5, h6⟩
  · exact .inl h
  · refine .inr ⟨h0, g, n0, c0, d, c, R0, h1.kept fun g' hg' e => hk g' hg' ?_, h2, h3, rfl, h5, h6⟩
    obtain ⟨k, hk'⟩ : ∃ k, R.length = k + 1 := ⟨R.length - 1, by omega⟩
    rw [hk']
    simpa [blkF, Value.ownBlock] using e
theorem OwnF.on {w w' : World} {base : Nat} {v : Value} {R : List (List Value)} (h : OwnF w base v R) (hb : Below w.heap.size w w') : OwnF w' base v R := h.kept fun g hg _ => hb.block g hg
theorem OwnF.mono {w : World} {base base' : Nat} {v : Value} {R : List (List Value)} (h : OwnF w base v R) (hb : base' ≤ base) : OwnF w base' v R := by
  rcases h with h | ⟨h0, g, n0, c0, d, c, R0, h1, r⟩
  · exact .inl h
  · exact .inr ⟨h0, g, n0, c0, d, c, R0, h1.mono hb, r⟩
theorem OwnF.lt {w : World} {base : Nat} {v : Value} {R : List (List Value)} (h : OwnF w base v R) : ∀ k, blkF v = some k → base ≤ k ∧ k < w.heap.size := by
  rcases h with ⟨_, A, c, rfl, _⟩ | ⟨h0, g, n0, c0, d, c, R0, h1, h2, h3, rfl, h5, h6⟩
  · intro k hk
    cases A <;> cases hk
  · intro k hk
    have := blkF_own hk
    exact h1.lt k (by simpa [Value.ownBlock] using this)
theorem OwnF.lies {w : World} {base : Nat} {v : Value} {R : List (List Value)} (h : OwnF w base v R) : Lies w w.heap.size 2 v R := by
  rcases h with ⟨rfl, A, c, rfl, hA⟩ | ⟨h0, g, n0, c0, d, c, R0, h1, h2, h3, rfl, h5, h6⟩
  · exact ⟨A, c, rfl, ⟨hA, Nat.zero_le _⟩, fun r hr => (by cases hr), .inl rfl⟩
  · have hs := h1.1
    have hl := h1.lies
    obtain ⟨A, cap, e, hz, _, hc⟩ := hl
    cases e
    refine ⟨_, c, rfl, ⟨fun e => (by cases e), h5⟩, fun r hr => hs r (by rw [h6] at hr; exact List.mem_of_mem_drop hr), .inr ⟨g, d * 2, rfl, (h1.lt g rfl).2, fun k x hx => ?_⟩⟩
    rcases hc with hc | ⟨g', off, e, _, hc⟩
    · omega
    · cases e
      have hf : R0.flatten[d * 2 + k]? = some x := by
        rw [← List.take_append_drop d R0, List.flatten_append, List.getElem?_append_right]
        · rw [flat_length 2 _ (fun r hr => hs r (List.mem_of_mem_take hr)), List.length_take, show min d R0.length = d by omega, Nat.add_sub_cancel_left, ← h6]
          exact hx
        · rw [flat_length 2 _ (fun r hr => hs r (List.mem_of_mem_take hr)), List.length_take]
          omega
      have := hc _ x hf
      rw [Nat.zero_add] at this
      exact this
theorem OwnF.shape {w : World} {base : Nat} {v : Value} {R : List (List Value)} (h : OwnF w base v R) : ∃ A c, v = .slice A R.length c := by
  rcases h with ⟨rfl, A, c, rfl, hA⟩ | ⟨h0, g, n0, c0, d, c, R0, h1, h2, h3, rfl, h5, h6⟩
  · exact ⟨A, c, rfl⟩
  · exact ⟨_, c, rfl⟩
/-- A row of entries lies in no block of another kind. -/
theorem OwnF.notBlk {w : World} {base : Nat} {v : Value} {R : List (List Value)} (h : OwnF w base v R) {g : Nat} {cs : Array Value} {t : TypeId} {fz : Nat × Nat} (hB : w.heap[g]? = some (.cells cs t fz)) (ht : t ≠ 88) : blkF v ≠ some g := by
  rcases h with ⟨_, A, c, rfl, _⟩ | ⟨h0, g', n0, c0, d, c, R0, h1, h2, h3, rfl, h5, h6⟩
  · intro hk
    cases A <;> cases hk
  · intro hk
    have hk := blkF_own hk
    simp only [Value.ownBlock, Option.some.injEq] at hk
    subst hk
    rcases h1.2.2 with ⟨e, _⟩ | ⟨g1, c1, cur1, e, _, k1, _⟩
    · cases e
    · cases e
      rw [k1] at hB
      cases hB
      exact ht rfl
theorem Nums.kind {w : World} {base : Nat} {v : Value} {l : List Int} (h : Nums w base v l) {g : Nat} (hg : v.ownBlock = some g) : ∃ cs fz, w.heap[g]? = some (.cells cs 3 fz) := by
  obtain ⟨c, fz, e⟩ := Lib.ownsRow_kind h g hg
  exact ⟨c, fz, e⟩
theorem Nums.notBlk {w : World} {base : Nat} {v : Value} {l : List Int} (h : Nums w base v l) {g : Nat} {cs : Array Value} {t : TypeId} {fz : Nat × Nat} (hB : w.heap[g]? = some (.cells cs t fz)) (ht : t ≠ 3) : v.ownBlock ≠ some g := fun e => by
  obtain ⟨c, fz', e'⟩ := h.kind e
  rw [e'] at hB
  cases hB
  exact ht rfl
/-- Two values share no block. -/
def Apart (u v : Value) : Prop := ∀ g, u.ownBlock = some g → v.ownBlock ≠ some g
theorem Apart.symm {u v : Value} (h : Apart u v) : Apart v u := fun g h1 h2 => h g h2 h1
theorem Nums.apart {w w' : World} {b b' : Nat} {u v : Value} {l m : List Int} (h : Nums w b u l) (h' : Nums w' b' v m) (hb : w.heap.size ≤ b') : Apart u v := fun g h1 h2 => by
  have := (h.lt g h1).2
  have := (h'.lt g h2).1
  omega
/-- The rows of a core are the call's own. -/
structure CoRows (w : World) (base : Nat) (x : Cor) (ul uy un um : Value) : Prop where
  l : OwnF w base ul (entR x.log)
  y : Nums w base uy x.yes
  n : Nums w base un x.nxt
  m : Nums w base um x.mat
  yn : Apart uy un
  ym : Apart uy um
  nm : Apart un um
def CorO (w : World) (base : Nat) (v : Value) (x : Cor) : Prop := ∃ ul uy un um, v = vCo x ul uy un um ∧ CoRows w base x ul uy un um
theorem CoRows.on {w w' : World} {base : Nat} {x : Cor} {ul uy un um : Value} (h : CoRows w base x ul uy un um) (hb : Below w.heap.size w w') : CoRows w' base x ul uy un um := ⟨h.l.on hb, h.y.on hb, h.n.on hb, h.m.on hb, h.yn, h.ym, h.nm⟩
theorem CoRows.mono {w : World} {base base' : Nat} {x : Cor} {ul uy un um : Value} (h : CoRows w base x ul uy un um) (hb : base' ≤ base) : CoRows w base' x ul uy un um := ⟨h.l.mono hb, h.y.mono hb, h.n.mono hb, h.m.mono hb, h.yn, h.ym, h.nm⟩
theorem CoRows.lies {w : World} {base : Nat} {x : Cor} {ul uy un um : Value} (h : CoRows w base x ul uy un um) : CorV w w.heap.size (vCo x ul uy un um) x := ⟨ul, uy, un, um, rfl, h.l.lies, h.y.lies, h.n.lies, h.m.lies⟩
/-- A block that is none of its rows'. -/
structure NotC (ul uy un um : Value) (g : Nat) : Prop where
  l : blkF ul ≠ some g
  y : uy.ownBlock ≠ some g
  n : un.ownBlock ≠ some g
  m : um.ownBlock ≠ some g
theorem CoRows.kept {w w' : World} {base : Nat} {x : Cor} {ul uy un um : Value} (h : CoRows w base x ul uy un um) (hk : ∀ g, g < w.heap.size → base ≤ g → w'.heap[g]? = w.heap[g]?) : CoRows w' base x ul uy un um :=
  ⟨h.l.kept fun g hg e => hk g hg (h.l.lt g e).1, h.y.kept fun g hg e => hk g hg (h.y.lt g e).1, h.n.kept fun g hg e => hk g hg (h.n.lt g e).1, h.m.kept fun g hg e => hk g hg (h.m.lt g e).1, h.yn, h.ym, h.nm⟩
theorem CoRows.notBlk {w : World} {base : Nat} {x : Cor} {ul uy un um : Value} (h : CoRows w base x ul uy un um) {g : Nat} {cs : Array Value} {t : TypeId} {fz : Nat × Nat} (hB : w.heap[g]? = some (.cells cs t fz)) (ht : t ≠ 88) (h3 : t ≠ 3) : NotC ul uy un um g := ⟨h.l.notBlk hB ht, h.y.notBlk hB h3, h.n.notBlk hB h3, h.m.notBlk hB h3⟩
theorem CoRows.notOld {w : World} {base : Nat} {x : Cor} {ul uy un um : Value} (h : CoRows w base x ul uy un um) {g : Nat} (hg : g < base) : NotC ul uy un um g := ⟨fun e => by have := (h.l.lt g e).1; omega, fun e => by have := (h.y.lt g e).1; omega, fun e => by have := (h.n.lt g e).1; omega, fun e => by have := (h.m.lt g e).1; omega⟩
theorem CoRows.notNew {w : World} {base : Nat} {x : Cor} {ul uy un um : Value} (h : CoRows w base x ul uy un um) {g : Nat} (hg : w.heap.size ≤ g) : NotC ul uy un um g := ⟨fun e => by have := (h.l.lt g e).2; omega, fun e => by have := (h.y.lt g e).2; omega, fun e => by have := (h.n.lt g e).2; omega, fun e => by have := (h.m.lt g e).2; omega⟩
theorem CoRows.shape {w : World} {base : Nat} {x : Cor} {ul uy un um : Value} (h : CoRows w base x ul uy un um) : ∃ A0 c0 A1 c1 A2 c2 A3 c3, ul = .slice A0 x.log.length c0 ∧ uy = .slice A1 x.yes.length c1 ∧ un = .slice A2 x.nxt.length c2 ∧ um = .slice A3 x.mat.length c3 := by
  obtain ⟨A0, c0, e0⟩ := h.l.shape
  rw [entR_length] at e0
  obtain ⟨A1, c1, e1, _⟩ := h.y.shape
  obtain ⟨A2, c2, e2, _⟩ := h.n.shape
  obtain ⟨A3, c3, e3, _⟩ := h.m.shape
  exact ⟨A0, c0, A1, c1, A2, c2, A3, c3, e0, e1, e2, e3⟩
theorem CorO.sh {w : World} {base : Nat} {v : Value} {x : Cor} (h : CorO w base v x) : ∃ D0 p0 d0 D1 p1 d1 D2 p2 d2 D3 p3 d3, v = vCo x (.slice D0 p0 d0) (.slice D1 p1 d1) (.slice D2 p2 d2) (.slice D3 p3 d3) ∧ CoRows w base x (.slice D0 p0 d0) (.slice D1 p1 d1) (.slice D2 p2 d2) (.slice D3 p3 d3) := by
  obtain ⟨ul, uy, un, um, rfl, h⟩ := h
  obtain ⟨A0, c0, A1, c1, A2, c2, A3, c3, rfl, rfl, rfl, rfl⟩ := h.shape
  exact ⟨A0, _, c0, A1, _, c1, A2, _, c2, A3, _, c3, rfl, h⟩
theorem CorV.sh {w : World} {B : Nat} {v : Value} {x : Cor} (h : CorV w B v x) : ∃ D0 p0 d0 D1 p1 d1 D2 p2 d2 D3 p3 d3, v = vCo x (.slice D0 p0 d0) (.slice D1 p1 d1) (.slice D2 p2 d2) (.slice D3 p3 d3) ∧ CorV w B (vCo x (.slice D0 p0 d0) (.slice D1 p1 d1) (.slice D2 p2 d2) (.slice D3 p3 d3)) x := by
  have h' := h
  obtain ⟨ul, uy, un, um, rfl, h1, h2, h3, h4⟩ := h
  obtain ⟨A0, c0, rfl, _⟩ := ent_look h1
  obtain ⟨A1, c1, rfl, _⟩ := h2
  obtain ⟨A2, c2, rfl, _⟩ := h3
  obtain ⟨A3, c3, rfl, _⟩ := h4
  exact ⟨A0, _, c0, A1, _, c1, A2, _, c2, A3, _, c3, rfl, h'⟩
theorem CorO.lies {w : World} {base : Nat} {v : Value} {x : Cor} (h : CorO w base v x) : CorV w w.heap.size v x := by
  obtain ⟨ul, uy, un, um, rfl, h⟩ := h
  exact h.lies
theorem CorO.on {w w' : World} {base : Nat} {v : Value} {x : Cor} (h : CorO w base v x) (hb : Below w.heap.size w w') : CorO w' base v x := by
  obtain ⟨ul, uy, un, um, e, h⟩ := h
  exact ⟨ul, uy, un, um, e, h.on hb⟩
theorem CorO.mono {w : World} {base base' : Nat} {v : Value} {x : Cor} (h : CorO w base v x) (hb : base' ≤ base) : CorO w base' v x := by
  obtain ⟨ul, uy, un, um, e, h⟩ := h
  exact ⟨ul, uy, un, um, e, h.mono hb⟩
end Go.Proofs.Ytjejcpieajeflaa
