/-
  The records that lead from one log to another, as plain data; contract of impl.Changes.
-/
import Derived.Test.YtcghclaobodgjaaDoorRows
import Derived.Test.YtcghclaobodgjaaDoorChAid
import Derived.Test.YtcghclaobodgjaaDoorChFrom
import Derived.Test.YtcghclaobodgjaaDoorStFitsI
import Derived.Test.YtcghclaobodgjaaDoorWokImpl
import Derived.Test.YtcghclaobodgjaaDoorToldA
import Derived.Test.YtcghclaobodgjaaDoorWkApp
namespace Go.Proofs.YtcghclaobodgjaaDoor
open Go.ChangeShapes Go.WideShapes Go.ChangeAt Go.RowKit Go.PlainAid
set_option linter.unusedVariables false

def hardR (a b : Wl) : List Rcd := if a.term = b.term ∧ a.vote = b.vote then [] else [⟨1, b.term, 0, b.vote, ⟨#[]⟩⟩]
def cutR (a : Wl) (k : Nat) : List Rcd := if k < a.ents.length then [⟨3, 0, a.base + (k : Int) + 1, 0, ⟨#[]⟩⟩] else []
/-- The records that lead from a to b, where both begin with k entries alike. -/
def chList (a b : Wl) (k : Nat) : List Rcd := hardR a b ++ cutR a k ++ entFrom b k (b.ents.length - k)
def chOk (a b : Wl) : Prop := walOk a = true ∧ walOk b = true ∧ a.base = b.base ∧ a.bterm = b.bterm ∧ ((a.term = b.term ∧ a.vote = b.vote) ∨ recFits a ⟨1, b.term, 0, b.vote, ⟨#[]⟩⟩ = true)
/-- What both packages' Changes answer. -/
def ChAns (a b : Wl) (l : List Rcd) (ok : Bool) : Prop := (ok = true ∧ chOk a b ∧ ∃ k, Pre a.ents b.ents k ∧ l = chList a b k) ∨ (ok = false ∧ ¬ chOk a b ∧ l = [])
theorem ChAns.one {a b : Wl} {l l' : List Rcd} {ok ok' : Bool} (h : ChAns a b l ok) (h' : ChAns a b l' ok') : l = l' ∧ ok = ok' := by
  rcases h with ⟨rfl, h1, k, h2, rfl⟩ | ⟨rfl, h1, rfl⟩ <;> rcases h' with ⟨rfl, g1, k', g2, rfl⟩ | ⟨rfl, g1, rfl⟩
  · rw [h2.one g2]
    exact ⟨rfl, rfl⟩
  · exact absurd h1 g1
  · exact absurd g1 h1
  · exact ⟨rfl, rfl⟩
/-- Kinds that Changes tells. -/
structure ChRec (r : Rcd) : Prop where
  k : (r.kind = 1 ∧ r.index = 0 ∧ r.data = ⟨#[]⟩) ∨ (r.kind = 2 ∧ r.vote = 0) ∨ (r.kind = 3 ∧ r.term = 0 ∧ r.vote = 0 ∧ r.data = ⟨#[]⟩)
  d : r.data.size ≤ 1048576
theorem told_any (r : Rcd) (h : ChRec r) (w : World) : Calls Tryd.prog 39 #[kindV r] w fun e w' => e = .returned (vRcd r) ∧ Below w.heap.size w w' := by
  obtain ⟨hk, hd⟩ := h
  obtain ⟨k, t, i, v, d⟩ := r
  simp only at hk hd
  rcases hk with ⟨rfl, rfl, rfl⟩ | ⟨rfl, rfl⟩ | ⟨rfl, rfl, rfl, rfl⟩
  · exact told_hard t v w (by omega)
  · exact told_entry i t d w hd
  · exact told_cut i w (by omega)
theorem chList_rec (a b : Wl) (k : Nat) (hd : ∀ e ∈ b.ents, e.data.size ≤ 1048576) (hk : k ≤ b.ents.length) : ∀ r ∈ chList a b k, ChRec r := by
  intro r hr
  unfold chList hardR cutR at hr
  rw [List.mem_append, List.mem_append] at hr
  rcases hr with (hr | hr) | hr
  · split at hr
    · cases hr
    · rw [List.mem_singleton.1 hr]
      exact ⟨.inl ⟨rfl, rfl, rfl⟩, Nat.zero_le _⟩
  · split at hr
    · rw [List.mem_singleton.1 hr]
      exact ⟨.inr (.inr ⟨rfl, rfl, rfl, rfl⟩), Nat.zero_le _⟩
    · cases hr
  · obtain ⟨i, hi, rfl⟩ := List.mem_map.1 hr
    refine ⟨.inr (.inl ⟨rfl, rfl⟩), ?_⟩
    have hi' : k + i < b.ents.length := by have := List.mem_range.1 hi; omega
    show (b.ents.getD (k + i) default).data.size ≤ 1048576
    rw [List.getD_eq_getElem?_getD, List.getElem?_eq_getElem hi']
    exact hd _ (List.getElem_mem hi')
theorem chList_length (a b : Wl) (k : Nat) (h : b.ents.length ≤ 60) : (chList a b k).length ≤ 62 := by
  unfold chList hardR cutR
  rw [List.length_append, List.length_append, entFrom_length]
  split <;> split <;> simp <;> omega
theorem kind_look {w : World} {base : Nat} {v : Value} {l : List Rcd} (h : Owns w base 79 1 v (kindR l)) : ∃ A cap, v = .slice A l.length cap ∧ ∀ j, j < l.length → ∃ g, A = some ⟨g, 0, none⟩ ∧ g < w.heap.size ∧ base ≤ g ∧ w.cell? ⟨g, j, none⟩ = some (kindV (l.getD j ⟨0, 0, 0, 0, ByteArray.empty⟩)) := by
  have hc := fun g hg => World.ownsRow.cells h.2 (g := g) hg
  have hl := kindR_length l
  have hlt := h.lt
  have hfl : ∀ l : List Rcd, (kindR l).flatten = l.map kindV := by
    intro l
    induction l with
    | nil => rfl
    | cons r l ih => rw [kindR, List.map_cons, List.flatten_cons, List.map_cons]; rw [kindR] at ih; rw [ih]; rfl
  rcases h.2.2 with ⟨rfl, h0⟩ | ⟨g, cap, cur, rfl, _⟩
  · rw [hl] at h0
    exact ⟨none, 0, by rw [h0], fun j hj => by omega⟩
  · refine ⟨_, cap, by rw [hl], fun j hj => ⟨g, rfl, (hlt g rfl).2, (hlt g rfl).1, ?_⟩⟩
    have e : (⟨g, 0, none⟩ : Addr).add j = ⟨g, j, none⟩ := by cases j <;> simp [Addr.add]
    rw [← e]
    refine hc g rfl j _ ?_
    rw [hfl, List.getElem?_map, List.getElem?_eq_getElem hj, List.getD_eq_getElem?_getD, List.getElem?_eq_getElem hj]
    rfl
theorem entsOk_data (top : Int) : ∀ (l : List Ent) (last : Int), entsOk top last l = true → ∀ e ∈ l, e.data.size ≤ 900
  | [], _, _, e, he => by cases he
  | y :: r, last, h, e, he => by
    unfold entsOk at h
    simp only [Bool.and_eq_true, decide_eq_true_eq] at h
    rcases List.mem_cons.1 he with rfl | he
    · exact h.1.2
    · exact entsOk_data top r _ h.2 e he
theorem ok_in (x : Wl) (h : walOk x = true) : x.ents.length ≤ 60 ∧ (0 ≤ x.base ∧ x.base ≤ 100000) ∧ ∀ e ∈ x.ents, e.data.size ≤ 900 := by
  unfold walOk at h
  simp only [Bool.and_eq_true] at h
  obtain ⟨⟨⟨⟨⟨⟨_, _⟩, h3⟩, _⟩, h5⟩, _⟩, h7⟩ := h
  refine ⟨of_decide_eq_true h5, ?_, entsOk_data _ _ _ h7⟩
  unfold based at h3
  split at h3
  · omega
  · simp only [Bool.and_eq_true, inIt, decide_eq_true_eq] at h3
    omega
theorem rcdR_take (l : List Rcd) (k : Nat) (hk : k < l.length) : rcdR (l.take (k + 1)) = rcdR (l.take k) ++ [rcdC (l.getD k ⟨0, 0, 0, 0, ByteArray.empty⟩)] := by
  rw [List.take_succ_eq_append_getElem hk, List.getD_eq_getElem?_getD, List.getElem?_eq_getElem hk]
  show List.map rcdC (l.take k ++ [l[k]]) = List.map rcdC (l.take k) ++ [rcdC l[k]]
  rw [List.map_append]
  rfl
end Go.Proofs.YtcghclaobodgjaaDoor
