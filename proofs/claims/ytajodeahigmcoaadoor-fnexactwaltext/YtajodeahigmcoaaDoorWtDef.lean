/-
  A log's text as plain data; contract of impl.WalText.
-/
import Derived.Test.YtajodeahigmcoaaDoorRows
import Derived.Test.YtajodeahigmcoaaDoorWtAid
import Derived.Test.YtajodeahigmcoaaDoorWokImpl
import Derived.Test.YtajodeahigmcoaaDoorShowImplD
import Derived.Test.YtajodeahigmcoaaDoorFrame
import Derived.Test.YtajodeahigmcoaaDoorBldLay
import Derived.Lib.OwnKind
import Derived.Handy
namespace Go.Proofs.YtajodeahigmcoaaDoor
open Go.ChangeShapes Go.WideShapes Go.ChangeAt Go.RowKit Go.PlainAid
set_option linter.unusedVariables false

/-- Records framed one behind the other. -/
def catF (l : List Rcd) : ByteArray := l.foldl (fun s r => s ++ frame (showR r)) ByteArray.empty
theorem catF_snoc (l : List Rcd) (r : Rcd) : catF (l ++ [r]) = catF l ++ frame (showR r) := by simp [catF, List.foldl_append]
theorem frame_size (b : ByteArray) : (frame b).size ≤ 2008 := by
  unfold frame
  split
  · rw [txt_size]
    exact Nat.zero_le _
  · rw [frameOf_size]
    omega
theorem catF_size (l : List Rcd) : (catF l).size ≤ 2008 * l.length := by
  have key : ∀ (l : List Rcd) (s : ByteArray), (l.foldl (fun s r => s ++ frame (showR r)) s).size ≤ s.size + 2008 * l.length := by
    intro l
    induction l with
    | nil => intro s; simp
    | cons r l ih =>
      intro s
      have h1 := ih (s ++ frame (showR r))
      have h2 := frame_size (showR r)
      rw [ByteArray.size_append] at h1
      simp only [List.foldl_cons, List.length_cons]
      omega
  have := key l ByteArray.empty
  have z : ByteArray.empty.size = 0 := rfl
  unfold catF
  omega
def walRecs (x : Wl) : List Rcd := [⟨4, x.bterm, x.base, 0, ByteArray.empty⟩, ⟨1, x.term, 0, x.vote, ByteArray.empty⟩] ++ entRecs x x.ents.length
/-- A log as a text. -/
def walT (x : Wl) : ByteArray := if walOk x = true then catF (walRecs x) else ⟨#[]⟩
theorem walRecs_length (x : Wl) : (walRecs x).length = x.ents.length + 2 := by simp [walRecs, entRecs_length]
theorem entsOk_data (top : Int) : ∀ (l : List Ent) (last : Int), entsOk top last l = true → ∀ e ∈ l, e.data.size ≤ 900
  | [], _, _, e, he => by cases he
  | y :: r, last, h, e, he => by
    unfold entsOk at h
    simp only [Bool.and_eq_true, decide_eq_true_eq] at h
    rcases List.mem_cons.1 he with rfl | he
    · exact h.1.2
    · exact entsOk_data top r _ h.2 e he
theorem ok_in (x : Wl) (h : walOk x = true) : x.ents.length ≤ 60 ∧ (0 ≤ x.base ∧ x.base ≤ 100000) ∧ ∀ e ∈ x.ents, e.data.size ≤ 900 := by
  unfold walOk at h
  simp only [Bool.and_eq_true] at h
  obtain ⟨⟨⟨⟨⟨⟨_, _⟩, h3⟩, _⟩, h5⟩, _⟩, h7⟩ := h
  refine ⟨of_decide_eq_true h5, ?_, entsOk_data _ _ _ h7⟩
  unfold based at h3
  split at h3
  · omega
  · simp only [Bool.and_eq_true, inIt, decide_eq_true_eq] at h3
    omega
theorem showR_size (r : Rcd) (h : r.data.size ≤ 900) : (showR r).size ≤ 1000 := by
  unfold showR
  split
  · unfold showB
    have h1 := vsize r.term.toNat
    have h2 := vsize r.index.toNat
    have h3 := vsize (r.vote + 1).toNat
    simp only [ByteArray.size_append, txt_size] at *
    simp
    omega
  · exact Nat.zero_le _
/-- A record of a log: its kind and how long its data are. -/
structure LogRec (r : Rcd) : Prop where
  k : (r.kind = 4 ∧ r.vote = 0 ∧ r.data = ⟨#[]⟩) ∨ (r.kind = 1 ∧ r.index = 0 ∧ r.data = ⟨#[]⟩) ∨ (r.kind = 2 ∧ r.vote = 0)
  d : r.data.size ≤ 900
theorem walRecs_log (x : Wl) (hd : ∀ e ∈ x.ents, e.data.size ≤ 900) : ∀ r ∈ walRecs x, LogRec r := by
  intro r hr
  unfold walRecs at hr
  simp only [List.mem_append, List.mem_cons, List.not_mem_nil, or_false] at hr
  rcases hr with (rfl | rfl) | hr
  · exact ⟨.inl ⟨rfl, rfl, rfl⟩, Nat.zero_le _⟩
  · exact ⟨.inr (.inl ⟨rfl, rfl, rfl⟩), Nat.zero_le _⟩
  · unfold entRecs at hr
    obtain ⟨i, hi, rfl⟩ := List.mem_map.1 hr
    refine ⟨.inr (.inr ⟨rfl, rfl⟩), ?_⟩
    have hi' : i < x.ents.length := by simpa using hi
    show (x.ents.getD i default).data.size ≤ 900
    rw [List.getD_eq_getElem?_getD, List.getElem?_eq_getElem hi']
    exact hd _ (List.getElem_mem hi')
theorem kindR_flat (l : List Rcd) : (kindR l).flatten = l.map kindV := by
  induction l with
  | nil => rfl
  | cons r l ih => rw [kindR, List.map_cons, List.flatten_cons, List.map_cons]; rw [kindR] at ih; rw [ih]; rfl
/-- A row of records of the call's own, looked at. -/
theorem kind_look {w : World} {base : Nat} {v : Value} {l : List Rcd} (h : Owns w base 55 1 v (kindR l)) : ∃ A cap, v = .slice A l.length cap ∧ ∀ j, j < l.length → ∃ g, A = some ⟨g, 0, none⟩ ∧ w.cell? ⟨g, j, none⟩ = some (kindV (l.getD j ⟨0, 0, 0, 0, ByteArray.empty⟩)) := by
  have hc := fun g hg => World.ownsRow.cells h.2 (g := g) hg
  have hl := kindR_length l
  rcases h.2.2 with ⟨rfl, h0⟩ | ⟨g, cap, cur, rfl, _⟩
  · rw [hl] at h0
    exact ⟨none, 0, by rw [h0], fun j hj => by omega⟩
  · refine ⟨_, cap, by rw [hl], fun j hj => ⟨g, rfl, ?_⟩⟩
    have e : (⟨g, 0, none⟩ : Addr).add j = ⟨g, j, none⟩ := by cases j <;> simp [Addr.add]
    rw [← e]
    refine hc g rfl j _ ?_
    rw [kindR_flat, List.getElem?_map, List.getElem?_eq_getElem hj, List.getD_eq_getElem?_getD, List.getElem?_eq_getElem hj]
    rfl
theorem Owns.two (w : World) (a b : Value) : Owns (w.alloc (.cells #[a, b] 55)) w.heap.size 55 1 (.slice (some ⟨w.heap.size, 0, none⟩) 2 2) [[a], [b]] :=
  ⟨fun r hr => by simp at hr; rcases hr with rfl | rfl <;> rfl, World.ownsRow_lit w #[a, b] 2 (Nat.le_refl _) (by unfold maxLen; omega) (by simp)⟩
theorem strCells_append (a b : ByteArray) : Lib.strCells (a ++ b) = Lib.strCells a ++ Lib.strCells b := by simp [Lib.strCells, ByteArray.data_append]
theorem bld_on {w w' : World} {B b : Nat} {bs : List Value} (h : Lib.IsBuilderF 52 5 B b bs w) (hb : Below w.heap.size w w') : Lib.IsBuilderF 52 5 B b bs w' := by
  have key : ∀ p, Lib.BuilderAtF 52 5 B b p bs w → Lib.BuilderAtF 52 5 B b p bs w' := by
    rintro p ⟨hB, v, hh, hown, hne⟩
    refine ⟨hB, v, by rw [hb.block b (lt_of_block hh)]; exact hh, ⟨hown.1, ?_⟩, hne⟩
    rcases hown.2 with h | ⟨g, cap, cur, fz, rfl, hbg, hg, rest⟩
    · exact .inl h
    · refine .inr ⟨g, cap, cur, fz, rfl, hbg, ?_, rest⟩
      rw [hb.block g (Array.getElem?_eq_some_iff.1 hg).1]
      exact hg
  exact h.imp (key _) (key _)
theorem bld_new {w : World} {b : Nat} (h : Blk w b #[.pointer none, .slice none 0 0] 52) : Lib.IsBuilderF 52 5 b b (Lib.strCells ByteArray.empty) w :=
  .inl ⟨Nat.le_refl _, .slice none 0 0, h, ⟨rfl, .inl ⟨rfl, rfl⟩⟩, fun e => by cases e⟩
theorem Owns.others {w w' : World} {base b : Nat} {v : Value} {rows : List (List Value)} (h : Owns w base 55 1 v rows) (hk : Lib.OthersKept 5 (some b) w w') (hb : v.ownBlock ≠ some b) : Owns w' base 55 1 v rows :=
  h.kept fun g hg ho => by
    obtain ⟨c, fz, e1⟩ := Lib.ownsRow_kind h.2 g ho
    rw [hk g _ e1 (fun e => hb (by rw [ho]; exact e)) (fun c fz e => by cases e), e1]
end Go.Proofs.YtajodeahigmcoaaDoor
