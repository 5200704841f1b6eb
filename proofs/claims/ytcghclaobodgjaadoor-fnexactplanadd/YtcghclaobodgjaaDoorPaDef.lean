/-
  The plan of adding, as plain data.
-/
import Derived.Test.YtcghclaobodgjaaDoorRows
import Derived.Test.YtcghclaobodgjaaDoorChDef
import Derived.Test.YtcghclaobodgjaaDoorShowImplD
import Derived.Test.YtcghclaobodgjaaDoorFrame
import Derived.Test.YtcghclaobodgjaaDoorBldLay
import Derived.Test.YtcghclaobodgjaaDoorSpRow
import Derived.Lib.OwnKind
import Derived.Handy
namespace Go.Proofs.YtcghclaobodgjaaDoor
open Go.ChangeShapes Go.WideShapes Go.ChangeAt Go.RowKit Go.PlainAid
set_option linter.unusedVariables false

/-- Records framed one behind the other. -/
def catF (l : List Rcd) : ByteArray := l.foldl (fun s r => s ++ frame (showR r)) ByteArray.empty
theorem catF_snoc (l : List Rcd) (r : Rcd) : catF (l ++ [r]) = catF l ++ frame (showR r) := by simp [catF, List.foldl_append]
theorem frame_size (b : ByteArray) : (frame b).size ≤ 2008 := by
  unfold frame
  split
  · rw [txt_size]
    exact Nat.zero_le _
  · rw [frameOf_size]
    omega
theorem catF_size (l : List Rcd) : (catF l).size ≤ 2008 * l.length := by
  have key : ∀ (l : List Rcd) (s : ByteArray), (l.foldl (fun s r => s ++ frame (showR r)) s).size ≤ s.size + 2008 * l.length := by
    intro l
    induction l with
    | nil => intro s; simp
    | cons r l ih =>
      intro s
      have h1 := ih (s ++ frame (showR r))
      have h2 := frame_size (showR r)
      rw [ByteArray.size_append] at h1
      simp only [List.foldl_cons, List.length_cons]
      omega
  have := key l ByteArray.empty
  have z : ByteArray.empty.size = 0 := rfl
  unfold catF
  omega
theorem showR_size (r : Rcd) (h : r.data.size ≤ 900) : (showR r).size ≤ 1000 := by
  unfold showR
  split
  · unfold showB
    have h1 := vsize r.term.toNat
    have h2 := vsize r.index.toNat
    have h3 := vsize (r.vote + 1).toNat
    simp only [ByteArray.size_append, txt_size] at *
    simp
    omega
  · exact Nat.zero_le _
theorem strCells_append (a b : ByteArray) : Lib.strCells (a ++ b) = Lib.strCells a ++ Lib.strCells b := by simp [Lib.strCells, ByteArray.data_append]
theorem bld_on {w w' : World} {B b : Nat} {bs : List Value} (h : Lib.IsBuilderF 51 5 B b bs w) (hb : Below w.heap.size w w') : Lib.IsBuilderF 51 5 B b bs w' := by
  have key : ∀ p, Lib.BuilderAtF 51 5 B b p bs w → Lib.BuilderAtF 51 5 B b p bs w' := by
    rintro p ⟨hB, v, hh, hown, hne⟩
    refine ⟨hB, v, by rw [hb.block b (lt_of_block hh)]; exact hh, ⟨hown.1, ?_⟩, hne⟩
    rcases hown.2 with h | ⟨g, cap, cur, fz, rfl, hbg, hg, rest⟩
    · exact .inl h
    · refine .inr ⟨g, cap, cur, fz, rfl, hbg, ?_, rest⟩
      rw [hb.block g (Array.getElem?_eq_some_iff.1 hg).1]
      exact hg
  exact h.imp (key _) (key _)
theorem bld_new {w : World} {b : Nat} (h : Blk w b #[.pointer none, .slice none 0 0] 51) : Lib.IsBuilderF 51 5 b b (Lib.strCells ByteArray.empty) w :=
  .inl ⟨Nat.le_refl _, .slice none 0 0, h, ⟨rfl, .inl ⟨rfl, rfl⟩⟩, fun e => by cases e⟩
theorem take_snoc (l : List Rcd) (k : Nat) (hk : k < l.length) : l.take (k + 1) = l.take k ++ [l.getD k default] := by
  rw [List.getD_eq_getElem?_getD, List.getElem?_eq_getElem hk]
  exact List.take_succ_eq_append_getElem hk
/-- The steps that add records to the log. -/
def planOf (l : List Rcd) : List Stp := if l.length = 0 then [] else [⟨2, ⟨#[108, 111, 103]⟩, ⟨#[]⟩, catF l⟩, ⟨3, ⟨#[108, 111, 103]⟩, ⟨#[]⟩, ⟨#[]⟩⟩]
theorem planOf_length (l : List Rcd) : (planOf l).length ≤ 2 := by
  unfold planOf
  split <;> simp
theorem ch_len {a b : Wl} {l : List Rcd} {ok : Bool} (h : ChAns a b l ok) : l.length ≤ 62 := by
  rcases h with ⟨_, h, k, _, rfl⟩ | ⟨_, _, rfl⟩
  · exact chList_length a b k (ok_in b h.2.1).1
  · exact Nat.zero_le _
theorem ch_no {a b : Wl} {l : List Rcd} (h : ChAns a b l false) : l = [] := by
  rcases h with ⟨h, _⟩ | ⟨_, _, h⟩
  · cases h
  · exact h
theorem ch_data {a b : Wl} {l : List Rcd} {ok : Bool} (h : ChAns a b l ok) : ∀ r ∈ l, r.data.size ≤ 900 := by
  intro r hr
  rcases h with ⟨_, h, k, hp, rfl⟩ | ⟨_, _, rfl⟩
  · have hd := (ok_in b h.2.1).2.2
    unfold chList hardR cutR at hr
    rw [List.mem_append, List.mem_append] at hr
    rcases hr with (hr | hr) | hr
    · split at hr
      · cases hr
      · rw [List.mem_singleton.1 hr]
        exact Nat.zero_le _
    · split at hr
      · rw [List.mem_singleton.1 hr]
        exact Nat.zero_le _
      · cases hr
    · obtain ⟨i, hi, rfl⟩ := List.mem_map.1 hr
      have hi' : k + i < b.ents.length := by have := List.mem_range.1 hi; omega
      show (b.ents.getD (k + i) default).data.size ≤ 900
      rw [List.getD_eq_getElem?_getD, List.getElem?_eq_getElem hi']
      exact hd _ (List.getElem_mem hi')
  · cases hr
/-- Two steps in a slice of the call's own. -/
theorem Owns.steps (w : World) (l : List Rcd) (h : l.length ≠ 0) : Owns (w.alloc (.cells #[.int .i64 2, .string ⟨#[108, 111, 103]⟩, .string ⟨#[]⟩, .string (catF l), .int .i64 3, .string ⟨#[108, 111, 103]⟩, .string ⟨#[]⟩, .string ⟨#[]⟩] 46)) w.heap.size 46 4 (.slice (some ⟨w.heap.size, 0, none⟩) 2 2) (stpR (planOf l)) := by
  unfold planOf
  rw [if_neg h]
  exact ⟨fun r hr => by simp [stpR, stpC] at hr; rcases hr with rfl | rfl <;> rfl, World.ownsRow_lit w #[.int .i64 2, .string ⟨#[108, 111, 103]⟩, .string ⟨#[]⟩, .string (catF l), .int .i64 3, .string ⟨#[108, 111, 103]⟩, .string ⟨#[]⟩, .string ⟨#[]⟩] 2 (Nat.le_refl _) (by unfold maxLen; omega) (by simp)⟩
theorem planOf_nil : planOf [] = [] := rfl
end Go.Proofs.YtcghclaobodgjaaDoor
