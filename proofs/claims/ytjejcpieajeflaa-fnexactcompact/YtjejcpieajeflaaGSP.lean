/-
  Answers as plain data, and what the document's words on them come to; contracts of the laws' copies and sizes, and of AnswerOk of both packages.
-/
import Derived.Test.YtjejcpieajeflaaRows
import Derived.Test.YtjejcpieajeflaaAid
import Derived.WalkKit
import Derived.ProofKit
import Derived.OpenShut
import Derived.Below
import Derived.WalkSmall
import Derived.WalkLawsBesides
import Derived.Outline
import Derived.BigQuiet
import Derived.Deep.QuietTactic
import Derived.Handy
import Derived.Test.YtjejcpieajeflaaWkRow
import Derived.Test.YtjejcpieajeflaaWkAid
import Derived.Test.YtjejcpieajeflaaWkSz
import Derived.Test.YtjejcpieajeflaaCoRes
import Derived.Deep.Cut
import Derived.Test.YtjejcpieajeflaaCoI5
import Derived.Test.YtjejcpieajeflaaGCP
import Derived.Test.YtjejcpieajeflaaUntilF
namespace Go.Proofs.Ytjejcpieajeflaa
open Go.ChangeShapes Go.WideShapes Go.ChangeAt Go.RowKit Go.PlainAid
set_option linter.unusedVariables false

structure Ans where
  code : Int
  index : Int
  mark : Int
  data : ByteArray
instance : Inhabited Ans := ⟨⟨0, 0, 0, ByteArray.empty⟩⟩
/-- Is the number in these bounds? -/
def inRg (x lo hi : Int) : Bool := decide (lo ≤ x) && decide (x ≤ hi)
/-- A right answer. -/
def ansOk (x : Ans) : Bool := inRg x.code 0 4 && inRg x.index 0 100000 && inRg x.mark 0 1099511627776 && decide (x.data.size ≤ 900)
def ansA (x : Ans) : Array Value := #[.int .i64 x.code, .int .i64 x.index, .int .i64 x.mark, .string x.data]
def vAns (x : Ans) : Value := .agg #[.int .i64 x.code, .int .i64 x.index, .int .i64 x.mark, .string x.data]
/-- Block g holds these cells. -/
def Cell4 (w : World) (g : Nat) (x : Ans) : Prop := w.cell? ⟨g, 0, none⟩ = some (.int .i64 x.code) ∧ w.cell? ⟨g, 1, none⟩ = some (.int .i64 x.index) ∧ w.cell? ⟨g, 2, none⟩ = some (.int .i64 x.mark) ∧ w.cell? ⟨g, 3, none⟩ = some (.string x.data) ∧ g < w.heap.size
theorem Cell4.on {w w' : World} {B g : Nat} {x : Ans} (h : Cell4 w g x) (hb : Below B w w') (hg : g < B) (hs : B ≤ w.heap.size) : Cell4 w' g x := by
  obtain ⟨a, b, c, c', d⟩ := h
  refine ⟨?_, ?_, ?_, ?_, Nat.lt_of_lt_of_le d ?_⟩
  · rw [hb.cell (p := ⟨_, _, none⟩) hg]; exact a
  · rw [hb.cell (p := ⟨_, _, none⟩) hg]; exact b
  · rw [hb.cell (p := ⟨_, _, none⟩) hg]; exact c
  · rw [hb.cell (p := ⟨_, _, none⟩) hg]; exact c'
  · exact hb.size
theorem Cell4.new (w : World) (x : Ans) (t : TypeId) : Cell4 (w.alloc (.cells #[.int .i64 x.code, .int .i64 x.index, .int .i64 x.mark, .string x.data] t)) w.heap.size x := by
  have h : (w.alloc (.cells #[.int .i64 x.code, .int .i64 x.index, .int .i64 x.mark, .string x.data] t)).heap[w.heap.size]? = some (.cells #[.int .i64 x.code, .int .i64 x.index, .int .i64 x.mark, .string x.data] t (0, 0)) := heap_alloc_new w _
  refine ⟨?_, ?_, ?_, ?_, by simp⟩
  · rw [cell_of_row _ _ 0 _ t (0, 0) h]; rfl
  · rw [cell_of_row _ _ 1 _ t (0, 0) h]; rfl
  · rw [cell_of_row _ _ 2 _ t (0, 0) h]; rfl
  · rw [cell_of_row _ _ 3 _ t (0, 0) h]; rfl
theorem below_a1 (w : World) (a : Obj) : Below w.heap.size w (w.alloc a) := (Below.refl _ w).alloc (Nat.le_refl _) a
theorem below_a3 (w : World) (a b c : Obj) : Below w.heap.size w (((w.alloc a).alloc b).alloc c) := (((Below.refl _ w).alloc (Nat.le_refl _) a).alloc (by simp) b).alloc (by simp; omega) c

set_option maxHeartbeats 400000 in
theorem inS (x lo hi : Int) (w : World) : Calls Try.prog 39 #[.int .i64 x, .int .i64 lo, .int .i64 hi] w fun e w' => e = .returned (.bool (inRg x lo hi)) ∧ w = w' := by
  by_cases h1 : lo ≤ x
  · go_enter Try.func39, Try.ntmps39
    go_wp2
    go_ret
    exact ⟨by simp [inRg, h1], rfl⟩
  · have z : decide (lo ≤ x) = false := decide_eq_false h1
    have z2 : x < lo := by omega
    go_enter Try.func39, Try.ntmps39
    go_wp2
    go_ret
    exact ⟨by unfold inRg; rw [z]; rfl, rfl⟩
set_option maxHeartbeats 400000 in
theorem inI (x lo hi : Int) (w : World) : Calls Try.prog 46 #[.int .i64 x, .int .i64 lo, .int .i64 hi] w fun e w' => e = .returned (.bool (inRg x lo hi)) ∧ w = w' := by
  by_cases h1 : lo ≤ x
  · go_enter Try.func46, Try.ntmps46
    go_wp2
    go_ret
    exact ⟨by simp [inRg, h1], rfl⟩
  · have z : decide (lo ≤ x) = false := decide_eq_false h1
    have z2 : x < lo := by omega
    go_enter Try.func46, Try.ntmps46
    go_wp2
    go_ret
    exact ⟨by unfold inRg; rw [z]; rfl, rfl⟩

end Go.Proofs.Ytjejcpieajeflaa

/-
  Messages as plain data, what is right of them, and how they lie in memory.
-/
namespace Go.Proofs.Ytjejcpieajeflaa
open Go.ChangeShapes Go.WideShapes Go.ChangeAt Go.RowKit Go.PlainAid
set_option linter.unusedVariables false

structure Mg where
  kind : Int
  frm : Int
  dst : Int
  term : Int
  index : Int
  iterm : Int
  commit : Int
  yes : Bool
  ents : List Ent
  data : ByteArray
/-- The value of one. -/
def vMg (x : Mg) (u : Value) : Value := .agg #[.int .i64 x.kind, .int .i64 x.frm, .int .i64 x.dst, .int .i64 x.term, .int .i64 x.index, .int .i64 x.iterm, .int .i64 x.commit, .bool x.yes, u, .string x.data]
/-- It lies somewhere below B. -/
def MgV (w : World) (B : Nat) (v : Value) (x : Mg) : Prop := ∃ u, v = vMg x u ∧ Lies w B 2 u (entR x.ents)
/-- Its entries are the call's own. -/
def MgO (w : World) (base : Nat) (v : Value) (x : Mg) : Prop := ∃ u, v = vMg x u ∧ Owns w base 88 2 u (entR x.ents)
theorem MgV.on {w w' : World} {B : Nat} {v : Value} {x : Mg} (h : MgV w B v x) (hb : Below B w w') : MgV w' B v x := by
  obtain ⟨u, e, hl⟩ := h
  exact ⟨u, e, hl.on hb⟩
theorem MgV.mono {w : World} {B C : Nat} {v : Value} {x : Mg} (h : MgV w B v x) (hB : B ≤ C) : MgV w C v x := by
  obtain ⟨u, e, hl⟩ := h
  exact ⟨u, e, hl.mono hB⟩
theorem MgO.lies {w : World} {base : Nat} {v : Value} {x : Mg} (h : MgO w base v x) : MgV w w.heap.size v x := by
  obtain ⟨u, e, hl⟩ := h
  exact ⟨u, e, hl.lies⟩
theorem MgO.on {w w' : World} {base : Nat} {v : Value} {x : Mg} (h : MgO w base v x) (hb : Below w.heap.size w w') : MgO w' base v x := by
  obtain ⟨u, e, hl⟩ := h
  exact ⟨u, e, hl.on hb⟩
theorem MgO.mono {w : World} {base base' : Nat} {v : Value} {x : Mg} (h : MgO w base v x) (hb : base' ≤ base) : MgO w base' v x := by
  obtain ⟨u, e, hl⟩ := h
  exact ⟨u, e, hl.mono hb⟩
/-- What a machine's lengths allow. -/
structure FitsM (x : Mg) : Prop where
  n : x.ents.length ≤ maxLen
  d : ∀ y ∈ x.ents, y.data.size ≤ maxLen
  t : x.data.size ≤ maxLen
def wtM (x : Mg) : Nat := x.ents.length + wtE x.ents + x.data.size
def srvB (a : Int) : Bool := inRg a 0 4
def cliB (a : Int) : Bool := inRg a 11 14
theorem Hid.mkM {p : Prop} (h : p) : Hid p := h
/-- Two servers that are not one. -/
def svB (x : Mg) : Bool := srvB x.frm && srvB x.dst && decide (x.frm ≠ x.dst)
def askB (x : Mg) : Bool := cliB x.frm && srvB x.dst
def telB (x : Mg) : Bool := srvB x.frm && cliB x.dst
/-- Who says it to whom. -/
def endB (x : Mg) : Bool := if x.kind = 6 then askB x else if x.kind = 7 then telB x else svB x
/-- The message without what its kind names. -/
def unT (x : Mg) : Mg := if x.kind < 6 then { x with term := 0 } else x
def unn (x : Mg) : Mg :=
  if x.kind = 1 then { unT x with index := 0, iterm := 0 }
  else if x.kind = 2 then { unT x with yes := false }
  else if x.kind = 3 then { unT x with index := 0, iterm := 0, commit := 0, ents := [] }
  else if x.kind = 4 then { unT x with yes := false, index := 0 }
  else if x.kind = 5 then { unT x with index := 0, iterm := 0, data := ⟨#[]⟩ }
  else if x.kind = 6 ∨ x.kind = 7 then { unT x with index := 0, data := ⟨#[]⟩ }
  else unT x
def nonB (x : Mg) : Bool := decide (x.term = 0) && decide (x.index = 0) && decide (x.iterm = 0) && decide (x.commit = 0) && !x.yes && decide (x.ents.length = 0) && decide (x.data = ByteArray.empty)
end Go.Proofs.Ytjejcpieajeflaa

/-
  Rows of messages; a core that speaks (no program in sight).
-/
namespace Go.Proofs.Ytjejcpieajeflaa
open Go.ChangeShapes Go.WideShapes Go.ChangeAt Go.RowKit Go.PlainAid
set_option linter.unusedVariables false

instance : Inhabited Mg := ⟨⟨0, 0, 0, 0, 0, 0, 0, false, [], ⟨#[]⟩⟩⟩
instance : Inhabited (Mg × Value) := ⟨⟨default, .slice none 0 0⟩⟩
/-- The cells of a message whose entries lie at a slice. -/
def mgC (p : Mg × Value) : List Value := [.int .i64 p.1.kind, .int .i64 p.1.frm, .int .i64 p.1.dst, .int .i64 p.1.term, .int .i64 p.1.index, .int .i64 p.1.iterm, .int .i64 p.1.commit, .bool p.1.yes, p.2, .string p.1.data]
def mgR (L : List (Mg × Value)) : List (List Value) := L.map mgC
theorem mgR_length (L : List (Mg × Value)) : (mgR L).length = L.length := by simp [mgR]
theorem mgR_append (L M : List (Mg × Value)) : mgR (L ++ M) = mgR L ++ mgR M := by simp [mgR]
theorem mgR_sz (L : List (Mg × Value)) : ∀ r ∈ mgR L, r.length = 10 := by
  intro r hr
  obtain ⟨x, _, rfl⟩ := List.mem_map.1 hr
  rfl
/-- Messages of the call's own: the slice, and the entries of each apart from the others'. -/
structure MsO (w : World) (base : Nat) (v : Value) (L : List (Mg × Value)) : Prop where
  r : Owns w base 78 10 v (mgR L)
  e : ∀ p ∈ L, Owns w base 88 2 p.2 (entR p.1.ents)
  a : L.Pairwise fun p q => Apart p.2 q.2
theorem MsO.nil (w : World) (base : Nat) : MsO w base (.slice none 0 0) [] := ⟨⟨fun r hr => (by cases hr), World.ownsRow_nil w base 78 10⟩, fun p hp => (by cases hp), List.Pairwise.nil⟩
theorem MsO.on {w w' : World} {base : Nat} {v : Value} {L : List (Mg × Value)} (h : MsO w base v L) (hb : Below w.heap.size w w') : MsO w' base v L := ⟨h.r.on hb, fun p hp => (h.e p hp).on hb, h.a⟩
theorem MsO.mono {w : World} {base base' : Nat} {v : Value} {L : List (Mg × Value)} (h : MsO w base v L) (hb : base' ≤ base) : MsO w base' v L := ⟨h.r.mono hb, fun p hp => (h.e p hp).mono hb, h.a⟩
theorem MsO.kept {w w' : World} {base : Nat} {v : Value} {L : List (Mg × Value)} (h : MsO w base v L) (hk : ∀ g, g < w.heap.size → base ≤ g → w'.heap[g]? = w.heap[g]?) : MsO w' base v L := ⟨h.r.kept fun g hg e => hk g hg (h.r.lt g e).1, fun p hp => (h.e p hp).kept fun g hg e => hk g hg ((h.e p hp).lt g e).1, h.a⟩
theorem MsO.low {w : World} {bs g j : Nat} {v u : Value} {L : List (Mg × Value)} (h : MsO w bs u L) (hl : g < bs) : MsO (w.setCell ⟨g, j, none⟩ v) bs u L := h.kept fun k _ hk => Below.heap_setCell _ _ _ _ (show k ≠ g by omega)
/-- All below B is as it was, but one block. -/
structure BelowX (g B : Nat) (w w' : World) : Prop where
  os : w'.os = w.os
  tape : w'.tape = w.tape
  output : w'.output = w.output
  size : w.heap.size ≤ w'.heap.size
  block : ∀ k, k < B → k ≠ g → w'.heap[k]? = w.heap[k]?
theorem BelowX.of {g B : Nat} {w w' : World} (h : Below B w w') : BelowX g B w w' := ⟨h.os, h.tape, h.output, h.size, fun k hk _ => h.block k hk⟩
theorem BelowX.trans {g B : Nat} {w w' w'' : World} (h : BelowX g B w w') (h' : BelowX g B w' w'') : BelowX g B w w'' := ⟨h'.os.trans h.os, h'.tape.trans h.tape, h'.output.trans h.output, Nat.le_trans h.size h'.size, fun k hk hn => (h'.block k hk hn).trans (h.block k hk hn)⟩
theorem BelowX.mono {g B C : Nat} {w w' : World} (h : BelowX g B w w') (hC : C ≤ B) : BelowX g C w w' := ⟨h.os, h.tape, h.output, h.size, fun k hk hn => h.block k (Nat.lt_of_lt_of_le hk hC) hn⟩
theorem BelowX.below {g B : Nat} {w w' : World} (h : BelowX g B w w') (hg : B ≤ g) : Below B w w' := ⟨h.os, h.tape, h.output, h.size, fun k hk => h.block k hk (by omega)⟩
theorem BelowX.blk {g B k : Nat} {w w' : World} {cs : Array Value} {t : TypeId} (h : BelowX g B w w') (hb : Blk w k cs t) (hk : k < B) (hn : k ≠ g) : Blk w' k cs t := by
  unfold Blk
  rw [h.block k hk hn]
  exact hb
/-- A core that speaks: block p, its rows, what it has said. -/
structure SpkO (w : World) (base p : Nat) (x : Cor) (ul uy un um us : Value) (L : List (Mg × Value)) : Prop where
  b : Blk w p #[.int .i64 x.id, .int .i64 x.peers, .int .i64 x.term, .int .i64 x.vote, .int .i64 x.role, .int .i64 x.lead, .int .i64 x.base, .int .i64 x.bterm, ul, .int .i64 x.commit, uy, un, um, us] 96
  r : CoRows w base x ul uy un um
  m : MsO w base us L
  a : ∀ q ∈ L, ∀ g, q.2.ownBlock = some g → blkF ul ≠ some g
  p : base ≤ p
/-- It speaks somewhere. -/
def Spk (w : World) (base p : Nat) (x : Cor) (M : List Mg) : Prop := ∃ ul uy un um us L, SpkO w base p x ul uy un um us L ∧ L.map Prod.fst = M
theorem SpkO.on {w w' : World} {base p : Nat} {x : Cor} {ul uy un um us : Value} {L : List (Mg × Value)} (h : SpkO w base p x ul uy un um us L) (hb : Below w.heap.size w w') : SpkO w' base p x ul uy un um us L := ⟨h.b.on hb h.b.lt, h.r.on hb, h.m.on hb, h.a, h.p⟩
theorem Spk.on {w w' : World} {base p : Nat} {x : Cor} {M : List Mg} (h : Spk w base p x M) (hb : Below w.heap.size w w') : Spk w' base p x M := by
  obtain ⟨ul, uy, un, um, us, L, h, e⟩ := h
  exact ⟨ul, uy, un, um, us, L, h.on hb, e⟩
theorem SpkO.shape {w : World} {base p : Nat} {x : Cor} {ul uy un um us : Value} {L : List (Mg × Value)} (h : SpkO w base p x ul uy un um us L) : ∃ A0 n0 c0 A1 n1 c1 A2 n2 c2 A3 n3 c3 A4 n4 c4, ul = .slice A0 n0 c0 ∧ uy = .slice A1 n1 c1 ∧ un = .slice A2 n2 c2 ∧ um = .slice A3 n3 c3 ∧ us = .slice A4 n4 c4 := by
  obtain ⟨A0, c0, A1, c1, A2, c2, A3, c3, e0, e1, e2, e3⟩ := h.r.shape
  obtain ⟨A4, n4, c4, e4⟩ := h.m.r.shape
  exact ⟨A0, _, c0, A1, _, c1, A2, _, c2, A3, _, c3, A4, n4, c4, e0, e1, e2, e3, e4⟩
end Go.Proofs.Ytjejcpieajeflaa

/-
  The contract of impl.coreAfter, for whatever is done.
-/
namespace Go.Proofs.Ytjejcpieajeflaa
open Go.ChangeShapes Go.WideShapes Go.ChangeAt Go.RowKit Go.PlainAid
set_option linter.unusedVariables false

theorem otherC13 {w : World} {k g : Nat} {cs : Array Value} {t : TypeId} (h : Blk w k cs t) (hne : k ≠ g) (x0 x1 x2 x3 x4 x5 x6 x7 x8 x9 x10 x11 x12 : Value) : Blk (((((((((((((w.setCell ⟨g, 0, none⟩ x0).setCell ⟨g, 1, none⟩ x1).setCell ⟨g, 2, none⟩ x2).setCell ⟨g, 3, none⟩ x3).setCell ⟨g, 4, none⟩ x4).setCell ⟨g, 5, none⟩ x5).setCell ⟨g, 6, none⟩ x6).setCell ⟨g, 7, none⟩ x7).setCell ⟨g, 8, none⟩ x8).setCell ⟨g, 9, none⟩ x9).setCell ⟨g, 10, none⟩ x10).setCell ⟨g, 11, none⟩ x11).setCell ⟨g, 12, none⟩ x12) k cs t := (((((((((((((h.other hne 0 x0).other hne 1 x1).other hne 2 x2).other hne 3 x3).other hne 4 x4).other hne 5 x5).other hne 6 x6).other hne 7 x7).other hne 8 x8).other hne 9 x9).other hne 10 x10).other hne 11 x11).other hne 12 x12)
theorem rowsM13 {w : World} {bs g : Nat} {u : Value} {L : List (Mg × Value)} (h : MsO w bs u L) (hl : g < bs) (x0 x1 x2 x3 x4 x5 x6 x7 x8 x9 x10 x11 x12 : Value) : MsO (((((((((((((w.setCell ⟨g, 0, none⟩ x0).setCell ⟨g, 1, none⟩ x1).setCell ⟨g, 2, none⟩ x2).setCell ⟨g, 3, none⟩ x3).setCell ⟨g, 4, none⟩ x4).setCell ⟨g, 5, none⟩ x5).setCell ⟨g, 6, none⟩ x6).setCell ⟨g, 7, none⟩ x7).setCell ⟨g, 8, none⟩ x8).setCell ⟨g, 9, none⟩ x9).setCell ⟨g, 10, none⟩ x10).setCell ⟨g, 11, none⟩ x11).setCell ⟨g, 12, none⟩ x12) bs u L := (((((((((((((h.low hl).low hl).low hl).low hl).low hl).low hl).low hl).low hl).low hl).low hl).low hl).low hl).low hl)
theorem BelowX.setCell {g0 B : Nat} {w w' : World} (h : BelowX g0 B w w') {g j : Nat} (hg : B ≤ g) (v : Value) : BelowX g0 B w (w'.setCell ⟨g, j, none⟩ v) := h.trans (BelowX.of ((Below.refl B w').setCell hg v))
theorem belowX13 {g0 B g : Nat} {w w' : World} (h : BelowX g0 B w w') (hg : B ≤ g) (x0 x1 x2 x3 x4 x5 x6 x7 x8 x9 x10 x11 x12 : Value) : BelowX g0 B w (((((((((((((w'.setCell ⟨g, 0, none⟩ x0).setCell ⟨g, 1, none⟩ x1).setCell ⟨g, 2, none⟩ x2).setCell ⟨g, 3, none⟩ x3).setCell ⟨g, 4, none⟩ x4).setCell ⟨g, 5, none⟩ x5).setCell ⟨g, 6, none⟩ x6).setCell ⟨g, 7, none⟩ x7).setCell ⟨g, 8, none⟩ x8).setCell ⟨g, 9, none⟩ x9).setCell ⟨g, 10, none⟩ x10).setCell ⟨g, 11, none⟩ x11).setCell ⟨g, 12, none⟩ x12) := (((((((((((((h.setCell hg _).setCell hg _).setCell hg _).setCell hg _).setCell hg _).setCell hg _).setCell hg _).setCell hg _).setCell hg _).setCell hg _).setCell hg _).setCell hg _).setCell hg _)
theorem heapX13 {k g : Nat} (hk : k ≠ g) (w : World) (x0 x1 x2 x3 x4 x5 x6 x7 x8 x9 x10 x11 x12 : Value) : (((((((((((((w.setCell ⟨g, 0, none⟩ x0).setCell ⟨g, 1, none⟩ x1).setCell ⟨g, 2, none⟩ x2).setCell ⟨g, 3, none⟩ x3).setCell ⟨g, 4, none⟩ x4).setCell ⟨g, 5, none⟩ x5).setCell ⟨g, 6, none⟩ x6).setCell ⟨g, 7, none⟩ x7).setCell ⟨g, 8, none⟩ x8).setCell ⟨g, 9, none⟩ x9).setCell ⟨g, 10, none⟩ x10).setCell ⟨g, 11, none⟩ x11).setCell ⟨g, 12, none⟩ x12).heap[k]? = w.heap[k]? := by
  rw [Below.heap_setCell _ _ _ _ hk, Below.heap_setCell _ _ _ _ hk, Below.heap_setCell _ _ _ _ hk, Below.heap_setCell _ _ _ _ hk, Below.heap_setCell _ _ _ _ hk, Below.heap_setCell _ _ _ _ hk, Below.heap_setCell _ _ _ _ hk, Below.heap_setCell _ _ _ _ hk, Below.heap_setCell _ _ _ _ hk, Below.heap_setCell _ _ _ _ hk, Below.heap_setCell _ _ _ _ hk, Below.heap_setCell _ _ _ _ hk, Below.heap_setCell _ _ _ _ hk]
set_option maxRecDepth 20000 in
set_option maxHeartbeats 16000000 in
theorem coreAfterV (ci cp ct cv cr cd cb cbt : Int) (lg : List Ent) (cc : Int) (ys ns ms : List Int) (u0 u1 u2 u3 : Value) (w : World) (base0 : Nat) (hr : CoRows w base0 ⟨ci, cp, ct, cv, cr, cd, cb, cbt, lg, cc, ys, ns, ms⟩ u0 u1 u2 u3) (hs : ShortC ⟨ci, cp, ct, cv, cr, cd, cb, cbt, lg, cc, ys, ns, ms⟩) (F : Nat) (caps : Array Value) (Rr : Cor) (M : List Mg) (g : Nat) (Qd : Option Obj → Prop) (hg : g ≤ w.heap.size)
    (hF : ∀ args w, (callFunc F args).run Try.prog w = .ok (.enter F args) w)
    (hC : ∀ (w1 : World) (p : Nat), COk ⟨ci, cp, ct, cv, cr, cd, cb, cbt, lg, cc, ys, ns, ms⟩ → Below w.heap.size w w1 → w.heap.size + 2 ≤ w1.heap.size → Spk w1 (w.heap.size + 2) p ⟨ci, cp, ct, cv, cr, cd, cb, cbt, lg, cc, ys, ns, ms⟩ [] → Calls Try.prog F (#[.pointer (some ⟨p, 0, none⟩)] ++ caps) w1 fun e w2 => e = .returned (.tuple #[]) ∧ Spk w2 (w.heap.size + 2) p Rr M ∧ BelowX g (w.heap.size + 2) w1 w2 ∧ Qd w2.heap[g]?) :
    Calls Try.prog 61 #[.agg #[.int .i64 ci, .int .i64 cp, .int .i64 ct, .int .i64 cv, .int .i64 cr, .int .i64 cd, .int .i64 cb, .int .i64 cbt, u0, .int .i64 cc, u1, u2, u3], .func (.func F) #[] caps] w fun e w' => (corOk ⟨ci, cp, ct, cv, cr, cd, cb, cbt, lg, cc, ys, ns, ms⟩ = true ∧ (∃ u us L, e = .returned (.tuple #[u, us]) ∧ CorO w' w.heap.size u Rr ∧ MsO w' w.heap.size us L ∧ L.map Prod.fst = M ∧ ∀ ul uy un um, u = vCo Rr ul uy un um → ∀ q ∈ L, ∀ k, q.2.ownBlock = some k → blkF ul ≠ some k) ∧ BelowX g w.heap.size w w' ∧ Qd w'.heap[g]?) ∨ (corOk ⟨ci, cp, ct, cv, cr, cd, cb, cbt, lg, cc, ys, ns, ms⟩ = false ∧ e = .returned (.tuple #[.agg #[.int .i64 0, .int .i64 0, .int .i64 0, .int .i64 0, .int .i64 0, .int .i64 0, .int .i64 0, .int .i64 0, .slice none 0 0, .int .i64 0, .slice none 0 0, .slice none 0 0, .slice none 0 0], .slice none 0 0]) ∧ Below w.heap.size w w') := by
  have HR : Hid (CoRows w base0 ⟨ci, cp, ct, cv, cr, cd, cb, cbt, lg, cc, ys, ns, ms⟩ u0 u1 u2 u3) := hr
  have HS : Hid (ShortC ⟨ci, cp, ct, cv, cr, cd, cb, cbt, lg, cc, ys, ns, ms⟩) := hs
  have HGw : Hid (g ≤ w.heap.size) := hg
  have HC : Hid (∀ (w1 : World) (p : Nat), COk ⟨ci, cp, ct, cv, cr, cd, cb, cbt, lg, cc, ys, ns, ms⟩ → Below w.heap.size w w1 → w.heap.size + 2 ≤ w1.heap.size → Spk w1 (w.heap.size + 2) p ⟨ci, cp, ct, cv, cr, cd, cb, cbt, lg, cc, ys, ns, ms⟩ [] → Calls Try.prog F (#[.pointer (some ⟨p, 0, none⟩)] ++ caps) w1 fun e w2 => e = .returned (.tuple #[]) ∧ Spk w2 (w.heap.size + 2) p Rr M ∧ BelowX g (w.heap.size + 2) w1 w2 ∧ Qd w2.heap[g]?) := hC
  obtain ⟨A0, Ac0, A1, Ac1, A2, Ac2, A3, Ac3, rfl, rfl, rfl, rfl⟩ := hr.shape
  simp only at HR ⊢
  generalize lg.length = An0 at HR ⊢
  generalize ys.length = An1 at HR ⊢
  generalize ns.length = An2 at HR ⊢
  generalize ms.length = An3 at HR ⊢
  clear hr hs hC hg
  obtain ⟨W0, hW0⟩ : ∃ W0, W0 = (w.alloc (.cells #[.int .i64 ci, .int .i64 cp, .int .i64 ct, .int .i64 cv, .int .i64 cr, .int .i64 cd, .int .i64 cb, .int .i64 cbt, .slice A0 An0 Ac0, .int .i64 cc, .slice A1 An1 Ac1, .slice A2 An2 Ac2, .slice A3 An3 Ac3] 30)).alloc (.cells #[.int .i64 0, .int .i64 0, .int .i64 0, .int .i64 0, .int .i64 0, .int .i64 0, .int .i64 0, .int .i64 0, .slice none 0 0, .int .i64 0, .slice none 0 0, .slice none 0 0, .slice none 0 0] 30) := ⟨_, rfl⟩
  have B0 : Hid (Below w.heap.size w W0) := by unfold Hid; rw [hW0]; exact ((Below.refl _ w).alloc (Nat.le_refl _) _).alloc (by simp) _
  have K0 : Hid (Blk W0 w.heap.size #[.int .i64 ci, .int .i64 cp, .int .i64 ct, .int .i64 cv, .int .i64 cr, .int .i64 cd, .int .i64 cb, .int .i64 cbt, .slice A0 An0 Ac0, .int .i64 cc, .slice A1 An1 Ac1, .slice A2 An2 Ac2, .slice A3 An3 Ac3] 30) := by unfold Hid; rw [hW0]; exact (Blk.new w _ _).alloc _
  have R0 : Hid (Blk W0 (w.heap.size + 1) #[.int .i64 0, .int .i64 0, .int .i64 0, .int .i64 0, .int .i64 0, .int .i64 0, .int .i64 0, .int .i64 0, .slice none 0 0, .int .i64 0, .slice none 0 0, .slice none 0 0, .slice none 0 0] 30) := by unfold Hid; rw [hW0]; have := Blk.new (w.alloc (.cells #[.int .i64 ci, .int .i64 cp, .int .i64 ct, .int .i64 cv, .int .i64 cr, .int .i64 cd, .int .i64 cb, .int .i64 cbt, .slice A0 An0 Ac0, .int .i64 cc, .slice A1 An1 Ac1, .slice A2 An2 Ac2, .slice A3 An3 Ac3] 30)) #[.int .i64 0, .int .i64 0, .int .i64 0, .int .i64 0, .int .i64 0, .int .i64 0, .int .i64 0, .int .i64 0, .slice none 0 0, .int .i64 0, .slice none 0 0, .slice none 0 0, .slice none 0 0] 30; simp only [World.size_alloc] at this; exact this
  have HZ0 : Hid (w.heap.size + 2 ≤ W0.heap.size) := by unfold Hid; rw [hW0]; simp
  have hok := implCoreOk ⟨ci, cp, ct, cv, cr, cd, cb, cbt, lg, cc, ys, ns, ms⟩ (.agg #[.int .i64 ci, .int .i64 cp, .int .i64 ct, .int .i64 cv, .int .i64 cr, .int .i64 cd, .int .i64 cb, .int .i64 cbt, .slice A0 An0 Ac0, .int .i64 cc, .slice A1 An1 Ac1, .slice A2 An2 Ac2, .slice A3 An3 Ac3]) W0 W0.heap.size (HR.out.on B0.out).lies HS.out (Nat.le_refl _)
  go_enter Try.func61, Try.ntmps61
  go_wp2_with fail
  rw [← hW0]
  clear hW0
  refine hok.mono ?_
  rintro e W1 ⟨rfl, hb⟩
  have B1 : Hid (Below w.heap.size w W1) := B0.out.trans (hb.mono B0.out.size)
  have K1 : Hid (Blk W1 w.heap.size #[.int .i64 ci, .int .i64 cp, .int .i64 ct, .int .i64 cv, .int .i64 cr, .int .i64 cd, .int .i64 cb, .int .i64 cbt, .slice A0 An0 Ac0, .int .i64 cc, .slice A1 An1 Ac1, .slice A2 An2 Ac2, .slice A3 An3 Ac3] 30) := K0.out.on hb K0.out.lt
  have R1 : Hid (Blk W1 (w.heap.size + 1) #[.int .i64 0, .int .i64 0, .int .i64 0, .int .i64 0, .int .i64 0, .int .i64 0, .int .i64 0, .int .i64 0, .slice none 0 0, .int .i64 0, .slice none 0 0, .slice none 0 0, .slice none 0 0] 30) := R0.out.on hb R0.out.lt
  have HZ1 : Hid (w.heap.size + 2 ≤ W1.heap.size) := Nat.le_trans HZ0.out hb.size
  clear hok hb K0 R0 B0 HZ0
  cases hc : corOk ⟨ci, cp, ct, cv, cr, cd, cb, cbt, lg, cc, ys, ns, ms⟩
  · obtain ⟨⟨r0, g0⟩, ⟨r1, g1⟩, ⟨r2, g2⟩, ⟨r3, g3⟩, ⟨r4, g4⟩, ⟨r5, g5⟩, ⟨r6, g6⟩, ⟨r7, g7⟩, ⟨r8, g8⟩, ⟨r9, g9⟩, ⟨r10, g10⟩, ⟨r11, g11⟩, ⟨r12, g12⟩, z0, z1, z2, z3, z4, z5, z6, z7, z8, z9, z10, z11, z12⟩ := resC13 (x0 := .int .i64 0) (x1 := .int .i64 0) (x2 := .int .i64 0) (x3 := .int .i64 0) (x4 := .int .i64 0) (x5 := .int .i64 0) (x6 := .int .i64 0) (x7 := .int .i64 0) (x8 := .slice none 0 0) (x9 := .int .i64 0) (x10 := .slice none 0 0) (x11 := .slice none 0 0) (x12 := .slice none 0 0) R1.out
    have FB := Hid.mk (belowC13 B1.out (show w.heap.size ≤ w.heap.size + 1 by omega) (.int .i64 0) (.int .i64 0) (.int .i64 0) (.int .i64 0) (.int .i64 0) (.int .i64 0) (.int .i64 0) (.int .i64 0) (.slice none 0 0) (.int .i64 0) (.slice none 0 0) (.slice none 0 0) (.slice none 0 0))
    have HCF := Hid.mk hc
    clear K1 R1 B1 hc
    go_wp2_with fail
    exact bodyPost_ret (v := .tuple #[.agg #[.int .i64 0, .int .i64 0, .int .i64 0, .int .i64 0, .int .i64 0, .int .i64 0, .int .i64 0, .int .i64 0, .slice none 0 0, .int .i64 0, .slice none 0 0, .slice none 0 0, .slice none 0 0], .slice none 0 0]) (by simp [results, go_sem, z0, z1, z2, z3, z4, z5, z6, z7, z8, z9, z10, z11, z12]) rfl (.inr ⟨HCF.out, rfl, FB.out⟩)
  have HOK : Hid (COk ⟨ci, cp, ct, cv, cr, cd, cb, cbt, lg, cc, ys, ns, ms⟩) := corOk_ok hc
  clear hc
  have y0 := K1.out.cell 0 _ rfl
  have y1 := K1.out.cell 1 _ rfl
  have y2 := K1.out.cell 2 _ rfl
  have y3 := K1.out.cell 3 _ rfl
  have y4 := K1.out.cell 4 _ rfl
  have y5 := K1.out.cell 5 _ rfl
  have y6 := K1.out.cell 6 _ rfl
  have y7 := K1.out.cell 7 _ rfl
  have y8 := K1.out.cell 8 _ rfl
  have y9 := K1.out.cell 9 _ rfl
  have y10 := K1.out.cell 10 _ rfl
  have y11 := K1.out.cell 11 _ rfl
  have y12 := K1.out.cell 12 _ rfl
  have hcp := copyCoI ci cp ct cv cr cd cb cbt lg cc ys ns ms (.slice A0 An0 Ac0) (.slice A1 An1 Ac1) (.slice A2 An2 Ac2) (.slice A3 An3 Ac3) W1 W1.heap.size base0 (HR.out.on B1.out).l.lies (HR.out.on B1.out).y (HR.out.on B1.out).n (HR.out.on B1.out).m HS.out (Nat.le_refl _)
  go_wp2_with fail
  refine hcp.mono ?_
  rintro e W2 ⟨uu, rfl, hO, hb⟩
  obtain ⟨B0q, Bn0, Bc0, B1q, Bn1, Bc1, B2q, Bn2, Bc2, B3q, Bn3, Bc3, rfl, hO'⟩ := hO.sh
  unfold vCo
  simp only
  have BB2 : Hid (Below w.heap.size w W2) := B1.out.trans (hb.mono B1.out.size)
  have R2 : Hid (Blk W2 (w.heap.size + 1) #[.int .i64 0, .int .i64 0, .int .i64 0, .int .i64 0, .int .i64 0, .int .i64 0, .int .i64 0, .int .i64 0, .slice none 0 0, .int .i64 0, .slice none 0 0, .slice none 0 0, .slice none 0 0] 30) := R1.out.on hb R1.out.lt
  have HZ2 : Hid (w.heap.size + 2 ≤ W2.heap.size) := Nat.le_trans HZ1.out hb.size
  have O2 : Hid (CoRows W2 (w.heap.size + 2) ⟨ci, cp, ct, cv, cr, cd, cb, cbt, lg, cc, ys, ns, ms⟩ (.slice B0q Bn0 Bc0) (.slice B1q Bn1 Bc1) (.slice B2q Bn2 Bc2) (.slice B3q Bn3 Bc3)) := hO'.mono HZ1.out
  clear hcp hb hO hO' R1 HZ1 K1 B1 y0 y1 y2 y3 y4 y5 y6 y7 y8 y9 y10 y11 y12
  obtain ⟨W3, hW3⟩ : ∃ W3, W3 = W2.alloc (.cells #[.int .i64 ci, .int .i64 cp, .int .i64 ct, .int .i64 cv, .int .i64 cr, .int .i64 cd, .int .i64 cb, .int .i64 cbt, .slice B0q Bn0 Bc0, .int .i64 cc, .slice B1q Bn1 Bc1, .slice B2q Bn2 Bc2, .slice B3q Bn3 Bc3, .slice none 0 0] 96) := ⟨_, rfl⟩
  have hb3 : Below W2.heap.size W2 W3 := by rw [hW3]; exact (Below.refl _ _).alloc (Nat.le_refl _) _
  have BB3 : Hid (Below w.heap.size w W3) := BB2.out.trans (hb3.mono BB2.out.size)
  have R3 : Hid (Blk W3 (w.heap.size + 1) #[.int .i64 0, .int .i64 0, .int .i64 0, .int .i64 0, .int .i64 0, .int .i64 0, .int .i64 0, .int .i64 0, .slice none 0 0, .int .i64 0, .slice none 0 0, .slice none 0 0, .slice none 0 0] 30) := R2.out.on hb3 R2.out.lt
  have SP3 : Hid (Spk W3 (w.heap.size + 2) W2.heap.size ⟨ci, cp, ct, cv, cr, cd, cb, cbt, lg, cc, ys, ns, ms⟩ []) := ⟨_, _, _, _, _, [], ⟨by rw [hW3]; exact Blk.new W2 _ _, O2.out.on hb3, MsO.nil _ _, fun q hq => (by cases hq), HZ2.out⟩, rfl⟩
  have HZ3 : Hid (w.heap.size + 2 ≤ W3.heap.size) := Nat.le_trans HZ2.out hb3.size
  have hcl := HC.out W3 W2.heap.size HOK.out BB3.out HZ3.out SP3.out
  have hF' := hF (#[.pointer (some ⟨W2.heap.size, 0, none⟩)] ++ caps)
  clear hb3 R2 O2 BB2 SP3 HC
  go_wp2_with fail
  rw [← hW3]
  clear hW3
  generalize W2.heap.size = p at *
  refine hcl.mono ?_
  rintro e W4 ⟨rfl, hSp, hbx, hQ⟩
  have R4 : Hid (Blk W4 (w.heap.size + 1) #[.int .i64 0, .int .i64 0, .int .i64 0, .int .i64 0, .int .i64 0, .int .i64 0, .int .i64 0, .int .i64 0, .slice none 0 0, .int .i64 0, .slice none 0 0, .slice none 0 0, .slice none 0 0] 30) := hbx.blk R3.out (by omega) (by have := HGw.out; omega)
  have BX4 : Hid (BelowX g w.heap.size w W4) := (BelowX.of BB3.out).trans (hbx.mono (by omega))
  have HQ : Hid (Qd W4.heap[g]?) := hQ
  obtain ⟨ul, uy, un, um, us, L, hSp, hLM⟩ := hSp
  obtain ⟨G0, Gn0, Gc0, G1, Gn1, Gc1, G2, Gn2, Gc2, G3, Gn3, Gc3, G4, Gn4, Gc4, rfl, rfl, rfl, rfl, rfl⟩ := hSp.shape
  have SP4 := Hid.mk hSp
  have HLM : Hid (L.map Prod.fst = M) := hLM
  have KP := Hid.mk hSp.b
  obtain ⟨e0, e1, e2, e3, e4, e5, e6, e7, el, e9, ey, en, em⟩ := Rr
  simp only at KP
  clear hcl hSp hbx hQ hLM R3 HZ2 HZ3 BB3 hF'
  go_wp2_with fail
  refine wp_region_until (fun w' => w'.cell? ⟨p, 0, none⟩ = some (.int .i64 e0) ∧ w'.cell? ⟨p, 1, none⟩ = some (.int .i64 e1) ∧ w'.cell? ⟨p, 2, none⟩ = some (.int .i64 e2) ∧ w'.cell? ⟨p, 3, none⟩ = some (.int .i64 e3) ∧ w'.cell? ⟨p, 4, none⟩ = some (.int .i64 e4) ∧ w'.cell? ⟨p, 5, none⟩ = some (.int .i64 e5) ∧ w'.cell? ⟨p, 6, none⟩ = some (.int .i64 e6) ∧ w'.cell? ⟨p, 7, none⟩ = some (.int .i64 e7) ∧ w'.cell? ⟨p, 8, none⟩ = some (.slice G0 Gn0 Gc0) ∧ w'.cell? ⟨p, 9, none⟩ = some (.int .i64 e9) ∧ w'.cell? ⟨p, 10, none⟩ = some (.slice G1 Gn1 Gc1) ∧ w'.cell? ⟨p, 11, none⟩ = some (.slice G2 Gn2 Gc2) ∧ w'.cell? ⟨p, 12, none⟩ = some (.slice G3 Gn3 Gc3) ∧ w'.cell? ⟨p, 13, none⟩ = some (.slice G4 Gn4 Gc4)) (fun _ => false) 10 (by rfl) (by kernel_rfl) ?_
  have V4 : Hid (Below W4.heap.size W4 W4.drew) := (Below.refl _ _).drew
  have FG : Hid (W4.drew.heap[g]? = W4.heap[g]?) := rfl
  generalize W4.drew = Y4 at *
  have KY := Hid.mk (KP.out.on V4.out KP.out.lt)
  have SS0 := Hid.mk (show (fun w' => w'.cell? ⟨p, 0, none⟩ = some (.int .i64 e0) ∧ w'.cell? ⟨p, 1, none⟩ = some (.int .i64 e1) ∧ w'.cell? ⟨p, 2, none⟩ = some (.int .i64 e2) ∧ w'.cell? ⟨p, 3, none⟩ = some (.int .i64 e3) ∧ w'.cell? ⟨p, 4, none⟩ = some (.int .i64 e4) ∧ w'.cell? ⟨p, 5, none⟩ = some (.int .i64 e5) ∧ w'.cell? ⟨p, 6, none⟩ = some (.int .i64 e6) ∧ w'.cell? ⟨p, 7, none⟩ = some (.int .i64 e7) ∧ w'.cell? ⟨p, 8, none⟩ = some (.slice G0 Gn0 Gc0) ∧ w'.cell? ⟨p, 9, none⟩ = some (.int .i64 e9) ∧ w'.cell? ⟨p, 10, none⟩ = some (.slice G1 Gn1 Gc1) ∧ w'.cell? ⟨p, 11, none⟩ = some (.slice G2 Gn2 Gc2) ∧ w'.cell? ⟨p, 12, none⟩ = some (.slice G3 Gn3 Gc3) ∧ w'.cell? ⟨p, 13, none⟩ = some (.slice G4 Gn4 Gc4)) Y4 from ⟨KY.out.cell 0 _ rfl, KY.out.cell 1 _ rfl, KY.out.cell 2 _ rfl, KY.out.cell 3 _ rfl, KY.out.cell 4 _ rfl, KY.out.cell 5 _ rfl, KY.out.cell 6 _ rfl, KY.out.cell 7 _ rfl, KY.out.cell 8 _ rfl, KY.out.cell 9 _ rfl, KY.out.cell 10 _ rfl, KY.out.cell 11 _ rfl, KY.out.cell 12 _ rfl, KY.out.cell 13 _ rfl⟩)
  refine tF 0 SS0.out ?_
  refine tF 1 SS0.out ?_
  refine tF 2 SS0.out ?_
  refine tF 3 SS0.out ?_
  refine tF 4 SS0.out ?_
  refine tF 5 SS0.out ?_
  refine tF 6 SS0.out ?_
  refine tF 7 SS0.out ?_
  have RY := Hid.mk (R4.out.on V4.out R4.out.lt)
  refine until_one 8 (by rfl) (by kernel_rfl) (fun K hK => ?_)
  obtain ⟨⟨r0, g0⟩, ⟨r1, g1⟩, ⟨r2, g2⟩, ⟨r3, g3⟩, ⟨r4, g4⟩, ⟨r5, g5⟩, ⟨r6, g6⟩, ⟨r7, g7⟩, ⟨r8, g8⟩, ⟨r9, g9⟩, ⟨r10, g10⟩, ⟨r11, g11⟩, ⟨r12, g12⟩, z0, z1, z2, z3, z4, z5, z6, z7, z8, z9, z10, z11, z12⟩ := resC13 (x0 := .int .i64 e0) (x1 := .int .i64 e1) (x2 := .int .i64 e2) (x3 := .int .i64 e3) (x4 := .int .i64 e4) (x5 := .int .i64 e5) (x6 := .int .i64 e6) (x7 := .int .i64 e7) (x8 := .slice G0 Gn0 Gc0) (x9 := .int .i64 e9) (x10 := .slice G1 Gn1 Gc1) (x11 := .slice G2 Gn2 Gc2) (x12 := .slice G3 Gn3 Gc3) RY.out
  have KYF := Hid.mk (otherC13 KY.out (show p ≠ w.heap.size + 1 by have := SP4.out.p; omega) (.int .i64 e0) (.int .i64 e1) (.int .i64 e2) (.int .i64 e3) (.int .i64 e4) (.int .i64 e5) (.int .i64 e6) (.int .i64 e7) (.slice G0 Gn0 Gc0) (.int .i64 e9) (.slice G1 Gn1 Gc1) (.slice G2 Gn2 Gc2) (.slice G3 Gn3 Gc3))
  go_simp
  refine hK.out _ _ (fun _ _ => ⟨KYF.out.cell 0 _ rfl, KYF.out.cell 1 _ rfl, KYF.out.cell 2 _ rfl, KYF.out.cell 3 _ rfl, KYF.out.cell 4 _ rfl, KYF.out.cell 5 _ rfl, KYF.out.cell 6 _ rfl, KYF.out.cell 7 _ rfl, KYF.out.cell 8 _ rfl, KYF.out.cell 9 _ rfl, KYF.out.cell 10 _ rfl, KYF.out.cell 11 _ rfl, KYF.out.cell 12 _ rfl, KYF.out.cell 13 _ rfl⟩) ?_
  clear hK K KYF r0 g0 r1 g1 r2 g2 r3 g3 r4 g4 r5 g5 r6 g6 r7 g7 r8 g8 r9 g9 r10 g10 r11 g11 r12 g12
  try simp only [Act.put, List.setIfInBounds_toArray, List.set_cons_zero, List.set_cons_succ]
  refine pF 9 ?_
  refine until_done (by kernel_rfl) ?_ _
  have hlt : w.heap.size + 1 < w.heap.size + 2 := by omega
  have FO := Hid.mk (rowsC13 (SP4.out.r.on V4.out) hlt (.int .i64 e0) (.int .i64 e1) (.int .i64 e2) (.int .i64 e3) (.int .i64 e4) (.int .i64 e5) (.int .i64 e6) (.int .i64 e7) (.slice G0 Gn0 Gc0) (.int .i64 e9) (.slice G1 Gn1 Gc1) (.slice G2 Gn2 Gc2) (.slice G3 Gn3 Gc3))
  have FM := Hid.mk (rowsM13 (SP4.out.m.on V4.out) hlt (.int .i64 e0) (.int .i64 e1) (.int .i64 e2) (.int .i64 e3) (.int .i64 e4) (.int .i64 e5) (.int .i64 e6) (.int .i64 e7) (.slice G0 Gn0 Gc0) (.int .i64 e9) (.slice G1 Gn1 Gc1) (.slice G2 Gn2 Gc2) (.slice G3 Gn3 Gc3))
  have FB := Hid.mk (belowX13 (BX4.out.trans (BelowX.of (V4.out.mono BX4.out.size))) (show w.heap.size ≤ w.heap.size + 1 by omega) (.int .i64 e0) (.int .i64 e1) (.int .i64 e2) (.int .i64 e3) (.int .i64 e4) (.int .i64 e5) (.int .i64 e6) (.int .i64 e7) (.slice G0 Gn0 Gc0) (.int .i64 e9) (.slice G1 Gn1 Gc1) (.slice G2 Gn2 Gc2) (.slice G3 Gn3 Gc3))
  have FQ := Hid.mk (heapX13 (show g ≠ w.heap.size + 1 by have := HGw.out; omega) Y4 (.int .i64 e0) (.int .i64 e1) (.int .i64 e2) (.int .i64 e3) (.int .i64 e4) (.int .i64 e5) (.int .i64 e6) (.int .i64 e7) (.slice G0 Gn0 Gc0) (.int .i64 e9) (.slice G1 Gn1 Gc1) (.slice G2 Gn2 Gc2) (.slice G3 Gn3 Gc3))
  have HWW : Hid (w.heap.size ≤ w.heap.size + 2) := by unfold Hid; omega
  clear R4 KP KY SS0 RY BX4
  try go_wp2_with fail
  exact bodyPost_ret (v := .tuple #[.agg #[.int .i64 e0, .int .i64 e1, .int .i64 e2, .int .i64 e3, .int .i64 e4, .int .i64 e5, .int .i64 e6, .int .i64 e7, .slice G0 Gn0 Gc0, .int .i64 e9, .slice G1 Gn1 Gc1, .slice G2 Gn2 Gc2, .slice G3 Gn3 Gc3], .slice G4 Gn4 Gc4]) (by simp [results, go_sem, z0, z1, z2, z3, z4, z5, z6, z7, z8, z9, z10, z11, z12]) rfl (.inl ⟨corOk_yes HOK.out, ⟨_, _, L, rfl, ⟨_, _, _, _, rfl, FO.out.mono HWW.out⟩, FM.out.mono HWW.out, HLM.out, fun ul uy un um e => by unfold vCo at e; cases e; exact SP4.out.a⟩, FB.out, by rw [FQ.out, FG.out]; exact HQ.out⟩)
end Go.Proofs.Ytjejcpieajeflaa
