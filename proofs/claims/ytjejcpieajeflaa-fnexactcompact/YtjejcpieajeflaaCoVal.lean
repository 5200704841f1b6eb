/-
  Cores as plain data, what is right of them, and how they lie in memory (no program in sight, no condition).
-/
import Derived.Test.YtjejcpieajeflaaRows
import Derived.Test.YtjejcpieajeflaaWkRow
import Derived.Test.YtjejcpieajeflaaWkSz
import Derived.Test.YtjejcpieajeflaaNmAid
namespace Go.Proofs.Ytjejcpieajeflaa
open Go.ChangeShapes Go.WideShapes Go.ChangeAt Go.RowKit Go.PlainAid
set_option linter.unusedVariables false

theorem Hid.mk {p : Prop} (h : p) : Hid p := h
structure Cor where
  id : Int
  peers : Int
  term : Int
  vote : Int
  role : Int
  lead : Int
  base : Int
  bterm : Int
  log : List Ent
  commit : Int
  yes : List Int
  nxt : List Int
  mat : List Int
def vCo (x : Cor) (ul uy un um : Value) : Value := .agg #[.int .i64 x.id, .int .i64 x.peers, .int .i64 x.term, .int .i64 x.vote, .int .i64 x.role, .int .i64 x.lead, .int .i64 x.base, .int .i64 x.bterm, ul, .int .i64 x.commit, uy, un, um]
/-- The value v is the core x, its rows below B. -/
def CorV (w : World) (B : Nat) (v : Value) (x : Cor) : Prop := ∃ ul uy un um, v = vCo x ul uy un um ∧ Lies w B 2 ul (entR x.log) ∧ NumsV w B uy x.yes ∧ NumsV w B un x.nxt ∧ NumsV w B um x.mat
theorem CorV.on {w w' : World} {B : Nat} {v : Value} {x : Cor} (h : CorV w B v x) (hb : Below B w w') : CorV w' B v x := by
  obtain ⟨ul, uy, un, um, e, h1, h2, h3, h4⟩ := h
  exact ⟨ul, uy, un, um, e, h1.on hb, h2.on hb, h3.on hb, h4.on hb⟩
theorem CorV.mono {w : World} {B C : Nat} {v : Value} {x : Cor} (h : CorV w B v x) (hB : B ≤ C) : CorV w C v x := by
  obtain ⟨ul, uy, un, um, e, h1, h2, h3, h4⟩ := h
  exact ⟨ul, uy, un, um, e, h1.mono hB, h2.mono hB, h3.mono hB, h4.mono hB⟩
/-- What a machine's lengths allow. -/
structure FitsC (x : Cor) : Prop where
  n : x.log.length ≤ maxLen
  d : ∀ y ∈ x.log, y.data.size ≤ maxLen
  y : x.yes.length ≤ maxLen
  q : x.nxt.length ≤ maxLen
  m : x.mat.length ≤ maxLen
def wtC (x : Cor) : Nat := x.log.length + wtE x.log + x.yes.length + x.nxt.length + x.mat.length
/-- As long as the laws look at. -/
structure ShortC (x : Cor) : Prop where
  n : x.log.length ≤ 1048576
  d : ∀ y ∈ x.log, y.data.size ≤ 1048576
  y : x.yes.length ≤ 1048576
  q : x.nxt.length ≤ 1048576
  m : x.mat.length ≤ 1048576
/-- The last number; its log; the term at a number. -/
def cLast (x : Cor) : Int := x.base + (x.log.length : Int)
def corW (x : Cor) : Wl := ⟨x.term, x.vote, x.base, x.bterm, x.log⟩
def termAt (x : Cor) (i : Int) : Int := if i = x.base then x.bterm else (x.log.getD (i - x.base - 1).toNat default).term
/-- What is right in each role. -/
structure RFol (x : Cor) : Prop where
  a : -1 ≤ x.lead
  b : x.lead ≤ x.peers - 1
  c : x.lead ≠ x.id
  y : x.yes.length = 0
  n : x.nxt.length = 0
  m : x.mat.length = 0
/-- From k on: numbers that rise, none below 0, all below p. -/
structure RSeek (x : Cor) : Prop where
  t : 1 ≤ x.term
  v : x.vote = x.id
  l : x.lead = -1
  i : ∀ j, j < x.yes.length → 0 ≤ x.yes.getD j 0 ∧ x.yes.getD j 0 ≤ x.peers - 1
  r : ∀ j, j + 1 < x.yes.length → x.yes.getD j 0 < x.yes.getD (j + 1) 0
  h : x.id ∈ x.yes
  f : 2 * (x.yes.length : Int) ≤ x.peers
  n : x.nxt.length = 0
  m : x.mat.length = 0
structure RLead (x : Cor) : Prop where
  t : 1 ≤ x.term
  v : x.vote = x.id
  l : x.lead = x.id
  y : x.yes.length = 0
  n : (x.nxt.length : Int) = x.peers
  m : (x.mat.length : Int) = x.peers
  a : ∀ j, j < x.mat.length → 0 ≤ x.mat.getD j 0 ∧ x.mat.getD j 0 < x.nxt.getD j 0 ∧ x.nxt.getD j 0 ≤ cLast x + 1
  o : x.mat.getD x.id.toNat 0 = cLast x
/-- All that does not hang on the role. -/
structure COk0 (x : Cor) : Prop where
  p : 1 ≤ x.peers ∧ x.peers ≤ 5
  i : 0 ≤ x.id ∧ x.id ≤ x.peers - 1
  w : walOk (corW x) = true
  v : x.vote < x.peers
  c : x.base ≤ x.commit ∧ x.commit ≤ cLast x
def RoleOk (x : Cor) : Prop := (x.role = 1 ∧ RFol x) ∨ (x.role = 2 ∧ RSeek x) ∨ (x.role = 3 ∧ RLead x)
/-- A right core. -/
def COk (x : Cor) : Prop := COk0 x ∧ RoleOk x
open Classical in
noncomputable def corOk (x : Cor) : Bool := decide (COk x)
open Classical in
noncomputable def roleB (x : Cor) : Bool := decide (RoleOk x)
def SeekP (x : Cor) : Prop := (∀ j, j < x.yes.length → 0 ≤ x.yes.getD j 0 ∧ x.yes.getD j 0 ≤ x.peers - 1) ∧ (∀ j, j + 1 < x.yes.length → x.yes.getD j 0 < x.yes.getD (j + 1) 0) ∧ x.id ∈ x.yes ∧ 2 * (x.yes.length : Int) ≤ x.peers
def ReachP (x : Cor) : Prop := (x.nxt.length : Int) = x.peers ∧ (x.mat.length : Int) = x.peers ∧ (∀ j, j < x.mat.length → 0 ≤ x.mat.getD j 0 ∧ x.mat.getD j 0 < x.nxt.getD j 0 ∧ x.nxt.getD j 0 ≤ cLast x + 1) ∧ x.mat.getD x.id.toNat 0 = cLast x
open Classical in
noncomputable def seekB (x : Cor) : Bool := decide (SeekP x)
open Classical in
noncomputable def reachB (x : Cor) : Bool := decide (ReachP x)
open Classical in
theorem seekB_no {x : Cor} (h : ¬ SeekP x) : seekB x = false := decide_eq_false h
open Classical in
theorem seekB_ok {x : Cor} (h : seekB x = true) : SeekP x := of_decide_eq_true h
open Classical in
theorem seekB_not {x : Cor} (h : seekB x = false) : ¬ SeekP x := of_decide_eq_false h
open Classical in
theorem reachB_no {x : Cor} (h : ¬ ReachP x) : reachB x = false := decide_eq_false h
open Classical in
theorem reachB_yes {x : Cor} (h : ReachP x) : reachB x = true := decide_eq_true h
open Classical in
theorem reachB_ok {x : Cor} (h : reachB x = true) : ReachP x := of_decide_eq_true h
open Classical in
theorem reachB_not {x : Cor} (h : reachB x = false) : ¬ ReachP x := of_decide_eq_false h
open Classical in
theorem corOk_yes {x : Cor} (h : COk x) : corOk x = true := decide_eq_true h
open Classical in
theorem corOk_no {x : Cor} (h : ¬ COk x) : corOk x = false := decide_eq_false h
open Classical in
theorem corOk_ok {x : Cor} (h : corOk x = true) : COk x := of_decide_eq_true h
open Classical in
theorem roleB_yes {x : Cor} (h : RoleOk x) : roleB x = true := decide_eq_true h
open Classical in
theorem roleB_no {x : Cor} (h : ¬ RoleOk x) : roleB x = false := decide_eq_false h
open Classical in
theorem seekB_yes {x : Cor} (h1 : ∀ j, j < x.yes.length → 0 ≤ x.yes.getD j 0 ∧ x.yes.getD j 0 ≤ x.peers - 1) (h2 : ∀ j, j + 1 < x.yes.length → x.yes.getD j 0 < x.yes.getD (j + 1) 0) (h3 : x.id ∈ x.yes) (h4 : 2 * (x.yes.length : Int) ≤ x.peers) : seekB x = true := decide_eq_true ⟨h1, h2, h3, h4⟩
open Classical in
theorem corOk_and {x : Cor} (h : COk0 x) : corOk x = roleB x := by
  unfold corOk roleB
  rw [decide_eq_decide]
  exact ⟨fun q => q.2, fun q => ⟨h, q⟩⟩
/-- What is known of a right log. -/
theorem walOk_in {x : Wl} (h : walOk x = true) : (0 ≤ x.term ∧ x.term ≤ 100000) ∧ (-1 ≤ x.vote ∧ x.vote ≤ 4) ∧ (0 ≤ x.base ∧ x.base ≤ 100000) ∧ (0 ≤ x.bterm ∧ x.bterm ≤ x.term) ∧ x.ents.length ≤ 60 ∧ x.base + (x.ents.length : Int) ≤ 100000 ∧ entsOk x.term x.bterm x.ents = true := by
  unfold walOk based inIt at h
  simp only [Bool.and_eq_true, decide_eq_true_eq] at h
  obtain ⟨⟨⟨⟨⟨⟨h1, h2⟩, h3⟩, h4⟩, h5⟩, h6⟩, h7⟩ := h
  refine ⟨h1, h2, ?_, ?_, h5, h6, h7⟩
  · split at h3
    · omega
    · simp only [Bool.and_eq_true, decide_eq_true_eq] at h3
      omega
  · split at h3
    · have := of_decide_eq_true h3
      omega
    · simp only [Bool.and_eq_true, decide_eq_true_eq] at h3
      omega
theorem ents_in (top : Int) : ∀ (l : List Ent) (last : Int), entsOk top last l = true → ∀ y ∈ l, 1 ≤ y.term ∧ y.term ≤ top ∧ y.data.size ≤ 900
  | [], _, _, y, hy => by cases hy
  | e :: r, last, h, y, hy => by
    unfold entsOk at h
    simp only [Bool.and_eq_true, decide_eq_true_eq] at h
    obtain ⟨⟨⟨⟨h1, h2⟩, h3⟩, h4⟩, h5⟩ := h
    rcases List.mem_cons.1 hy with rfl | hy
    · exact ⟨h1, h3, h4⟩
    · exact ents_in top r e.term h5 y hy
end Go.Proofs.Ytjejcpieajeflaa
