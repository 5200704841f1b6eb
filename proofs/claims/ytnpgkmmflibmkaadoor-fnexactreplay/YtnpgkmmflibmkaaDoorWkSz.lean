/-
  Contracts of the laws' own measure of a log or a record that came in: szEntry, szEntryS, szWal, szRec.
-/
import Derived.Test.YtnpgkmmflibmkaaDoorRows
import Derived.Test.YtnpgkmmflibmkaaDoorWkBlk
import Derived.WalkKit
import Derived.ProofKit
import Derived.OpenShut
import Derived.Below
import Derived.WalkSmall
import Derived.WalkLawsBesides
import Derived.Outline
import Derived.BigQuiet
import Derived.Deep.QuietTactic
namespace Go.Proofs.YtnpgkmmflibmkaaDoor
open Go.ChangeShapes Go.WideShapes Go.ChangeAt Go.RowKit Go.PlainAid
set_option linter.unusedVariables false

/-- How much the rows weigh. -/
def wtE1 (x : Ent) : Nat := x.data.size
def wtE : List Ent → Nat
  | [] => 0
  | x :: r => wtE1 x + wtE r
theorem wtE_snoc (l : List Ent) (k : Nat) (h : k < l.length) : wtE (l.take (k + 1)) = wtE (l.take k) + wtE1 (l.getD k default) := by
  rw [← getD_at l k h]
  induction l generalizing k with
  | nil => simp at h
  | cons x r ih =>
    cases k with
    | zero => simp [wtE]
    | succ k => simp only [List.take_succ_cons, wtE, List.getElem_cons_succ]; rw [ih k (by simpa using h)]; omega
/-- The value of one. -/
def vEnt (x : Ent) : Value := .agg #[.int .i64 x.term, .string x.data]

/-- How much the rows weigh. -/
def wtR1 (x : Rcd) : Nat := x.data.size
/-- The value of one. -/
def vRcd (x : Rcd) : Value := .agg #[.int .i64 x.kind, .int .i64 x.term, .int .i64 x.index, .int .i64 x.vote, .string x.data]

/-- How much a log weighs. -/
def wtW (x : Wl) : Nat := x.ents.length + wtE x.ents
theorem wtE_mem (l : List Ent) : ∀ e ∈ l, e.data.size ≤ wtE l := by
  induction l with
  | nil => intro e he; cases he
  | cons x r ih =>
    intro e he
    unfold wtE wtE1
    rcases List.mem_cons.1 he with rfl | h
    · omega
    · have := ih e h; omega

end Go.Proofs.YtnpgkmmflibmkaaDoor
