/-
  Contracts of errors.Is for an error of the program's own make (a struct that wraps a sentinel) and a sentinel.
-/
import Derived.Test.YtnpgkmmflibmkaaDoorRows
import Derived.WalkKit
import Derived.LaidEql
import Derived.Stop.Asserts
import Derived.RowKitTokens
import Derived.Below
import Derived.PlainAid
import Derived.WalkSmall
import Derived.Lib.LaidTab
namespace Go.Proofs.YtnpgkmmflibmkaaDoor
open Go.RowKit Go.PlainAid
set_option linter.unusedVariables false

theorem heap_alloc_old {w : World} {k : Nat} {o x : Obj} (h : w.heap[k]? = some x) : (w.alloc o).heap[k]? = some x := by
  show (w.heap.push o)[k]? = _
  rcases Nat.lt_or_ge k w.heap.size with h' | h'
  · simp only [Array.getElem?_push, Nat.ne_of_lt h', if_false]
    exact h
  · rw [Array.getElem?_eq_none h'] at h
    cases h

/-- An error of the program's own: a place, and the sentinel at a. -/
def wrapped (p : Int) (a : Addr) : Value := .iface 82 (.agg #[.int .i64 p, .iface 95 (.pointer (some a))])

end Go.Proofs.YtnpgkmmflibmkaaDoor
