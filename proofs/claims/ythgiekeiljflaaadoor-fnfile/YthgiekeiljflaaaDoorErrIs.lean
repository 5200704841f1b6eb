/-
  Contracts of errors.Is for an error of the program's own make (a struct that wraps a sentinel) and a sentinel.
-/
import Derived.Test.YthgiekeiljflaaaDoorRows
import Derived.WalkKit
import Derived.LaidEql
import Derived.Stop.Asserts
import Derived.RowKitTokens
import Derived.Below
import Derived.PlainAid
import Derived.WalkSmall
import Derived.Lib.LaidTab
namespace Go.Proofs.YthgiekeiljflaaaDoor
open Go.RowKit Go.PlainAid
set_option linter.unusedVariables false

theorem isTypeOf (v : Value) (w : World) : (callFunc 102 #[.iface 157 v]).run Tryd.prog w = .ok (.value (.iface 147 (.agg #[.pointer (some ⟨4, 157, none⟩)]))) w := by kernel_rfl
theorem isComparable (w : World) : (callFunc 125 #[.agg #[.pointer (some ⟨4, 157, none⟩)]]).run Tryd.prog w = .ok (.value (.bool true)) w := by kernel_rfl
theorem isMethodComparable (v : Value) (w : World) : (Go.method 290 147 v "Comparable").run Tryd.prog w = .ok (125, v) w := by kernel_rfl
theorem isComp : (Tryd.prog.info? 157).map (·.comparable) = some true := by kernel_rfl
theorem isSize : (Tryd.prog.info? 179).map (·.size) = some 1 := by kernel_rfl
theorem noIsE (v : Value) (xT : TypeId) (w : World) : (Instr.typeAssert (.iface 157 v) xT 149 true).run Tryd.prog w = .ok (.tuple #[.nilIface, .bool false]) w := run_typeAssert_lacksB Tryd.underlying149 (by kernel_rfl) (by kernel_rfl) v xT w
theorem noUnwrapE (v : Value) (xT : TypeId) (w : World) : (Instr.typeAssert (.iface 157 v) xT 152 true).run Tryd.prog w = .ok (.tuple #[.nilIface, .bool false]) w := run_typeAssert_lacksB Tryd.underlying152 (by kernel_rfl) (by kernel_rfl) v xT w
theorem noUnwrapsE (v : Value) (xT : TypeId) (w : World) : (Instr.typeAssert (.iface 157 v) xT 154 true).run Tryd.prog w = .ok (.tuple #[.nilIface, .bool false]) w := run_typeAssert_lacksB Tryd.underlying154 (by kernel_rfl) (by kernel_rfl) v xT w
theorem noIsW (v : Value) (xT : TypeId) (w : World) : (Instr.typeAssert (.iface 136 v) xT 149 true).run Tryd.prog w = .ok (.tuple #[.nilIface, .bool false]) w := run_typeAssert_lacksB Tryd.underlying149 (by kernel_rfl) (by kernel_rfl) v xT w
theorem hasUnwrapW (v : Value) (xT : TypeId) (w : World) : (Instr.typeAssert (.iface 136 v) xT 152 true).run Tryd.prog w = .ok (.tuple #[.iface 136 v, .bool true]) w := run_typeAssert_hasB Tryd.underlying152 (by kernel_rfl) v xT w
theorem methodUnwrap (v : Value) (w : World) : (Go.method 290 136 v "Unwrap").run Tryd.prog w = .ok (121, v) w := by kernel_rfl

theorem heap_alloc_old {w : World} {k : Nat} {o x : Obj} (h : w.heap[k]? = some x) : (w.alloc o).heap[k]? = some x := by
  show (w.heap.push o)[k]? = _
  rcases Nat.lt_or_ge k w.heap.size with h' | h'
  · simp only [Array.getElem?_push, Nat.ne_of_lt h', if_false]
    exact h
  · rw [Array.getElem?_eq_none h'] at h
    cases h

/-- An error of the program's own: a place, and the sentinel at a. -/
def wrapped (p : Int) (a : Addr) : Value := .iface 136 (.agg #[.int .i64 p, .iface 157 (.pointer (some a))])

set_option maxRecDepth 20000 in
set_option maxHeartbeats 1000000 in
/-- errors.Is of a wrapped sentinel and this sentinel. -/
theorem is_wrap_same (p : Int) (b : Addr) (w : World) :
    Calls Tryd.prog 99 #[wrapped p b, .iface 157 (.pointer (some b))] w fun e w' => e = .returned (.bool true) ∧ Below w.heap.size w w' := by
  unfold wrapped
  obtain ⟨i, hi, hcmp⟩ := Option.map_eq_some_iff.1 isComp
  obtain ⟨j, hj, hjs⟩ := Option.map_eq_some_iff.1 isSize
  have tT := isTypeOf
  have cT := isComparable
  have mR := isMethodComparable
  have nE := noIsE
  have uE := noUnwrapE
  have vE := noUnwrapsE
  have nW := noIsW
  have uW := hasUnwrapW
  have mU := methodUnwrap
  have heq := fun wx : World => run_eql_iface_ptr_same (P := Tryd.prog) wx b Tryd.underlying126 Tryd.underlying157 hi hcmp hj
  have hty := run_eql_iface_types (P := Tryd.prog) 136 157 (.agg #[.int .i64 p, .iface 157 (.pointer (some b))]) (.pointer (some b)) Tryd.underlying126 (by decide) w
  go_enter Tryd.func99, Tryd.ntmps99
  go_wp2
  refine wp_loop_rounds 2 ?_
  rw [rounds_succ]
  go_wp2
  rw [rounds_succ]
  go_wp2
  go_ret
  exact ⟨rfl, (Below.refl _ _).alloc (Nat.le_refl _) _⟩

set_option maxRecDepth 20000 in
set_option maxHeartbeats 1000000 in
/-- errors.Is of a wrapped sentinel and another sentinel. -/
theorem is_wrap_other (p : Int) (a b : Addr) (ca cb : Array Value) (ta tb : TypeId) (w : World) (hne : a ≠ b) (ha : w.heap[a.block]? = some (.cells ca ta (0, 0))) (hb : w.heap[b.block]? = some (.cells cb tb (0, 0))) :
    Calls Tryd.prog 99 #[wrapped p a, .iface 157 (.pointer (some b))] w fun e w' => e = .returned (.bool false) ∧ Below w.heap.size w w' := by
  unfold wrapped
  obtain ⟨i, hi, hcmp⟩ := Option.map_eq_some_iff.1 isComp
  obtain ⟨j, hj, hjs⟩ := Option.map_eq_some_iff.1 isSize
  have tT := isTypeOf
  have cT := isComparable
  have mR := isMethodComparable
  have nE := noIsE
  have uE := noUnwrapE
  have vE := noUnwrapsE
  have nW := noIsW
  have uW := hasUnwrapW
  have mU := methodUnwrap
  have heq : ∀ o : Obj, _ := fun o => run_eql_iface_ptr_other (P := Tryd.prog) (w.alloc o) Tryd.underlying126 Tryd.underlying157 hi hcmp hj (by rw [hjs]; decide) hne (heap_alloc_old ha) (heap_alloc_old hb)
  have hty := run_eql_iface_types (P := Tryd.prog) 136 157 (.agg #[.int .i64 p, .iface 157 (.pointer (some a))]) (.pointer (some b)) Tryd.underlying126 (by decide) w
  clear ha hb hne
  go_enter Tryd.func99, Tryd.ntmps99
  go_wp2
  refine wp_loop_rounds 2 ?_
  rw [rounds_succ]
  go_wp2
  rw [rounds_succ]
  go_wp2
  go_ret
  exact ⟨rfl, (Below.refl _ _).alloc (Nat.le_refl _) _⟩

end Go.Proofs.YthgiekeiljflaaaDoor
