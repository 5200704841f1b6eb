/-
  Contracts of errors.Is for an error of the program's own make (a struct that wraps a sentinel) and a sentinel.
-/
import Derived.Test.YtkajnknhggfpoaaDoorRows
import Derived.WalkKit
import Derived.LaidEql
import Derived.Stop.Asserts
import Derived.RowKitTokens
import Derived.Below
import Derived.PlainAid
import Derived.WalkSmall
import Derived.Lib.LaidTab
namespace Go.Proofs.YtkajnknhggfpoaaDoor
open Go.RowKit Go.PlainAid
set_option linter.unusedVariables false

theorem isTypeOf (v : Value) (w : World) : (callFunc 88 #[.iface 153 v]).run Tryd.prog w = .ok (.value (.iface 141 (.agg #[.pointer (some ⟨4, 153, none⟩)]))) w := by kernel_rfl
theorem isComparable (w : World) : (callFunc 116 #[.agg #[.pointer (some ⟨4, 153, none⟩)]]).run Tryd.prog w = .ok (.value (.bool true)) w := by kernel_rfl
theorem isMethodComparable (v : Value) (w : World) : (Go.method 286 141 v "Comparable").run Tryd.prog w = .ok (116, v) w := by kernel_rfl
theorem isComp : (Tryd.prog.info? 153).map (·.comparable) = some true := by kernel_rfl
theorem isSize : (Tryd.prog.info? 175).map (·.size) = some 1 := by kernel_rfl
theorem noIsE (v : Value) (xT : TypeId) (w : World) : (Instr.typeAssert (.iface 153 v) xT 143 true).run Tryd.prog w = .ok (.tuple #[.nilIface, .bool false]) w := run_typeAssert_lacksB Tryd.underlying143 (by kernel_rfl) (by kernel_rfl) v xT w
theorem noUnwrapE (v : Value) (xT : TypeId) (w : World) : (Instr.typeAssert (.iface 153 v) xT 146 true).run Tryd.prog w = .ok (.tuple #[.nilIface, .bool false]) w := run_typeAssert_lacksB Tryd.underlying146 (by kernel_rfl) (by kernel_rfl) v xT w
theorem noUnwrapsE (v : Value) (xT : TypeId) (w : World) : (Instr.typeAssert (.iface 153 v) xT 148 true).run Tryd.prog w = .ok (.tuple #[.nilIface, .bool false]) w := run_typeAssert_lacksB Tryd.underlying148 (by kernel_rfl) (by kernel_rfl) v xT w
theorem noIsW (v : Value) (xT : TypeId) (w : World) : (Instr.typeAssert (.iface 123 v) xT 143 true).run Tryd.prog w = .ok (.tuple #[.nilIface, .bool false]) w := run_typeAssert_lacksB Tryd.underlying143 (by kernel_rfl) (by kernel_rfl) v xT w
theorem hasUnwrapW (v : Value) (xT : TypeId) (w : World) : (Instr.typeAssert (.iface 123 v) xT 146 true).run Tryd.prog w = .ok (.tuple #[.iface 123 v, .bool true]) w := run_typeAssert_hasB Tryd.underlying146 (by kernel_rfl) v xT w
theorem methodUnwrap (v : Value) (w : World) : (Go.method 286 123 v "Unwrap").run Tryd.prog w = .ok (111, v) w := by kernel_rfl

theorem heap_alloc_old {w : World} {k : Nat} {o x : Obj} (h : w.heap[k]? = some x) : (w.alloc o).heap[k]? = some x := by
  show (w.heap.push o)[k]? = _
  rcases Nat.lt_or_ge k w.heap.size with h' | h'
  · simp only [Array.getElem?_push, Nat.ne_of_lt h', if_false]
    exact h
  · rw [Array.getElem?_eq_none h'] at h
    cases h

/-- An error of the program's own: a place, and the sentinel at a. -/
def wrapped (p : Int) (a : Addr) : Value := .iface 123 (.agg #[.int .i64 p, .iface 153 (.pointer (some a))])

set_option maxHeartbeats 1000000 in
/-- errors.Is of a wrapped sentinel and this sentinel. -/
theorem is_wrap_same (p : Int) (b : Addr) (w : World) :
    Calls Tryd.prog 81 #[wrapped p b, .iface 153 (.pointer (some b))] w fun e w' => e = .returned (.bool true) ∧ Below w.heap.size w w' := by
  unfold wrapped
  obtain ⟨i, hi, hcmp⟩ := Option.map_eq_some_iff.1 isComp
  obtain ⟨j, hj, hjs⟩ := Option.map_eq_some_iff.1 isSize
  have tT := isTypeOf
  have cT := isComparable
  have mR := isMethodComparable
  have nE := noIsE
  have uE := noUnwrapE
  have vE := noUnwrapsE
  have nW := noIsW
  have uW := hasUnwrapW
  have mU := methodUnwrap
  have heq := fun wx : World => run_eql_iface_ptr_same (P := Tryd.prog) wx b Tryd.underlying77 Tryd.underlying153 hi hcmp hj
  have hty := run_eql_iface_types (P := Tryd.prog) 123 153 (.agg #[.int .i64 p, .iface 153 (.pointer (some b))]) (.pointer (some b)) Tryd.underlying77 (by decide) w
  go_enter Tryd.func81, Tryd.ntmps81
  go_wp2
  refine wp_loop_rounds 2 ?_
  rw [rounds_succ]
  go_wp2
  rw [rounds_succ]
  go_wp2
  go_ret
  exact ⟨rfl, (Below.refl _ _).alloc (Nat.le_refl _) _⟩

set_option maxHeartbeats 1000000 in
/-- errors.Is of a wrapped sentinel and another sentinel. -/
theorem is_wrap_other (p : Int) (a b : Addr) (ca cb : Array Value) (ta tb : TypeId) (w : World) (hne : a ≠ b) (ha : w.heap[a.block]? = some (.cells ca ta (0, 0))) (hb : w.heap[b.block]? = some (.cells cb tb (0, 0))) :
    Calls Tryd.prog 81 #[wrapped p a, .iface 153 (.pointer (some b))] w fun e w' => e = .returned (.bool false) ∧ Below w.heap.size w w' := by
  unfold wrapped
  obtain ⟨i, hi, hcmp⟩ := Option.map_eq_some_iff.1 isComp
  obtain ⟨j, hj, hjs⟩ := Option.map_eq_some_iff.1 isSize
  have tT := isTypeOf
  have cT := isComparable
  have mR := isMethodComparable
  have nE := noIsE
  have uE := noUnwrapE
  have vE := noUnwrapsE
  have nW := noIsW
  have uW := hasUnwrapW
  have mU := methodUnwrap
  have heq : ∀ o : Obj, _ := fun o => run_eql_iface_ptr_other (P := Tryd.prog) (w.alloc o) Tryd.underlying77 Tryd.underlying153 hi hcmp hj (by rw [hjs]; decide) hne (heap_alloc_old ha) (heap_alloc_old hb)
  have hty := run_eql_iface_types (P := Tryd.prog) 123 153 (.agg #[.int .i64 p, .iface 153 (.pointer (some a))]) (.pointer (some b)) Tryd.underlying77 (by decide) w
  clear ha hb hne
  go_enter Tryd.func81, Tryd.ntmps81
  go_wp2
  refine wp_loop_rounds 2 ?_
  rw [rounds_succ]
  go_wp2
  rw [rounds_succ]
  go_wp2
  go_ret
  exact ⟨rfl, (Below.refl _ _).alloc (Nat.le_refl _) _⟩

end Go.Proofs.YtkajnknhggfpoaaDoor
