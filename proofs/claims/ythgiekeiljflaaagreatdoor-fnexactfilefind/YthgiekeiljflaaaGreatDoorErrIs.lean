/-
  Contracts of errors.Is for an error of the program's own make (a struct that wraps a sentinel) and a sentinel.
-/
import Derived.Test.YthgiekeiljflaaaGreatDoorRows
import Derived.WalkKit
import Derived.LaidEql
import Derived.Stop.Asserts
import Derived.RowKitTokens
import Derived.Below
import Derived.PlainAid
import Derived.WalkSmall
import Derived.Lib.LaidTab
namespace Go.Proofs.YthgiekeiljflaaaGreatDoor
open Go.RowKit Go.PlainAid
set_option linter.unusedVariables false

theorem isTypeOf (v : Value) (w : World) : (callFunc 99 #[.iface 133 v]).run Tryz.prog w = .ok (.value (.iface 121 (.agg #[.pointer (some ⟨4, 133, none⟩)]))) w := by kernel_rfl
theorem isComparable (w : World) : (callFunc 124 #[.agg #[.pointer (some ⟨4, 133, none⟩)]]).run Tryz.prog w = .ok (.value (.bool true)) w := by kernel_rfl
theorem isMethodComparable (v : Value) (w : World) : (Go.method 266 121 v "Comparable").run Tryz.prog w = .ok (124, v) w := by kernel_rfl
theorem isComp : (Tryz.prog.info? 133).map (·.comparable) = some true := by kernel_rfl
theorem isSize : (Tryz.prog.info? 155).map (·.size) = some 1 := by kernel_rfl
theorem noIsE (v : Value) (xT : TypeId) (w : World) : (Instr.typeAssert (.iface 133 v) xT 123 true).run Tryz.prog w = .ok (.tuple #[.nilIface, .bool false]) w := run_typeAssert_lacksB Tryz.underlying123 (by kernel_rfl) (by kernel_rfl) v xT w
theorem noUnwrapE (v : Value) (xT : TypeId) (w : World) : (Instr.typeAssert (.iface 133 v) xT 126 true).run Tryz.prog w = .ok (.tuple #[.nilIface, .bool false]) w := run_typeAssert_lacksB Tryz.underlying126 (by kernel_rfl) (by kernel_rfl) v xT w
theorem noUnwrapsE (v : Value) (xT : TypeId) (w : World) : (Instr.typeAssert (.iface 133 v) xT 128 true).run Tryz.prog w = .ok (.tuple #[.nilIface, .bool false]) w := run_typeAssert_lacksB Tryz.underlying128 (by kernel_rfl) (by kernel_rfl) v xT w
theorem noIsW (v : Value) (xT : TypeId) (w : World) : (Instr.typeAssert (.iface 103 v) xT 123 true).run Tryz.prog w = .ok (.tuple #[.nilIface, .bool false]) w := run_typeAssert_lacksB Tryz.underlying123 (by kernel_rfl) (by kernel_rfl) v xT w
theorem hasUnwrapW (v : Value) (xT : TypeId) (w : World) : (Instr.typeAssert (.iface 103 v) xT 126 true).run Tryz.prog w = .ok (.tuple #[.iface 103 v, .bool true]) w := run_typeAssert_hasB Tryz.underlying126 (by kernel_rfl) v xT w
theorem methodUnwrap (v : Value) (w : World) : (Go.method 266 103 v "Unwrap").run Tryz.prog w = .ok (119, v) w := by kernel_rfl

theorem heap_alloc_old {w : World} {k : Nat} {o x : Obj} (h : w.heap[k]? = some x) : (w.alloc o).heap[k]? = some x := by
  show (w.heap.push o)[k]? = _
  rcases Nat.lt_or_ge k w.heap.size with h' | h'
  · simp only [Array.getElem?_push, Nat.ne_of_lt h', if_false]
    exact h
  · rw [Array.getElem?_eq_none h'] at h
    cases h

/-- An error of the program's own: a place, and the sentinel at a. -/
def wrapped (p : Int) (a : Addr) : Value := .iface 103 (.agg #[.int .i64 p, .iface 133 (.pointer (some a))])

set_option maxRecDepth 20000 in
set_option maxHeartbeats 1000000 in
/-- errors.Is of a wrapped sentinel and this sentinel. -/
theorem is_wrap_same (p : Int) (b : Addr) (w : World) :
    Calls Tryz.prog 88 #[wrapped p b, .iface 133 (.pointer (some b))] w fun e w' => e = .returned (.bool true) ∧ Below w.heap.size w w' := by
  unfold wrapped
  obtain ⟨i, hi, hcmp⟩ := Option.map_eq_some_iff.1 isComp
  obtain ⟨j, hj, hjs⟩ := Option.map_eq_some_iff.1 isSize
  have tT := isTypeOf
  have cT := isComparable
  have mR := isMethodComparable
  have nE := noIsE
  have uE := noUnwrapE
  have vE := noUnwrapsE
  have nW := noIsW
  have uW := hasUnwrapW
  have mU := methodUnwrap
  have heq := fun wx : World => run_eql_iface_ptr_same (P := Tryz.prog) wx b Tryz.underlying93 Tryz.underlying133 hi hcmp hj
  have hty := run_eql_iface_types (P := Tryz.prog) 103 133 (.agg #[.int .i64 p, .iface 133 (.pointer (some b))]) (.pointer (some b)) Tryz.underlying93 (by decide) w
  go_enter Tryz.func88, Tryz.ntmps88
  go_wp2
  refine wp_loop_rounds 2 ?_
  rw [rounds_succ]
  go_wp2
  rw [rounds_succ]
  go_wp2
  go_ret
  exact ⟨rfl, (Below.refl _ _).alloc (Nat.le_refl _) _⟩

set_option maxRecDepth 20000 in
set_option maxHeartbeats 1000000 in
/-- errors.Is of a wrapped sentinel and another sentinel. -/
theorem is_wrap_other (p : Int) (a b : Addr) (ca cb : Array Value) (ta tb : TypeId) (w : World) (hne : a ≠ b) (ha : w.heap[a.block]? = some (.cells ca ta (0, 0))) (hb : w.heap[b.block]? = some (.cells cb tb (0, 0))) :
    Calls Tryz.prog 88 #[wrapped p a, .iface 133 (.pointer (some b))] w fun e w' => e = .returned (.bool false) ∧ Below w.heap.size w w' := by
  unfold wrapped
  obtain ⟨i, hi, hcmp⟩ := Option.map_eq_some_iff.1 isComp
  obtain ⟨j, hj, hjs⟩ := Option.map_eq_some_iff.1 isSize
  have tT := isTypeOf
  have cT := isComparable
  have mR := isMethodComparable
  have nE := noIsE
  have uE := noUnwrapE
  have vE := noUnwrapsE
  have nW := noIsW
  have uW := hasUnwrapW
  have mU := methodUnwrap
  have heq : ∀ o : Obj, _ := fun o => run_eql_iface_ptr_other (P := Tryz.prog) (w.alloc o) Tryz.underlying93 Tryz.underlying133 hi hcmp hj (by rw [hjs]; decide) hne (heap_alloc_old ha) (heap_alloc_old hb)
  have hty := run_eql_iface_types (P := Tryz.prog) 103 133 (.agg #[.int .i64 p, .iface 133 (.pointer (some a))]) (.pointer (some b)) Tryz.underlying93 (by decide) w
  clear ha hb hne
  go_enter Tryz.func88, Tryz.ntmps88
  go_wp2
  refine wp_loop_rounds 2 ?_
  rw [rounds_succ]
  go_wp2
  rw [rounds_succ]
  go_wp2
  go_ret
  exact ⟨rfl, (Below.refl _ _).alloc (Nat.le_refl _) _⟩

end Go.Proofs.YthgiekeiljflaaaGreatDoor
