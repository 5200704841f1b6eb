/-
  The library's contract of internal/stringslite.Clone at this program (its fields are closed facts), and strings.Clone's: the same bytes.
-/
import Derived.Test.YtjejcpieajeflaaRows
import Derived.Shelf.Pu.Clone
import Derived.WalkKit
import Derived.Below
namespace Go.Proofs.Ytjejcpieajeflaa
open Go.RowKit
/-- Where the shelf's numbers lie in this program. -/
def cloneRen : Go.Shelf.Ren := ⟨fun _ => 108, fun | 37 => 102 | 47 => 123 | t => t, fun g => g⟩
theorem clone_lays : Go.Proofs.LaysPu.n25 Try.prog cloneRen where
  mixed := by kernel_rfl
  f25 := Try.func108.trans (congrArg some (by kernel_rfl))
  t0 := Try.underlying0
  a0 := Try.isAgg0
  z0 := Try.sizeOf0
  v0 := Try.zeroValue0
  i0 := by kernel_rfl
  t3 := Try.underlying3
  a3 := Try.isAgg3
  z3 := Try.sizeOf3
  v3 := Try.zeroValue3
  i3 := by kernel_rfl
  t4 := Try.underlying4
  a4 := Try.isAgg4
  z4 := Try.sizeOf4
  v4 := Try.zeroValue4
  i4 := by kernel_rfl
  t5 := Try.underlying5
  a5 := Try.isAgg5
  z5 := Try.sizeOf5
  v5 := Try.zeroValue5
  i5 := by kernel_rfl
  t9 := Try.underlying9
  a9 := Try.isAgg9
  z9 := Try.sizeOf9
  v9 := Try.zeroValue9
  i9 := by kernel_rfl
  t37 := Try.underlying102
  a37 := Try.isAgg102
  z37 := Try.sizeOf102
  v37 := Try.zeroValue102
  i37 := by kernel_rfl
  t47 := Try.underlying123
  a47 := Try.isAgg123
  z47 := Try.sizeOf123
  v47 := Try.zeroValue123
  i47 := by kernel_rfl

/-- strings.Clone: the same bytes. -/
theorem clone (s : ByteArray) (w : World) (hs : s.size ≤ 281474976710656) :
    Calls Try.prog 99 #[.string s] w fun e w' => e = .returned (.string s) ∧ Below w.heap.size w w' := by
  have c1 : Calls Try.prog 108 #[.string s] w fun e w' => e = .returned (.string s) ∧ Below w.heap.size w w' := AnyPu.stringslite_Clone clone_lays s w hs
  clear hs
  go_enter Try.func99, Try.ntmps99
  go_wp2_with fail
  refine c1.mono ?_
  rintro e w1 ⟨rfl, hb1⟩
  go_wp2_with fail
  go_ret
  exact ⟨rfl, hb1⟩
end Go.Proofs.Ytjejcpieajeflaa
