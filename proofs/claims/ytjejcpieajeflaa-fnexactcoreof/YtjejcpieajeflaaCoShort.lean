/-
  What weighs little is short.
-/
import Derived.Test.YtjejcpieajeflaaRows
import Derived.Test.YtjejcpieajeflaaCoVal
import Derived.Deep.Cut
import Derived.Handy
namespace Go.Proofs.Ytjejcpieajeflaa
open Go.ChangeShapes Go.WideShapes Go.ChangeAt Go.RowKit Go.PlainAid
set_option linter.unusedVariables false

theorem ShortC.of {x : Cor} (h : wtC x ≤ 1048576) : ShortC x := by
  unfold wtC at h
  exact ⟨by omega, fun y hy => by have := wtE_mem x.log y hy; omega, by omega, by omega, by omega⟩
end Go.Proofs.Ytjejcpieajeflaa
