/-
  Contract of spec.CoreOk.
-/
import Derived.Test.YtjejcpieajeflaaRows
import Derived.Test.YtjejcpieajeflaaCoS2
import Derived.Test.YtjejcpieajeflaaCoS3
import Derived.Test.YtjejcpieajeflaaCoS4
import Derived.Deep.Cut
import Derived.Handy
namespace Go.Proofs.Ytjejcpieajeflaa
open Go.ChangeShapes Go.WideShapes Go.ChangeAt Go.RowKit Go.PlainAid
set_option linter.unusedVariables false

theorem specCoreOk (x : Cor) (v : Value) (w : World) (B : Nat) (hv : CorV w B v x) (hs : ShortC x) (hB : B ≤ w.heap.size) : Calls Try.prog 11 #[v] w fun e w' => e = .returned (.bool (corOk x)) ∧ Below w.heap.size w w' := by
  obtain ⟨ci, cp, ct, cv, cr, cd, cb, cbt, lg, cc, ys, ns, ms⟩ := x
  obtain ⟨u0, u1, u2, u3, rfl, hl, hy, hn, hm⟩ := hv
  by_cases h0 : COk0 ⟨ci, cp, ct, cv, cr, cd, cb, cbt, lg, cc, ys, ns, ms⟩
  rotate_left
  · exact coreS0 ci cp ct cv cr cd cb cbt lg cc ys ns ms u0 u1 u2 u3 w B hl hy hn hm hs hB h0
  by_cases h1 : cr = 1
  · subst h1; exact coreS1 ci cp ct cv cd cb cbt lg cc ys ns ms u0 u1 u2 u3 w B hl hy hn hm hs hB h0
  by_cases h2 : cr = 2
  · subst h2; exact coreS2 ci cp ct cv cd cb cbt lg cc ys ns ms u0 u1 u2 u3 w B hl hy hn hm hs hB h0
  by_cases h3 : cr = 3
  · subst h3; exact coreS3 ci cp ct cv cd cb cbt lg cc ys ns ms u0 u1 u2 u3 w B hl hy hn hm hs hB h0
  exact coreSx ci cp ct cv cr cd cb cbt lg cc ys ns ms u0 u1 u2 u3 w B hl hy hn hm hs hB h0 h1 h2 h3
end Go.Proofs.Ytjejcpieajeflaa
