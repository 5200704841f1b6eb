/-
  FnNames: at every code (above 1048576 bytes the law draws nothing) a crash of the drawn disk leaves no right disk where that is not right; else the names behind it are those that the first moves (as many as were kept) lead to, and each file's text is a beginning of the one there. No condition.
-/
import Derived.Test.YtgjilgecklhglaaGreatRows
import Derived.Test.YtgjilgecklhglaaGreatQn13
import Derived.WalkKit
import Derived.ProofKit
import Derived.OpenShut
import Derived.ShutString
import Derived.ChangeOld
import Derived.Below
import Derived.Carry
import Derived.LaidMore
import Derived.Test.YtgjilgecklhglaaGreatQn4
import Derived.Test.YtgjilgecklhglaaGreatQn5
import Derived.Test.YtgjilgecklhglaaGreatQn9
import Derived.Test.YtgjilgecklhglaaGreatQn10
import Derived.Test.YtgjilgecklhglaaGreatQn11
import Derived.Test.YtgjilgecklhglaaGreatQt0
import Derived.Test.YtgjilgecklhglaaGreatQt1
import Derived.Test.YtgjilgecklhglaaGreatQt2
import Derived.Test.YtgjilgecklhglaaGreatQt3
import Derived.Test.YtgjilgecklhglaaGreatQt4
import Derived.Test.YtgjilgecklhglaaGreatQt5
import Derived.Test.YtgjilgecklhglaaGreatQt6
import Derived.Test.YtgjilgecklhglaaGreatQt7
import Derived.Test.YtgjilgecklhglaaGreatQt8
import Derived.Test.YtgjilgecklhglaaGreatQt9
import Derived.Test.YtgjilgecklhglaaGreatQt10
import Derived.Test.YtgjilgecklhglaaGreatQt11
import Derived.Test.YtgjilgecklhglaaGreatQt12
import Derived.Test.YtgjilgecklhglaaGreatQt13
import Derived.Test.YtgjilgecklhglaaGreatQt14
import Derived.Test.YtgjilgecklhglaaGreatQt15
namespace Go.Proofs.YtgjilgecklhglaaGreat
open Go.ChangeShapes Go.WideShapes Go.ChangeAt Go.RowKit
open Go.ChangeMaps (open_string shut_string)
set_option linter.unusedVariables false
theorem own : ownKnob Tryz.prog.godebug = none := by kernel_rfl
theorem laidOut : laidOutB Tryz.prog = true := by kernel_rfl
set_option maxRecDepth 100000 in
theorem fnNames_lifted (os : Os) (started : os.Started) (H : Type) (enc : TypeId × Value → H) :
  ReturnsInHanded {} Tryz.checked os 4 .any (Rows.fnNamesSpec.pre6 enc Tryz.prog Tryz.f4 Rows.fnNamesRow.domain false) (Rows.fnNamesSpec.post enc Tryz.prog Tryz.f4 false true false false) := by
 refine returnsInHanded_of_change (C := Tryz.checked) own started (by kernel_rfl) Tryz.func4
  (ChangeSpec.witness6 (enc := enc) (C := Tryz.checked) false ⟨#[], #[.slice none 0 0], []⟩ 8 (by kernel_rfl) (by kernel_rfl) (by kernel_rfl) (by kernel_rfl)) ?_
 intro W base args ds gs before hval0 hW hcnd _
 have hval : ∀ (j : Nat) t v, Tryz.f4.params[j]? = some t → args[j]? = some v → Value.okWide Tryz.prog W .any base t v := hval0
 have hW' := hW
 obtain ⟨p, q, hA0, hV, rfl, hfz, hnd⟩ := hW
 have hA : DataW.TrodAll enc Tryz.prog W 0 (fun _ => true) true Tryz.f4.params.toList args.toList ds p := hA0
 rw [Tryz.params4] at hA hval
 obtain ⟨v0, vs0, d0, ds0, p0, q0, hargs, rfl, rfl, h0, r0⟩ := trodAll_cons hA
 obtain ⟨rfl, rfl, rfl⟩ := trodAll_nil r0
 obtain rfl : args = #[v0] := by cases args; simp_all
 obtain ⟨rfl, rfl⟩ := trodVars_none hV
 have k0 := h0
 have lt0 : ∀ x ∈ p0, x.block < W.heap.size := by obtain ⟨m, hm⟩ := k0; exact DataW.trod_lt m _ _ _ hm
 obtain ⟨a0, len0, cap0, cs0, rfl, hl0, hC0⟩ := open_code (hval 0 22 v0 rfl rfl) h0
 clear hA0 hval0
 refine (law_fnNames a0 len0 cap0 cs0 W hC0 hl0).mono fun e W' ⟨he, bel⟩ => ?_
 subst he
 exact ⟨_, rfl, _, _, _, [], _, [], hW', trodAll_mk1 (shut_bool Tryz.underlying4 _), (trodAll_cons_mk (Below.trod laidOut (by kernel_rfl) (of_decide_eq_true (by kernel_rfl)) k0 bel lt0) trodAll_mk0), rfl, bel.frame _, fun h => by cases h⟩
theorem fnNames_holds : Rows.FnNamesSaid :=
 OpenClaim.holds_of_wide 4 Tryz.f4 rfl rfl rfl rfl rfl rfl rfl ⟨rfl, rfl, rfl, rfl, rfl⟩ rfl rfl rfl rfl rfl (by kernel_rfl) Tryz.func4 (by kernel_rfl)
  (of_decide_eq_true (by kernel_rfl)) (by unfold Func.isWrapper; first | (rw [if_pos (by decide +kernel)]; kernel_rfl) | (rw [if_neg (by decide +kernel)]; exact ⟨rfl, rfl⟩))
  (fun os started H enc _ => fnNames_lifted os started H enc)
#print axioms fnNames_holds
end Go.Proofs.YtgjilgecklhglaaGreat
