/-
  Contracts of impl.BucketOf and spec.BucketOf, and the walk of the law FnExactBucketOf (no condition).
-/
import Derived.Test.YtfloihegggkonaaRows
import Derived.Test.YtfloihegggkonaaAid
import Derived.Test.YtfloihegggkonaaNum1In
import Derived.WalkKit
import Derived.ProofKit
import Derived.OpenShut
import Derived.Below
import Derived.WalkLawsBesides
import Derived.WalkMore
import Derived.Outline
import Derived.WalkSmall
namespace Go.Proofs.Ytfloihegggkonaa
open Go.ChangeShapes Go.WideShapes Go.ChangeAt Go.RowKit Go.PlainAid
set_option linter.unusedVariables false

/-- The bucket of a time. -/
def bkt (t : Int) : Int := if 0 ≤ t ∧ t ≤ 1099511627776 then t / 100 else -1
theorem bkt_in {t : Int} (h0 : 0 ≤ t) (h1 : t ≤ 1099511627776) : bkt t = t / 100 := if_pos ⟨h0, h1⟩
theorem bkt_low (t : Int) : -1 ≤ bkt t := by unfold bkt; split <;> omega
theorem bkt_high (t : Int) : bkt t ≤ 10995116277 := by unfold bkt; split <;> omega

set_option maxHeartbeats 400000 in
theorem implBucket (t : Int) (w : World) :
    Calls Try.prog 43 #[.int .i64 t] w fun e w' => e = .returned (.int .i64 (bkt t)) ∧ w = w' := by
  by_cases h0 : t < 0
  · have e : bkt t = -1 := if_neg (by omega)
    rw [e]
    go_enter Try.func43, Try.ntmps43
    go_wp2
    go_ret
    exact ⟨rfl, rfl⟩
  · by_cases h1 : 1099511627776 < t
    · have e : bkt t = -1 := if_neg (by omega)
      have h2 : ¬ t < 0 := h0
      rw [e]
      go_enter Try.func43, Try.ntmps43
      go_wp2
      go_ret
      exact ⟨rfl, rfl⟩
    · have e : bkt t = t / 100 := bkt_in (by omega) (by omega)
      have h2 : decide (1099511627776 < t) = false := by simp; omega
      have h3 : Int.tdiv t 100 = t / 100 := Int.tdiv_eq_ediv_of_nonneg (by omega)
      have h4 : IntKind.i64.wrap (t / 100) = t / 100 := by rw [IntKind.wrap_i64]; omega
      rw [e]
      go_enter Try.func43, Try.ntmps43
      go_wp2
      go_ret
      exact ⟨rfl, rfl⟩

set_option maxHeartbeats 400000 in
theorem specBucket (t : Int) (w : World) :
    Calls Try.prog 29 #[.int .i64 t] w fun e w' => e = .returned (.int .i64 (bkt t)) ∧ w = w' := by
  by_cases h0 : 0 ≤ t ∧ t ≤ 1099511627776
  · have e : bkt t = t / 100 := if_pos h0
    have cI := in_yes t 0 1099511627776 w h0.1 h0.2
    have h3 : Int.tdiv t 100 = t / 100 := Int.tdiv_eq_ediv_of_nonneg (by omega)
    have h4 : IntKind.i64.wrap (t / 100) = t / 100 := by rw [IntKind.wrap_i64]; omega
    rw [e]
    go_enter Try.func29, Try.ntmps29
    go_wp2_with fail
    refine cI.mono ?_
    rintro _ _ ⟨rfl, rfl⟩
    go_wp2
    go_ret
    exact ⟨rfl, rfl⟩
  · have e : bkt t = -1 := if_neg h0
    have cI := in_no t 0 1099511627776 w (by omega)
    rw [e]
    go_enter Try.func29, Try.ntmps29
    go_wp2_with fail
    refine cI.mono ?_
    rintro _ _ ⟨rfl, rfl⟩
    go_wp2
    go_ret
    exact ⟨rfl, rfl⟩

end Go.Proofs.Ytfloihegggkonaa
