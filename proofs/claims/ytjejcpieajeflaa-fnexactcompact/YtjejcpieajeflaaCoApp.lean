/-
  An append of a whole row, as an equation on its run (no program in sight, no condition).
-/
import Derived.Test.YtjejcpieajeflaaStAid
import Derived.WalkKit
import Derived.ProofKit
import Derived.OpenShut
import Derived.Below
import Derived.WalkSmall
import Derived.BigQuiet
import Derived.Deep.QuietTactic
import Derived.Deep.RegionWith
import Derived.Handy
namespace Go.Proofs.Ytjejcpieajeflaa
open Go.ChangeShapes Go.WideShapes Go.ChangeAt Go.RowKit Go.PlainAid
set_option linter.unusedVariables false

theorem run_append_allC {P : Program} (w : World) (t ty e : TypeId) (z : Value) (sz bytes : Nat)
    (ht : P.underlying t = some (.slice e)) (hinfo : (P.info? e).map (fun i => (i.zero, i.size, i.bytes)) = some (some z, sz, bytes)) (hzs : z.cells.size = sz) (hsz : 0 < sz)
    (base : Nat) (v u : Value) (rows more : List (List Value)) (B : Nat) (hown : Owns w base e sz v rows) (hu : Lies w B sz u more) (h1 : ∀ r ∈ more, ∀ y ∈ r, y.oneCell' = true)
    (hlen : rows.length + more.length ≤ 2097152) (hby : bytes ≤ 1000) (hbase : base ≤ w.heap.size) :
    ∃ A m c w', (Builtin.append_ #[t, t] ty #[v, u]).run P w = .ok (.slice A m c) w' ∧ Owns w' base e sz (.slice A m c) (rows ++ more) ∧ Below base w w' ∧ (∀ g, g < w.heap.size → v.ownBlock ≠ some g → w'.heap[g]? = w.heap[g]?) := by
  obtain ⟨i0, hi, hz0, hz1, hz2⟩ := info_parts hinfo
  have hb1 : (rows.length + more.length) * bytes ≤ 140737488355328 := Nat.le_trans (Nat.mul_le_mul hlen hby) (by omega)
  obtain ⟨A, cap, rfl, hz, hms, hm⟩ := hu
  match A, hz, hm with
  | none, hz, hm =>
    have h0 : more.length = 0 := by
      rcases hm with h0 | ⟨g, off, e, _⟩
      · exact h0
      · cases e
    have hc0 := hz.1 rfl
    subst hc0
    have hnil : more = [] := List.eq_nil_of_length_eq_zero h0
    subst hnil
    have hr := run_append_owned_none (P := P) w base t ty e i0 sz ht hi v rows.length rows.flatten hown.2
    obtain ⟨A, m, c, rfl⟩ := hown.shape
    exact ⟨A, m, c, w, hr, by simpa using hown, Below.refl _ _, fun _ _ _ => rfl⟩
  | some ad, hz, hm =>
    have hnews : ∀ j y, more.flatten[j]? = some y → w.cell? (ad.add j) = some y := by
      intro j y hj
      rcases hm with h0 | ⟨g, off, e, hg, hc⟩
      · rw [List.eq_nil_of_length_eq_zero h0] at hj
        simp at hj
      · cases e
        have e1 : (⟨g, off, none⟩ : Addr).add j = ⟨g, off + j, none⟩ := by cases j <;> simp [Addr.add]
        rw [e1]
        exact hc j y hj
    have h1' : ∀ y ∈ more.flatten, y.oneCell' = true := by
      intro y hy
      obtain ⟨r, hr, hyr⟩ := List.mem_flatten.1 hy
      exact h1 r hr y hyr
    obtain ⟨v', w', hrun, h2, h3, _⟩ := run_append_own (P := P) w base t ty e i0 z sz bytes ht hi hz0 hz1 hz2 hzs hsz v rows.length rows.flatten hown.2 ad more.length cap more.flatten (flat_length sz more hms) hnews h1' (by unfold maxLen; omega) hb1 hbase
    have hb0 : ∀ k, v.ownBlock = some k → base ≤ k := fun k hk => (hown.lt k hk).1
    have hO : Owns w' base e sz v' (rows ++ more) := by
      refine ⟨?_, ?_⟩
      · intro y hy
        rcases List.mem_append.1 hy with hy | hy
        · exact hown.1 y hy
        · exact hms y hy
      · rw [List.length_append, List.flatten_append]
        exact h2
    obtain ⟨A, m, c, rfl⟩ := hO.shape
    exact ⟨A, m, c, w', hrun, hO, (Below.refl base w).grown h3 hbase hb0, fun g hg hne => h3.block g hg (fun e => hne e.symm)⟩
end Go.Proofs.Ytjejcpieajeflaa
