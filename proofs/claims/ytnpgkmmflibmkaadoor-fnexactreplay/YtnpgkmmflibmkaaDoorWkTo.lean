/-
  Contracts of the laws' own copies of what came in: toEntry, toEntryS, toRec, toWal.
-/
import Derived.Test.YtnpgkmmflibmkaaDoorRows
import Derived.Test.YtnpgkmmflibmkaaDoorWkSz
import Derived.Test.YtnpgkmmflibmkaaDoorWkPut
namespace Go.Proofs.YtnpgkmmflibmkaaDoor
open Go.ChangeShapes Go.WideShapes Go.ChangeAt Go.RowKit Go.PlainAid
set_option linter.unusedVariables false

theorem below_alloc3 (w : World) (a b c : Obj) : Below w.heap.size w (((w.alloc a).alloc b).alloc c) := (((Below.refl _ w).alloc (Nat.le_refl _) a).alloc (by simp) b).alloc (by simp; omega) c
theorem Tryd.infoEnt : (Tryd.prog.info? 56).map (fun i => (i.zero, i.size, i.bytes)) = some (some (.agg #[.int .i64 0, .string ⟨#[]⟩]), 2, 24) := by kernel_rfl
/-- A row of noughts. -/
def entZ : List Value := [.int .i64 0, .string ⟨#[]⟩]
theorem ent_made (n : Nat) : madeCells #[.int .i64 0, .string ⟨#[]⟩] (n * 2) = (List.replicate n entZ).flatten.toArray := by
  apply Array.ext'
  rw [List.toList_toArray]
  apply List.ext_getElem?
  intro k
  have hz : ∀ r ∈ List.replicate n entZ, r.length = 2 := fun r hr => by rw [List.eq_of_mem_replicate hr]; rfl
  by_cases hk : k < n * 2
  · have e : k = k / 2 * 2 + k % 2 := by omega
    have hf : k % 2 < 2 := Nat.mod_lt _ (by omega)
    have hj : k / 2 < n := Nat.div_lt_of_lt_mul (by omega)
    have := flat_at 2 (List.replicate n entZ) hz (k / 2) (k % 2) (by simpa using hj) hf
    rw [← e] at this
    have hr : (List.replicate n entZ)[k / 2]'(by simpa using hj) = entZ := by simp
    rw [this, hr]
    have hs : (madeCells #[.int .i64 0, .string ⟨#[]⟩] (n * 2)).toList[k]? = some (#[.int .i64 0, .string ⟨#[]⟩].getD (k % 2) default) := by simp [madeCells, hk]
    rw [hs]
    have : k % 2 = 0 ∨ k % 2 = 1 := by omega
    rcases this with h | h <;> rw [h] <;> rfl
  · have hl : (List.replicate n entZ).flatten.length = n * 2 := by rw [flat_length 2 _ hz]; simp
    have hr : (List.replicate n entZ).flatten[k]? = none := List.getElem?_eq_none (by omega)
    rw [hr]
    apply List.getElem?_eq_none
    rw [Array.length_toList, size_madeCells]
    omega

end Go.Proofs.YtnpgkmmflibmkaaDoor
