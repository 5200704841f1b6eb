/-
  Contracts of spec.ShowRec and impl.ShowRec: what both answer, at every record.
-/
import Derived.Test.YtnpgkmmflibmkaaDoorRows
import Derived.Test.YtnpgkmmflibmkaaDoorRcOf
import Derived.Test.YtnpgkmmflibmkaaDoorNumD
import Derived.Test.YtnpgkmmflibmkaaDoorUntil
import Derived.Deep.RegionHeld3
import Derived.Handy
namespace Go.Proofs.YtnpgkmmflibmkaaDoor
open Go.ChangeShapes Go.WideShapes Go.ChangeAt Go.RowKit Go.PlainAid
set_option linter.unusedVariables false

/-- A record as a text. -/
def showB (r : Rcd) : ByteArray := txt [byt r.kind.toNat] ++ txt (vF 6 r.term.toNat) ++ txt (vF 6 r.index.toNat) ++ txt (vF 6 (r.vote + 1).toNat) ++ r.data
def showR (r : Rcd) : ByteArray := if recOk r = true then showB r else ⟨#[]⟩
theorem recOk_in (k t i v : Int) (d : ByteArray) (h : recOk ⟨k, t, i, v, d⟩ = true) : (1 ≤ k ∧ k ≤ 4) ∧ (0 ≤ t ∧ t ≤ 100000) ∧ (0 ≤ i ∧ i ≤ 100000) ∧ (-1 ≤ v ∧ v ≤ 4) ∧ d.size ≤ 900 := by
  have he : d = ByteArray.empty → d.size = 0 := fun h => by subst h; rfl
  rw [recOk_iff, Bool.and_eq_true] at h
  obtain ⟨h1, h2⟩ := h
  have h1 := of_decide_eq_true h1
  unfold rest0 at h2
  rcases (show k = 1 ∨ k = 2 ∨ k = 3 ∨ k = 4 by omega) with rfl | rfl | rfl | rfl
  · simp at h2
    have := he h2.2
    omega
  · simp at h2
    omega
  · simp at h2
    have := he h2.2
    omega
  · simp at h2
    have := he h2.2
    omega
theorem fixed_one (n : Nat) (h : n < 256) : fixed n 1 = txt [byt n] := by
  unfold fixed
  rw [if_pos (by rw [Nat.pow_one]; exact Nat.div_eq_of_lt h)]
  simp [low]
theorem vsize (n : Nat) : (txt (vF 6 n)).size ≤ 7 := by rw [txt_size]; exact vF_length 6 n
theorem len_cat (a b : ByteArray) (n : Nat) (h : a.size + b.size ≤ n) (hn : n ≤ 9000000) : ¬ (9223372036854775807 : Int) < ((a.size + b.size : Nat) : Int) := by omega
theorem len_cat' (a b : ByteArray) (n : Nat) (h : a.size + b.size ≤ n) (hn : n ≤ 9000000) : ¬ (9223372036854775807 : Int) < (a.size : Int) + (b.size : Int) := by omega
theorem conv_one (kn g cap : Nat) (w : World) (h : w.cell? ⟨g, 0, none⟩ = some (.int .u8 (kn : Int))) (hk : kn < 256) : (convert 77 9 (.slice (some ⟨g, 0, none⟩) 1 cap)).run Tryd.prog w = .ok (.string (txt [byt kn])) w := by
  refine run_convert_bytes_back (P := Tryd.prog) w 77 9 5 ⟨g, 0, none⟩ cap [byt kn] Tryd.underlying77 Tryd.underlying5 Tryd.underlying9 ?_
  intro j hj
  obtain rfl : j = 0 := by simp at hj; omega
  show w.cell? ⟨g, 0, none⟩ = _
  rw [h]
  have : (byt kn).toNat = kn := by rw [byt_toNat]; omega
  simp [this]
theorem byt_one (n : Nat) (h : n < 256) : IntKind.u8.wrap (n : Int) = (n : Int) := by rw [IntKind.wrap_u8']; omega

end Go.Proofs.YtnpgkmmflibmkaaDoor
