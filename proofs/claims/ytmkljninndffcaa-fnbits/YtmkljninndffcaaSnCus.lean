/-
  Contracts of laws.big and spec.l1PickInt; the code's bytes.
-/
import Derived.Test.YtmkljninndffcaaRows
import Derived.Test.YtmkljninndffcaaCurTy
import Derived.Test.YtmkljninndffcaaCurOnce
namespace Go.Proofs.Ytmkljninndffcaa
open Go.ChangeShapes Go.WideShapes Go.ChangeAt Go.RowKit Go.PlainAid
set_option linter.unusedVariables false

theorem CodeIs.on {w w' : World} {ao : Option Addr} {len : Nat} {cs : Nat → Nat} (h : CodeIs w w.heap.size ao len cs) (hb : Below w.heap.size w w') : CodeIs w' w'.heap.size ao len cs := by
  rcases h with h | ⟨cb, co, rfl, hcb, hj⟩
  · exact .inl h
  · exact .inr ⟨cb, co, rfl, Nat.lt_of_lt_of_le hcb hb.size, fun j hj' => ⟨(hj j hj').1, by rw [← (hj j hj').2]; exact World.cell?_of_block (w := w) (hb.block cb hcb)⟩⟩
/-- A row of bytes of the call's own is a code. -/
theorem Buf.code {w : World} {base : Nat} {v : Value} {l : List UInt8} (h : Buf w base v l) : ∃ ao cap, v = .slice ao l.length cap ∧ CodeIs w w.heap.size ao l.length (fun j => (l.getD j 0).toNat) := by
  have hlt := World.ownsRow.lt h
  have hc := fun g hg => World.ownsRow.cells h (g := g) hg
  rcases h.2 with ⟨rfl, h0⟩ | ⟨g, cap, cur, rfl, _⟩
  · rw [h0]
    exact ⟨none, 0, rfl, .inl rfl⟩
  · refine ⟨_, cap, rfl, .inr ⟨g, 0, rfl, (hlt g rfl).2, fun j hj => ⟨UInt8.toNat_lt _, ?_⟩⟩⟩
    have e : (⟨g, 0, none⟩ : Addr).add j = ⟨g, 0 + j, none⟩ := by cases j <;> simp [Addr.add]
    rw [← e]
    exact hc g rfl j _ (by simp [byteCells, hj])
set_option maxHeartbeats 400000 in
theorem big_no (w : World) (ao : Option Addr) (len cap : Nat) (hl : len ≤ 1048576) : Calls Try.prog 10 #[.slice ao len cap] w fun e w' => e = .returned (.bool false) ∧ w = w' := by
  have q : (len : Int) ≤ 1048576 := by omega
  have q2 : decide ((1048576 : Int) < (len : Int)) = false := by simp; omega
  go_enter Try.func10, Try.ntmps10
  go_wp2
  go_ret
  exact ⟨rfl, rfl⟩
set_option maxHeartbeats 400000 in
theorem big_yes (w : World) (ao : Option Addr) (len cap : Nat) (hl : 1048576 < len) (h2 : len ≤ 9223372036854775807) : Calls Try.prog 10 #[.slice ao len cap] w fun e w' => e = .returned (.bool true) ∧ w = w' := by
  have q : (1048576 : Int) < (len : Int) := by omega
  go_enter Try.func10, Try.ntmps10
  go_wp2
  go_ret
  exact ⟨rfl, rfl⟩

set_option maxHeartbeats 1000000 in
theorem pick_any (w : World) (p : Nat) (ao : Option Addr) (len cap : Nat) (cs : Nat → Nat) (s : Pos) (g : Nat) (xs : List Int) (hn : 0 < xs.length) (hn2 : xs.length ≤ 1000) (h : At w p ao len cap cs s) (hgp : g ≠ p) (hg : g < w.heap.size)
    (hcell : ∀ j, j < xs.length → w.cell? ⟨g, j, none⟩ = some (.int .i64 (xs.getD j 0))) :
    Calls Try.prog 54 #[.pointer (some ⟨p, 0, none⟩), .slice (some ⟨g, 0, none⟩) xs.length xs.length] w fun e w' =>
      e = .returned (.int .i64 (xs.getD (belowV len cs (xs.length : Int) s).toNat 0)) ∧ At w' p ao len cap cs (belowP len (xs.length : Int) s) ∧ Mod w.heap.size p w w' := by
  have HA : Hid (At w p ao len cap cs s) := h
  clear h
  have HC : Hid (∀ j, j < xs.length → w.cell? ⟨g, j, none⟩ = some (.int .i64 (xs.getD j 0))) := hcell
  clear hcell
  have hb := belowV_bd len cs (xs.length : Int) s
  have q0 : (xs.length : Int) ≤ 1000 := by omega
  go_enter Try.func54, Try.ntmps54
  go_wp2_with fail
  refine (below_any _ p ao len cap cs s (xs.length : Int) (by omega) HA.out).mono ?_
  rintro e w1 ⟨rfl, hA1, hm1⟩
  obtain ⟨k, hk⟩ := Int.eq_ofNat_of_zero_le hb.1
  have hk2 : k < xs.length := by have := hb.2 (by omega); omega
  have HB : Hid (belowV len cs (xs.length : Int) s = (k : Int)) := hk
  rw [hk]
  clear hk hb
  have hc1 : w1.cell? ⟨g, k, none⟩ = some (.int .i64 (xs.getD k 0)) := by
    rw [← HC.out k hk2]
    exact World.cell?_of_block (w := w) (hm1.block g hg hgp)
  have q1 : (k : Int) < (xs.length : Int) := by omega
  go_wp2_with fail
  go_ret
  have ev : xs.getD ((k : Int)).toNat 0 = xs[k] := by simp [hk2]
  rw [HB.out, ev]
  exact ⟨rfl, hA1, hm1⟩
end Go.Proofs.Ytmkljninndffcaa
