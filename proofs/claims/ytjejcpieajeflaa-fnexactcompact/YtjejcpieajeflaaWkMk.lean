/-
  Contracts of the laws' own marks: markEntryS (the rows are the call's own, and short).
-/
import Derived.Test.YtjejcpieajeflaaRows
import Derived.Test.YtjejcpieajeflaaWkEq
import Derived.Test.YtjejcpieajeflaaWkPut
import Derived.Test.YtjejcpieajeflaaStrLaw
namespace Go.Proofs.Ytjejcpieajeflaa
open Go.ChangeShapes Go.WideShapes Go.ChangeAt Go.RowKit Go.PlainAid
set_option linter.unusedVariables false

def mkEnt (k j : Nat) : List Value := [.int .i64 (((k + 2 * j : Nat) : Int)), .string (mark (k + 2 * j + 1))]
set_option maxHeartbeats 2000000 in
theorem markEntryS (k base : Nat) (v : Value) (R : List (List Value)) (w : World) (hv : Owns w base 88 2 v R) (hl : R.length ≤ 1048576) (h1 : 1 ≤ k) (h2 : k ≤ 10000000) (hbase : base ≤ w.heap.size) :
    Calls Try.prog 54 #[v, .int .i64 (k : Int)] w fun e w' => e = .returned (.int .i64 ((k + 2 * R.length : Nat) : Int)) ∧ Owns w' base 88 2 v (newR (mkEnt k) R.length) ∧ Below base w w' ∧ (∀ g, g < w.heap.size → v.ownBlock ≠ some g → w'.heap[g]? = w.heap[g]?) := by
  obtain ⟨A, ca, rfl⟩ : ∃ A ca, v = .slice A R.length ca := by
    rcases hv.2.2 with ⟨rfl, h0⟩ | ⟨g, c, cur, rfl, _⟩
    · exact ⟨none, 0, by rw [h0]⟩
    · exact ⟨_, _, rfl⟩
  have HV : Hid (Owns w base 88 2 (.slice A R.length ca) R) := hv
  have q1 : (R.length : Int) ≤ 1048576 := by omega
  have q3 : (k : Int) ≤ 10000000 := by omega
  clear hv hl
  generalize hn : R.length = n at *
  go_enter Try.func54, Try.ntmps54
  go_wp2_with fail
  go_loopw [1, 5] (fun v1 v5 wr => ∃ j : Nat, j ≤ n ∧ v5 = .int .i64 (j : Int) ∧ v1 = .int .i64 ((k + 2 * j : Nat) : Int) ∧ Owns wr base 88 2 (.slice A n ca) (partR (mkEnt k) R j) ∧ Below base w wr ∧ (∀ g, g < w.heap.size → (Value.slice A n ca).ownBlock ≠ some g → wr.heap[g]? = w.heap[g]?)) (fun _ i _ => n - (intOf i).toNat)
  case atStart => exact ⟨0, by omega, rfl, by simp, by rw [partR_zero]; exact HV.out, Below.refl _ _, fun _ _ _ => rfl⟩
  case round =>
    obtain ⟨j, hj, rfl, rfl, hS, hB, hK⟩ := hrel
    have HS : Hid (Owns wr base 88 2 (.slice A n ca) (partR (mkEnt k) R j)) := hS
    have HB : Hid (Below base w wr) := hB
    have HK : Hid (∀ g, g < w.heap.size → (Value.slice A n ca).ownBlock ≠ some g → wr.heap[g]? = w.heap[g]?) := hK
    clear hS hB hK
    by_cases hlt : j < n
    · have q2 : (j : Int) < (n : Int) := by omega
      obtain ⟨g, rfl, hgb⟩ : ∃ g, A = some ⟨g, 0, none⟩ ∧ base ≤ g := by
        rcases HS.out.2.2 with ⟨e, h0⟩ | ⟨g, c, cur, e, hg, _⟩
        · rw [partR_length _ _ _ (by omega), hn] at h0; omega
        · cases e; exact ⟨g, rfl, hg⟩
      have HG : Hid (base ≤ g) := hgb
      have hpl : (partR (mkEnt k) R j).length = n := by rw [partR_length _ _ _ (by omega), hn]
      have HN2 : Hid ((partR (mkEnt k) R j).length = n) := hpl
      have hO0 : Owns wr base 88 2 (.slice (some ⟨g, 0, none⟩) n ca) ((partR (mkEnt k) R j).set j ((partR (mkEnt k) R j)[j]'(by omega))) := by rw [set_self]; exact HS.out
      have hrl : ((partR (mkEnt k) R j)[j]'(by omega)).length = 2 := HS.out.1 _ (List.getElem_mem _)
      have HF : Hid ((partR (mkEnt k) R j).set j (mkEnt k j) = partR (mkEnt k) R (j + 1)) := partR_set _ _ _ (by omega)
      obtain ⟨y0, y1, hy⟩ : ∃ y0 y1, (partR (mkEnt k) R j)[j]'(by omega) = [y0, y1] := by
        match hh : (partR (mkEnt k) R j)[j]'(by omega), hrl with
        | [y0, y1], _ => exact ⟨y0, y1, rfl⟩
      rw [hy] at hO0
      have hmk : mkEnt k j = [.int .i64 (((k + 2 * j : Nat) : Int)), .string (mark (k + 2 * j + 1))] := rfl
      rw [hmk] at HF
      have HM : Hid (((k + 2 * (j + 1) : Nat) : Int) = ((k + 2 * j : Nat) : Int) + 2) := by unfold Hid; omega
      have q4 : ((k + 2 * j : Nat) : Int) ≤ 20000000 := by omega
      have HM1 : Hid (1 ≤ k + 2 * j) := by unfold Hid; omega
      have HM2 : Hid (k + 2 * j ≤ 20000000) := by unfold Hid; omega
      clear hmk hpl hrl hy
      generalize k + 2 * j = m at *
      generalize partR (mkEnt k) R j = P at *
      have hsz := HB.out.size
      have hgw : g < wr.heap.size := (hO0.lt g rfl).2
      obtain ⟨z0, d0⟩ := hO0.cellAt2 HN2.out hlt 0 (by omega)
      have f0 := hO0.free2 HN2.out (j * 2)
      rw [Nat.add_zero] at d0
      have p0 := (hO0).pokeAt HN2.out hlt 0 (by omega) (.int .i64 ((m : Int)))
      rw [Nat.add_zero] at p0
      have Q0 : Hid (Owns ((wr).setCell ⟨g, j * 2, none⟩ (.int .i64 ((m : Int)))) base 88 2 (.slice (some ⟨g, 0, none⟩) n ca) (P.set j [.int .i64 ((m : Int)), y1])) := p0
      have D0 : Hid (Below base w ((wr).setCell ⟨g, j * 2, none⟩ (.int .i64 ((m : Int))))) := (HB.out).setCell (show base ≤ g from HG.out) _
      have E0 : Hid (∀ b, b < w.heap.size → (Value.slice (some ⟨g, 0, none⟩) n ca).ownBlock ≠ some b → ((wr).setCell ⟨g, j * 2, none⟩ (.int .i64 ((m : Int)))).heap[b]? = w.heap[b]?) := fun b hb hne => by rw [Below.heap_setCell _ _ _ _ (show b ≠ g from fun e => hne (by rw [e]; rfl))]; exact HK.out b hb hne
      clear p0
      have hsz0 : base ≤ ((wr).setCell ⟨g, j * 2, none⟩ (.int .i64 ((m : Int)))).heap.size := Nat.le_trans hbase D0.out.size
      have hwz0 : w.heap.size ≤ ((wr).setCell ⟨g, j * 2, none⟩ (.int .i64 ((m : Int)))).heap.size := D0.out.size
      have c1 : Calls Try.prog 68 #[.int .i64 ((m : Int) + 1)] ((wr).setCell ⟨g, j * 2, none⟩ (.int .i64 ((m : Int)))) fun e w' => e = .returned (.string (mark (m + 1))) ∧ Below ((wr).setCell ⟨g, j * 2, none⟩ (.int .i64 ((m : Int)))).heap.size ((wr).setCell ⟨g, j * 2, none⟩ (.int .i64 ((m : Int)))) w' := by
        have h := markText (m + 1) ((wr).setCell ⟨g, j * 2, none⟩ (.int .i64 ((m : Int)))) (by have := HM1.out; omega) (by have := HM2.out; omega)
        rw [show ((m + 1 : Nat) : Int) = (m : Int) + 1 by omega] at h
        exact h
      go_wp2_with fail
      refine c1.mono ?_
      rintro e x1 ⟨rfl, hx1⟩
      have O1 : Hid (Owns x1 base 88 2 (.slice (some ⟨g, 0, none⟩) n ca) (P.set j [.int .i64 ((m : Int)), y1])) := Q0.out.on hx1
      have B1 : Hid (Below base w x1) := (D0.out).trans (hx1.mono hsz0)
      have K1 : Hid (∀ b, b < w.heap.size → (Value.slice (some ⟨g, 0, none⟩) n ca).ownBlock ≠ some b → x1.heap[b]? = w.heap[b]?) := fun b hb hne => (hx1.block b (Nat.lt_of_lt_of_le hb hwz0)).trans (E0.out b hb hne)
      have hwz : w.heap.size ≤ x1.heap.size := B1.out.size
      clear hx1 c1
      obtain ⟨z1, d1⟩ := O1.out.cellAt2 HN2.out hlt 1 (by omega)
      have f1 := O1.out.free2 HN2.out (j * 2 + 1)
      have p1 := (O1.out).pokeAt HN2.out hlt 1 (by omega) (.string (mark (m + 1)))
      have Q1 : Hid (Owns ((x1).setCell ⟨g, j * 2 + 1, none⟩ (.string (mark (m + 1)))) base 88 2 (.slice (some ⟨g, 0, none⟩) n ca) (P.set j [.int .i64 ((m : Int)), .string (mark (m + 1))])) := p1
      have D1 : Hid (Below base w ((x1).setCell ⟨g, j * 2 + 1, none⟩ (.string (mark (m + 1))))) := (B1.out).setCell (show base ≤ g from HG.out) _
      have E1 : Hid (∀ b, b < w.heap.size → (Value.slice (some ⟨g, 0, none⟩) n ca).ownBlock ≠ some b → ((x1).setCell ⟨g, j * 2 + 1, none⟩ (.string (mark (m + 1)))).heap[b]? = w.heap[b]?) := fun b hb hne => by rw [Below.heap_setCell _ _ _ _ (show b ≠ g from fun e => hne (by rw [e]; rfl))]; exact K1.out b hb hne
      clear p1
      go_wp2_with fail
      go_roundw
      case rel => exact ⟨j + 1, by omega, by go_num, by rw [HM.out]; go_num, by rw [← HF.out]; exact Q1.out, D1.out, E1.out⟩
      case measure => simp [intOf]; omega
    · obtain rfl : j = n := by omega
      go_wp2_with fail
      go_ret
      refine ⟨rfl, ?_, HB.out, HK.out⟩
      have := HS.out
      rw [← hn, partR_all] at this
      rw [← hn]
      exact this
end Go.Proofs.Ytjejcpieajeflaa
