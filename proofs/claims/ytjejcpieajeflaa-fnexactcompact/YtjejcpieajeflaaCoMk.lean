/-
  Marks of rows of entries that were cut, and of numbers; all else is kept.
-/
import Derived.Test.YtjejcpieajeflaaRows
import Derived.Test.YtjejcpieajeflaaCoOwn
import Derived.Test.YtjejcpieajeflaaWkHd
import Derived.Test.YtjejcpieajeflaaNmLaw
import Derived.Deep.Cut
import Derived.Handy
namespace Go.Proofs.Ytjejcpieajeflaa
open Go.ChangeShapes Go.WideShapes Go.ChangeAt Go.RowKit Go.PlainAid
set_option linter.unusedVariables false

set_option maxHeartbeats 1000000 in
theorem markIntK (k base : Nat) (v : Value) (l : List Int) (w : World) (hv : Nums w base v l) (hl : l.length ≤ 2097152) (h2 : k ≤ 100000000) :
    Calls Try.prog 55 #[v, .int .i64 (k : Int)] w fun e w' => e = .returned (.int .i64 ((k + l.length : Nat) : Int)) ∧ Nums w' base v (nmarks k l.length) ∧ Below base w w' ∧ (∀ g, v.ownBlock ≠ some g → w'.heap[g]? = w.heap[g]?) := by
  have HV : Hid (Nums w base v l) := hv
  have hlt0 := hv.lt
  obtain ⟨A, ca, rfl, _, _⟩ := hv.shape
  have q1 : (l.length : Int) ≤ 2097152 := by omega
  have q3 : (k : Int) ≤ 100000000 := by omega
  clear hv hl
  generalize hn : l.length = n at *
  have HN : Hid (l.length = n) := hn
  clear hn
  go_enter Try.func55, Try.ntmps55
  go_wp2
  go_loopw [1, 5] (fun v1 v5 wr => ∃ j : Nat, j ≤ n ∧ v5 = .int .i64 j ∧ v1 = .int .i64 ((k + j : Nat) : Int) ∧ Nums wr base (.slice A n ca) (nmarked k l j) ∧ Below base w wr ∧ (∀ g, (Value.slice A n ca).ownBlock ≠ some g → wr.heap[g]? = w.heap[g]?)) (fun _ i _ => n - (intOf i).toNat)
  case atStart => exact ⟨0, by omega, rfl, rfl, by rw [nmarked_zero]; exact HV.out, Below.refl _ _, fun _ _ => rfl⟩
  case round =>
    obtain ⟨j, hj, rfl, rfl, hS, hB, hKp⟩ := hrel
    have HKP : Hid (∀ g, (Value.slice A n ca).ownBlock ≠ some g → wr.heap[g]? = w.heap[g]?) := hKp
    clear hKp
    have HS : Hid (Nums wr base (.slice A n ca) (nmarked k l j)) := hS
    have HB : Hid (Below base w wr) := hB
    clear hB
    by_cases hlt : j < n
    · have q2 : (j : Int) < (n : Int) := by omega
      have hml : (nmarked k l j).length = n := by rw [nmarked_length _ _ _ (by rw [HN.out]; exact hj), HN.out]
      obtain ⟨g, rfl, hg, _⟩ := hS.block (by omega)
      have HG : Hid (base ≤ g) := hg
      have e1 := hS.cell j (by rw [hml]; exact hlt)
      have e2 := hS.frozen j
      have hS2 := hS.stored j ((k + j : Nat) : Int)
      rw [nmarked_set _ _ _ (by rw [HN.out]; exact hlt)] at hS2
      have HS2 : Hid (Nums (wr.setCell ⟨g, j, none⟩ (.int .i64 ((k + j : Nat) : Int))) base (.slice (some ⟨g, 0, none⟩) n ca) (nmarked k l (j + 1))) := hS2
      generalize (nmarked k l j).getD j 0 = x at *
      clear hS hS2 hml hg
      go_wp2_with fail
      go_roundw
      case rel => exact ⟨j + 1, by omega, by go_num, by go_num, by have := HS2.out; rwa [show ((k + j : Nat) : Int) = (k : Int) + (j : Int) by omega] at this, HB.out.setCell HG.out _, fun g' hg' => by rw [Below.heap_setCell _ _ _ _ (fun e => hg' (by rw [e]; rfl))]; exact HKP.out g' hg'⟩
      case measure => simp [intOf]; omega
    · have hkk : j = n := by omega
      subst hkk
      clear hS
      go_wp2
      go_ret
      refine ⟨rfl, ?_, HB.out, HKP.out⟩
      have h := HS.out
      rw [← HN.out, nmarked_all, HN.out] at h
      exact h
theorem set_behind (A B : List (List Value)) (d j : Nat) (h : A.length = d) (r : List Value) : (A ++ B).set (d + j) r = A ++ B.set j r := by
  rw [List.set_append_right _ _ (by omega), h, Nat.add_sub_cancel_left]
set_option maxHeartbeats 2000000 in
theorem markEntryF (k base : Nat) (v : Value) (R : List (List Value)) (w : World) (hv : OwnF w base v R) (hl : R.length ≤ 1048576) (h1 : 1 ≤ k) (h2 : k ≤ 10000000) (hbase : base ≤ w.heap.size) :
    Calls Try.prog 54 #[v, .int .i64 (k : Int)] w fun e w' => e = .returned (.int .i64 ((k + 2 * R.length : Nat) : Int)) ∧ OwnF w' base v (newR (mkEnt k) R.length) ∧ Below base w w' ∧ (∀ g, g < w.heap.size → blkF v ≠ some g → w'.heap[g]? = w.heap[g]?) := by
  rcases hv with ⟨rfl, A, c, rfl, hA⟩ | ⟨h0, g, n0, c0, d, c, R0, hO, hn0, hdn, rfl, hc, hR⟩
  · have HA : Hid (A = none → c = 0) := hA
    clear hA
    go_enter Try.func54, Try.ntmps54
    go_wp2_with fail
    go_loopw [1, 5] (fun v1 v5 wr => v5 = .int .i64 0 ∧ v1 = .int .i64 (k : Int) ∧ w = wr) (fun _ i _ => 0)
    case atStart => exact ⟨rfl, rfl, rfl⟩
    case round =>
      obtain ⟨rfl, rfl, rfl⟩ := hrel
      go_wp2_with fail
      go_ret
      exact ⟨by simp, .inl ⟨rfl, A, c, rfl, HA.out⟩, Below.refl _ _, fun _ _ _ => rfl⟩
  have hlt0 : (R0.take d).length = d := by rw [List.length_take]; omega
  have HT : Hid ((R0.take d).length = d) := hlt0
  have HR0 : Hid (R0 = R0.take d ++ R) := by unfold Hid; rw [hR]; exact (List.take_append_drop d R0).symm
  have HNL : Hid (R0.length = n0) := hn0.symm
  have HV : Hid (Owns w base 88 2 (.slice (some ⟨g, 0, none⟩) n0 c0) (R0.take d ++ R)) := by unfold Hid; rw [← HR0.out]; exact hO
  have HG : Hid (base ≤ g) := (hO.lt g rfl).1
  have HC : Hid (R.length ≤ c) := hc
  have HP : Hid (0 < R.length) := h0
  have q1 : (R.length : Int) ≤ 1048576 := by omega
  have q3 : (k : Int) ≤ 10000000 := by omega
  have HD : Hid (d + R.length = n0) := hdn
  clear hO hl hn0 hR hlt0 hdn hc h0
  generalize R0.take d = T0 at *
  clear HNL
  generalize hn : R.length = n at *
  go_enter Try.func54, Try.ntmps54
  go_wp2_with fail
  go_loopw [1, 5] (fun v1 v5 wr => ∃ j : Nat, j ≤ n ∧ v5 = .int .i64 (j : Int) ∧ v1 = .int .i64 ((k + 2 * j : Nat) : Int) ∧ Owns wr base 88 2 (.slice (some ⟨g, 0, none⟩) n0 c0) (T0 ++ partR (mkEnt k) R j) ∧ Below base w wr ∧ (∀ b, b < w.heap.size → b ≠ g → wr.heap[b]? = w.heap[b]?)) (fun _ i _ => n - (intOf i).toNat)
  case atStart => exact ⟨0, by omega, rfl, by simp, by rw [partR_zero]; exact HV.out, Below.refl _ _, fun _ _ _ => rfl⟩
  case round =>
    obtain ⟨j, hj, rfl, rfl, hS, hB, hK⟩ := hrel
    have HS : Hid (Owns wr base 88 2 (.slice (some ⟨g, 0, none⟩) n0 c0) (T0 ++ partR (mkEnt k) R j)) := hS
    have HB : Hid (Below base w wr) := hB
    have HK : Hid (∀ b, b < w.heap.size → b ≠ g → wr.heap[b]? = w.heap[b]?) := hK
    clear hS hB hK
    by_cases hlt : j < n
    · have q2 : (j : Int) < (n : Int) := by omega
      have hpl : (partR (mkEnt k) R j).length = n := by rw [partR_length _ _ _ (by omega), hn]
      have hdj : d + j < n0 := by have := HD.out; omega
      have HN2 : Hid ((T0 ++ partR (mkEnt k) R j).length = n0) := by unfold Hid; rw [List.length_append, hpl, HT.out]; exact HD.out
      have hjl : d + j < (T0 ++ partR (mkEnt k) R j).length := by rw [HN2.out]; exact hdj
      have hO0 : Owns wr base 88 2 (.slice (some ⟨g, 0, none⟩) n0 c0) ((T0 ++ partR (mkEnt k) R j).set (d + j) ((T0 ++ partR (mkEnt k) R j)[d + j]'hjl)) := by rw [set_self]; exact HS.out
      have hrl : ((T0 ++ partR (mkEnt k) R j)[d + j]'hjl).length = 2 := HS.out.1 _ (List.getElem_mem _)
      have HF : Hid ((T0 ++ partR (mkEnt k) R j).set (d + j) (mkEnt k j) = T0 ++ partR (mkEnt k) R (j + 1)) := by unfold Hid; rw [set_behind _ _ _ _ HT.out, partR_set _ _ _ (by omega)]
      obtain ⟨y0, y1, hy⟩ : ∃ y0 y1, (T0 ++ partR (mkEnt k) R j)[d + j]'hjl = [y0, y1] := by
        match hh : (T0 ++ partR (mkEnt k) R j)[d + j]'hjl, hrl with
        | [y0, y1], _ => exact ⟨y0, y1, rfl⟩
      rw [hy] at hO0
      have hmk : mkEnt k j = [.int .i64 (((k + 2 * j : Nat) : Int)), .string (mark (k + 2 * j + 1))] := rfl
      rw [hmk] at HF
      have HM : Hid (((k + 2 * (j + 1) : Nat) : Int) = ((k + 2 * j : Nat) : Int) + 2) := by unfold Hid; omega
      have q4 : ((k + 2 * j : Nat) : Int) ≤ 20000000 := by omega
      have HM1 : Hid (1 ≤ k + 2 * j) := by unfold Hid; omega
      have HM2 : Hid (k + 2 * j ≤ 20000000) := by unfold Hid; omega
      clear hmk hpl hrl hy
      generalize k + 2 * j = m at *
      generalize T0 ++ partR (mkEnt k) R j = P at *
      have hsz := HB.out.size
      have hgw : g < wr.heap.size := (hO0.lt g rfl).2
      have HDJ : Hid ((d + j) * 2 = d * 2 + j * 2) := by unfold Hid; omega
      obtain ⟨z0, d0⟩ := hO0.cellAt2 HN2.out hdj 0 (by omega)
      have f0 := hO0.free2 HN2.out (d * 2 + j * 2)
      rw [Nat.add_zero, HDJ.out] at d0
      have p0 := (hO0).pokeAt HN2.out hdj 0 (by omega) (.int .i64 ((m : Int)))
      rw [Nat.add_zero, HDJ.out] at p0
      have Q0 : Hid (Owns ((wr).setCell ⟨g, d * 2 + j * 2, none⟩ (.int .i64 ((m : Int)))) base 88 2 (.slice (some ⟨g, 0, none⟩) n0 c0) (P.set (d + j) [.int .i64 ((m : Int)), y1])) := p0
      have D0 : Hid (Below base w ((wr).setCell ⟨g, d * 2 + j * 2, none⟩ (.int .i64 ((m : Int))))) := (HB.out).setCell (show base ≤ g from HG.out) _
      have E0 : Hid (∀ b, b < w.heap.size → b ≠ g → ((wr).setCell ⟨g, d * 2 + j * 2, none⟩ (.int .i64 ((m : Int)))).heap[b]? = w.heap[b]?) := fun b hb hne => by rw [Below.heap_setCell _ _ _ _ hne]; exact HK.out b hb hne
      clear p0
      have hsz0 : base ≤ ((wr).setCell ⟨g, d * 2 + j * 2, none⟩ (.int .i64 ((m : Int)))).heap.size := Nat.le_trans hbase D0.out.size
      have hwz0 : w.heap.size ≤ ((wr).setCell ⟨g, d * 2 + j * 2, none⟩ (.int .i64 ((m : Int)))).heap.size := D0.out.size
      have c1 : Calls Try.prog 68 #[.int .i64 ((m : Int) + 1)] ((wr).setCell ⟨g, d * 2 + j * 2, none⟩ (.int .i64 ((m : Int)))) fun e w' => e = .returned (.string (mark (m + 1))) ∧ Below ((wr).setCell ⟨g, d * 2 + j * 2, none⟩ (.int .i64 ((m : Int)))).heap.size ((wr).setCell ⟨g, d * 2 + j * 2, none⟩ (.int .i64 ((m : Int)))) w' := by
        have h := markText (m + 1) ((wr).setCell ⟨g, d * 2 + j * 2, none⟩ (.int .i64 ((m : Int)))) (by have := HM1.out; omega) (by have := HM2.out; omega)
        rw [show ((m + 1 : Nat) : Int) = (m : Int) + 1 by omega] at h
        exact h
      clear hjl
      go_wp2_with fail
      refine c1.mono ?_
      rintro e x1 ⟨rfl, hx1⟩
      have O1 : Hid (Owns x1 base 88 2 (.slice (some ⟨g, 0, none⟩) n0 c0) (P.set (d + j) [.int .i64 ((m : Int)), y1])) := Q0.out.on hx1
      have B1 : Hid (Below base w x1) := (D0.out).trans (hx1.mono hsz0)
      have K1 : Hid (∀ b, b < w.heap.size → b ≠ g → x1.heap[b]? = w.heap[b]?) := fun b hb hne => (hx1.block b (Nat.lt_of_lt_of_le hb hwz0)).trans (E0.out b hb hne)
      have hwz : w.heap.size ≤ x1.heap.size := B1.out.size
      clear hx1 c1
      obtain ⟨z1, d1⟩ := O1.out.cellAt2 HN2.out hdj 1 (by omega)
      rw [HDJ.out] at d1
      have f1 := O1.out.free2 HN2.out (d * 2 + j * 2 + 1)
      have p1 := (O1.out).pokeAt HN2.out hdj 1 (by omega) (.string (mark (m + 1)))
      rw [HDJ.out] at p1
      have Q1 : Hid (Owns ((x1).setCell ⟨g, d * 2 + j * 2 + 1, none⟩ (.string (mark (m + 1)))) base 88 2 (.slice (some ⟨g, 0, none⟩) n0 c0) (P.set (d + j) [.int .i64 ((m : Int)), .string (mark (m + 1))])) := p1
      have D1 : Hid (Below base w ((x1).setCell ⟨g, d * 2 + j * 2 + 1, none⟩ (.string (mark (m + 1))))) := (B1.out).setCell (show base ≤ g from HG.out) _
      have E1 : Hid (∀ b, b < w.heap.size → b ≠ g → ((x1).setCell ⟨g, d * 2 + j * 2 + 1, none⟩ (.string (mark (m + 1)))).heap[b]? = w.heap[b]?) := fun b hb hne => by rw [Below.heap_setCell _ _ _ _ hne]; exact K1.out b hb hne
      clear p1
      go_wp2_with fail
      go_roundw
      case rel => exact ⟨j + 1, by omega, by go_num, by rw [HM.out]; go_num, by rw [← HF.out]; exact Q1.out, D1.out, E1.out⟩
      case measure => simp [intOf]; omega
    · obtain rfl : j = n := by omega
      go_wp2_with fail
      go_ret
      refine ⟨rfl, ?_, HB.out, fun b hb hne => HK.out b hb fun e => hne ?_⟩
      · have := HS.out
        rw [← hn, partR_all] at this
        refine .inr ⟨by rw [newR_length]; exact HP.out, g, n0, c0, d, c, _, this, ?_, ?_, ?_, ?_, ?_⟩
        · rw [List.length_append, newR_length, HT.out, hn]; exact HD.out.symm
        · rw [newR_length]; exact HD.out
        · rw [newR_length]
        · rw [newR_length]; exact HC.out
        · rw [← hn, ← HT.out, List.drop_left]
      · subst e
        obtain ⟨q, rfl⟩ : ∃ q, j = q + 1 := ⟨j - 1, by have := HP.out; omega⟩
        rfl
end Go.Proofs.Ytjejcpieajeflaa
