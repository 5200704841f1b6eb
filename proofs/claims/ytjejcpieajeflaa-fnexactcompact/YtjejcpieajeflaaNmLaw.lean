/-
  Contracts of the laws' own helpers over slices of numbers: toIntS, eqIntS, markIntS, heldIntS (no condition but that the slices are short).
-/
import Derived.Test.YtjejcpieajeflaaRows
import Derived.Test.YtjejcpieajeflaaAid
import Derived.Test.YtjejcpieajeflaaNmAid
import Derived.Test.YtjejcpieajeflaaLikeAid
import Derived.WalkKit
import Derived.ProofKit
import Derived.OpenShut
import Derived.Below
import Derived.WalkSmall
import Derived.WalkLawsBesides
import Derived.Outline
import Derived.BigQuiet
import Derived.Deep.QuietTactic
import Derived.Deep.RegionWith
namespace Go.Proofs.Ytjejcpieajeflaa
open Go.ChangeShapes Go.WideShapes Go.ChangeAt Go.RowKit Go.PlainAid
set_option linter.unusedVariables false

theorem Try.infoInt : (Try.prog.info? 3).map (fun i => (i.zero, i.size, i.bytes)) = some (some (.int .i64 0), 1, 8) := by kernel_rfl
theorem num_made (n : Nat) : madeCells #[.int .i64 0] (n * 1) = (numCells (List.replicate n 0)).toArray := by
  apply Array.ext'
  rw [List.toList_toArray]
  apply List.ext_getElem?
  intro k
  by_cases hk : k < n
  · simp [madeCells, numCells, hk, Nat.mod_one]
  · simp [madeCells, numCells, hk]
set_option maxHeartbeats 1000000 in
theorem toIntS (l : List Int) (v : Value) (w : World) (B : Nat) (hv : NumsV w B v l) (hn : l.length ≤ 1048576) (hB : B ≤ w.heap.size) :
    Calls Try.prog 45 #[v] w fun e w' => ∃ u, e = .returned u ∧ Nums w' w.heap.size u l ∧ Below w.heap.size w w' := by
  obtain ⟨A, cap, rfl, _, _, hl⟩ := hv
  have HL : Hid (∀ j, j < l.length → ∃ g off, A = some ⟨g, off, none⟩ ∧ g < B ∧ _) := hl
  have HB : Hid (B ≤ w.heap.size) := hB
  clear hl hB
  have q1 : (l.length : Int) ≤ 1048576 := by omega
  generalize hN : l.length = n at *
  obtain ⟨i0, hi, hz0, hz1, hz2⟩ := info_parts Try.infoInt
  have hmk : ∀ wx : World, (Instr.makeSlice 23 (.int .i64 (n : Int)) (.int .i64 (n : Int))).run Try.prog wx = .ok (.slice (some ⟨wx.heap.size, 0, none⟩) n n) (wx.alloc (.cells (numCells (List.replicate n 0)).toArray 3)) := fun wx => by
    have h := run_make (P := Try.prog) wx 23 3 i0 _ Try.underlying23 hi hz0 .i64 .i64 (n : Int) (n : Int) (by omega) (by omega) (by rw [hz2]; omega) (by omega)
    rw [hz1] at h
    have e : (Value.int .i64 0).cells = #[.int .i64 0] := rfl
    rw [e, Int.toNat_natCast, num_made] at h
    exact h
  clear hi hz0 hz1 hz2
  have HLN : Hid (l.length = n) := hN
  clear hN
  go_enter Try.func45, Try.ntmps45
  go_wp2_with fail
  go_loopw [4] (fun v4 wr => ∃ k : Nat, k ≤ n ∧ v4 = .int .i64 (k : Int) ∧ Nums wr w.heap.size (.slice (some ⟨w.heap.size, 0, none⟩) n n) (l.take k ++ List.replicate (n - k) 0) ∧ Below w.heap.size w wr) (fun i _ => n - (intOf i).toNat)
  case atStart =>
    refine ⟨0, by omega, rfl, ?_, (Below.refl _ _).alloc (Nat.le_refl _) _⟩
    rw [List.take_zero, Nat.sub_zero, List.nil_append]
    unfold Nums
    rw [List.length_replicate]
    exact World.ownsRow_lit w (numCells (List.replicate n 0)).toArray n (Nat.le_refl _) (by unfold maxLen; omega) (by simp [numCells])
  case round =>
    obtain ⟨k, hk, rfl, hO, hb⟩ := hrel
    have HB1 : Hid (Below w.heap.size w wr) := hb
    have hml : (l.take k ++ List.replicate (n - k) (0 : Int)).length = n := by have := HLN.out; simp; omega
    have HO : Hid (Nums wr w.heap.size (.slice (some ⟨w.heap.size, 0, none⟩) n n) (l.take k ++ List.replicate (n - k) 0)) := hO
    by_cases hlt : k < n
    · have q2 : (k : Int) < (n : Int) := by omega
      obtain ⟨g, off, rfl, hg, hc⟩ := HL.out k (by have := HLN.out; omega)
      rw [← hb.cell (p := ⟨_, _, none⟩) (Nat.lt_of_lt_of_le hg HB.out)] at hc
      have e1 := hO.cell k (by rw [hml]; exact hlt)
      have e2 := hO.frozen k
      have hS := hO.stored k (l.getD k 0)
      rw [fill_num (l.take k) (l.getD k 0) n k (by have := HLN.out; simp; omega) hlt, ← take_num l k (by have := HLN.out; omega)] at hS
      have HS : Hid (Nums (wr.setCell ⟨w.heap.size, k, none⟩ (.int .i64 (l.getD k 0))) w.heap.size (.slice (some ⟨w.heap.size, 0, none⟩) n n) (l.take (k + 1) ++ List.replicate (n - (k + 1)) 0)) := hS
      generalize (l.take k ++ List.replicate (n - k) (0 : Int)).getD k 0 = y at *
      generalize l.getD k 0 = x at *
      clear hO hS hml hb
      go_wp2_with fail
      go_roundw
      case rel => exact ⟨k + 1, by omega, by go_num, HS.out, HB1.out.setCell (Nat.le_refl _) _⟩
      case measure => simp [intOf]; omega
    · obtain rfl : k = n := by omega
      have HF : Hid (Nums wr w.heap.size (.slice (some ⟨w.heap.size, 0, none⟩) k k) l) := by
        have h := HO.out
        rw [Nat.sub_self, List.replicate_zero, List.append_nil, List.take_of_length_le (by have := HLN.out; omega)] at h
        exact h
      clear hO hb
      go_wp2_with fail
      go_ret
      exact ⟨_, rfl, HF.out, HB1.out⟩

set_option maxHeartbeats 1000000 in
theorem eqIntS (l : List Int) (va vb : Value) (w : World) (B : Nat) (ha : NumsV w B va l) (hb : NumsV w B vb l) (hl : l.length ≤ 2097152) :
    Calls Try.prog 52 #[va, vb] w fun e w' => e = .returned (.bool true) ∧ Like w w' := by
  obtain ⟨A, ca, rfl, _, _, ha⟩ := ha
  obtain ⟨A', cb, rfl, _, _, hb⟩ := hb
  have HA : Hid (∀ j, j < l.length → ∃ g off, A = some ⟨g, off, none⟩ ∧ g < B ∧ _) := ha
  have HB : Hid (∀ j, j < l.length → ∃ g off, A' = some ⟨g, off, none⟩ ∧ g < B ∧ _) := hb
  have q1 : (l.length : Int) ≤ 2097152 := by omega
  clear ha hb hl
  generalize hn : l.length = n at *
  clear hn
  go_enter Try.func52, Try.ntmps52
  go_wp2
  go_loopw [5] (fun v5 wr => ∃ k : Nat, k ≤ n ∧ v5 = .int .i64 k ∧ Like w wr) (fun i _ => n - (intOf i).toNat)
  case atStart => exact ⟨0, by omega, rfl, Like.refl _⟩
  case round =>
    obtain ⟨k, hk, rfl, hL⟩ := hrel
    by_cases hlt : k < n
    · have q2 : (k : Int) < (n : Int) := by omega
      obtain ⟨g, off, rfl, _, e1⟩ := HA.out k hlt
      obtain ⟨g', off', rfl, _, e2⟩ := HB.out k hlt
      rw [← cell?_heap hL.1] at e1 e2
      generalize l.getD k 0 = x at *
      go_wp2
      go_quiet (fail)
      go_wp2
      go_roundw
      case rel => exact ⟨k + 1, by omega, by go_num, hL.drewN _⟩
      case measure => simp [intOf]; omega
    · have hkk : k = n := by omega
      subst hkk
      go_wp2
      go_ret
      exact ⟨rfl, hL⟩

set_option maxHeartbeats 1000000 in
theorem markIntS (k base : Nat) (v : Value) (l : List Int) (w : World) (hv : Nums w base v l) (hl : l.length ≤ 2097152) (h2 : k ≤ 100000000) :
    Calls Try.prog 55 #[v, .int .i64 (k : Int)] w fun e w' => e = .returned (.int .i64 ((k + l.length : Nat) : Int)) ∧ Nums w' base v (nmarks k l.length) ∧ Below base w w' := by
  have HV : Hid (Nums w base v l) := hv
  have hlt0 := hv.lt
  obtain ⟨A, ca, rfl, _, _⟩ := hv.shape
  have q1 : (l.length : Int) ≤ 2097152 := by omega
  have q3 : (k : Int) ≤ 100000000 := by omega
  clear hv hl
  generalize hn : l.length = n at *
  have HN : Hid (l.length = n) := hn
  clear hn
  go_enter Try.func55, Try.ntmps55
  go_wp2
  go_loopw [1, 5] (fun v1 v5 wr => ∃ j : Nat, j ≤ n ∧ v5 = .int .i64 j ∧ v1 = .int .i64 ((k + j : Nat) : Int) ∧ Nums wr base (.slice A n ca) (nmarked k l j) ∧ Below base w wr) (fun _ i _ => n - (intOf i).toNat)
  case atStart => exact ⟨0, by omega, rfl, rfl, by rw [nmarked_zero]; exact HV.out, Below.refl _ _⟩
  case round =>
    obtain ⟨j, hj, rfl, rfl, hS, hB⟩ := hrel
    have HS : Hid (Nums wr base (.slice A n ca) (nmarked k l j)) := hS
    have HB : Hid (Below base w wr) := hB
    clear hB
    by_cases hlt : j < n
    · have q2 : (j : Int) < (n : Int) := by omega
      have hml : (nmarked k l j).length = n := by rw [nmarked_length _ _ _ (by rw [HN.out]; exact hj), HN.out]
      obtain ⟨g, rfl, hg, _⟩ := hS.block (by omega)
      have HG : Hid (base ≤ g) := hg
      have e1 := hS.cell j (by rw [hml]; exact hlt)
      have e2 := hS.frozen j
      have hS2 := hS.stored j ((k + j : Nat) : Int)
      rw [nmarked_set _ _ _ (by rw [HN.out]; exact hlt)] at hS2
      have HS2 : Hid (Nums (wr.setCell ⟨g, j, none⟩ (.int .i64 ((k + j : Nat) : Int))) base (.slice (some ⟨g, 0, none⟩) n ca) (nmarked k l (j + 1))) := hS2
      generalize (nmarked k l j).getD j 0 = x at *
      clear hS hS2 hml hg
      go_wp2_with fail
      go_roundw
      case rel => exact ⟨j + 1, by omega, by go_num, by go_num, by have := HS2.out; rwa [show ((k + j : Nat) : Int) = (k : Int) + (j : Int) by omega] at this, HB.out.setCell HG.out _⟩
      case measure => simp [intOf]; omega
    · have hkk : j = n := by omega
      subst hkk
      clear hS
      go_wp2
      go_ret
      refine ⟨rfl, ?_, HB.out⟩
      have := HS.out
      rw [← HN.out, nmarked_all] at this
      rw [HN.out] at this
      exact this

set_option maxHeartbeats 1000000 in
theorem heldIntS (k base n : Nat) (v : Value) (w : World) (hv : Nums w base v (nmarks k n)) (hl : n ≤ 2097152) (h2 : k ≤ 100000000) :
    Calls Try.prog 58 #[v, .int .i64 (k : Int)] w fun e w' => e = .returned (.int .i64 ((k + n : Nat) : Int)) ∧ w = w' := by
  have hml := nmarks_length k n
  obtain ⟨A, ca, rfl, _, _, hc⟩ := hv.lies
  rw [hml] at hc
  have HC : Hid (∀ j, j < n → ∃ g off, A = some ⟨g, off, none⟩ ∧ g < w.heap.size ∧ _) := hc
  have q1 : (n : Int) ≤ 2097152 := by omega
  have q3 : (k : Int) ≤ 100000000 := by omega
  clear hv hl hc
  rw [hml]
  go_enter Try.func58, Try.ntmps58
  go_wp2
  go_loop [1, 5] (fun v1 v5 => ∃ j : Nat, j ≤ n ∧ v5 = .int .i64 j ∧ v1 = .int .i64 ((k + j : Nat) : Int)) (fun _ i => n - (intOf i).toNat)
  case atStart => exact ⟨0, by omega, rfl, rfl⟩
  case round =>
    obtain ⟨j, hj, rfl, rfl⟩ := hrel
    by_cases hlt : j < n
    · have q2 : (j : Int) < (n : Int) := by omega
      obtain ⟨g, off, rfl, _, e1⟩ := HC.out j hlt
      rw [nmarks_get k n j hlt] at e1
      go_wp2
      go_round
      case rel => exact ⟨j + 1, by omega, by go_num, by go_num⟩
      case measure => simp [intOf]; omega
    · have hkk : j = n := by omega
      subst hkk
      go_wp2
      go_ret
      exact ⟨rfl, rfl⟩
end Go.Proofs.Ytjejcpieajeflaa
