/- WkMk WkHd RvLaw RvCut RvHelp PtRow StrEq Frames -/
import Derived.Test.YtdimaoloapbeoaaGreatDoorRows
import Derived.Test.YtdimaoloapbeoaaGreatDoorQv23
import Derived.Test.YtdimaoloapbeoaaGreatDoorQv1
import Derived.Test.YtdimaoloapbeoaaGreatDoorQv10
import Derived.Handy
import Derived.Test.YtdimaoloapbeoaaGreatDoorQv15
import Derived.Test.YtdimaoloapbeoaaGreatDoorQv12
import Derived.Test.YtdimaoloapbeoaaGreatDoorQv0
import Derived.WalkKit
import Derived.ProofKit
import Derived.Laws.OwnMore
import Derived.Below
import Derived.OwnWalk
import Derived.WalkSmall
import Derived.Test.YtdimaoloapbeoaaGreatDoorQv22
namespace Go.Proofs.YtdimaoloapbeoaaGreatDoor
open Go.ChangeShapes Go.WideShapes Go.ChangeAt Go.RowKit Go.PlainAid
set_option linter.unusedVariables false
def mkEnt (k j : Nat) : List Value := [.int .i64 (((k + 2 * j : Nat) : Int)), .string (mark (k + 2 * j + 1))]
set_option maxHeartbeats 2000000 in
theorem markEntryS (k base : Nat) (v : Value) (R : List (List Value)) (w : World) (hv : Owns w base 59 2 v R) (hl : R.length ≤ 1048576) (h1 : 1 ≤ k) (h2 : k ≤ 10000000) (hbase : base ≤ w.heap.size) :
  Calls Tryz.prog 75 #[v, .int .i64 (k : Int)] w fun e w' => e = .returned (.int .i64 ((k + 2 * R.length : Nat) : Int)) ∧ Owns w' base 59 2 v (newR (mkEnt k) R.length) ∧ Below base w w' ∧ (∀ g, g < w.heap.size → v.ownBlock ≠ some g → w'.heap[g]? = w.heap[g]?) := by
 obtain ⟨A, ca, rfl⟩ : ∃ A ca, v = .slice A R.length ca := by
  rcases hv.2.2 with ⟨rfl, h0⟩ | ⟨g, c, cur, rfl, _⟩
  ·exact ⟨none, 0, by rw [h0]⟩
  ·exact ⟨_, _, rfl⟩
 have HV : Hid (Owns w base 59 2 (.slice A R.length ca) R) := hv
 have q1 : (R.length : Int) ≤ 1048576 := by omega
 have q3 : (k : Int) ≤ 10000000 := by omega
 clear hv hl
 generalize hn : R.length = n at *
 go_enter Tryz.func75, Tryz.ntmps75
 go_wp2_with fail
 go_loopw [1, 5] (fun v1 v5 wr => ∃ j : Nat, j ≤ n ∧ v5 = .int .i64 (j : Int) ∧ v1 = .int .i64 ((k + 2 * j : Nat) : Int) ∧ Owns wr base 59 2 (.slice A n ca) (partR (mkEnt k) R j) ∧ Below base w wr ∧ (∀ g, g < w.heap.size → (Value.slice A n ca).ownBlock ≠ some g → wr.heap[g]? = w.heap[g]?)) (fun _ i _ => n - (intOf i).toNat)
 case atStart => exact ⟨0, by omega, rfl, by simp, by rw [partR_zero]; exact HV.out, Below.refl _ _, fun _ _ _ => rfl⟩
 case round =>
  obtain ⟨j, hj, rfl, rfl, hS, hB, hK⟩ := hrel
  have HS : Hid (Owns wr base 59 2 (.slice A n ca) (partR (mkEnt k) R j)) := hS
  have HB : Hid (Below base w wr) := hB
  have HK : Hid (∀ g, g < w.heap.size → (Value.slice A n ca).ownBlock ≠ some g → wr.heap[g]? = w.heap[g]?) := hK
  clear hS hB hK
  by_cases hlt : j < n
  ·have q2 : (j : Int) < (n : Int) := by omega
   obtain ⟨g, rfl, hgb⟩ : ∃ g, A = some ⟨g, 0, none⟩ ∧ base ≤ g := by
    rcases HS.out.2.2 with ⟨e, h0⟩ | ⟨g, c, cur, e, hg, _⟩
    ·rw [partR_length _ _ _ (by omega), hn] at h0; omega
    ·cases e; exact ⟨g, rfl, hg⟩
   have HG : Hid (base ≤ g) := hgb
   have hpl : (partR (mkEnt k) R j).length = n := by rw [partR_length _ _ _ (by omega), hn]
   have HN2 : Hid ((partR (mkEnt k) R j).length = n) := hpl
   have hO0 : Owns wr base 59 2 (.slice (some ⟨g, 0, none⟩) n ca) ((partR (mkEnt k) R j).set j ((partR (mkEnt k) R j)[j]'(by omega))) := by rw [set_self]; exact HS.out
   have hrl : ((partR (mkEnt k) R j)[j]'(by omega)).length = 2 := HS.out.1 _ (List.getElem_mem _)
   have HF : Hid ((partR (mkEnt k) R j).set j (mkEnt k j) = partR (mkEnt k) R (j + 1)) := partR_set _ _ _ (by omega)
   obtain ⟨y0, y1, hy⟩ : ∃ y0 y1, (partR (mkEnt k) R j)[j]'(by omega) = [y0, y1] := by
    match hh : (partR (mkEnt k) R j)[j]'(by omega), hrl with
    | [y0, y1], _ => exact ⟨y0, y1, rfl⟩
   rw [hy] at hO0
   have hmk : mkEnt k j = [.int .i64 (((k + 2 * j : Nat) : Int)), .string (mark (k + 2 * j + 1))] := rfl
   rw [hmk] at HF
   have HM : Hid (((k + 2 * (j + 1) : Nat) : Int) = ((k + 2 * j : Nat) : Int) + 2) := by unfold Hid; omega
   have q4 : ((k + 2 * j : Nat) : Int) ≤ 20000000 := by omega
   have HM1 : Hid (1 ≤ k + 2 * j) := by unfold Hid; omega
   have HM2 : Hid (k + 2 * j ≤ 20000000) := by unfold Hid; omega
   clear hmk hpl hrl hy
   generalize k + 2 * j = m at *
   generalize partR (mkEnt k) R j = P at *
   have hsz := HB.out.size
   have hgw : g < wr.heap.size := (hO0.lt g rfl).2
   obtain ⟨z0, d0⟩ := hO0.cellAt2 HN2.out hlt 0 (by omega)
   have f0 := hO0.free2 HN2.out (j * 2)
   rw [Nat.add_zero] at d0
   have p0 := (hO0).pokeAt HN2.out hlt 0 (by omega) (.int .i64 ((m : Int)))
   rw [Nat.add_zero] at p0
   have Q0 : Hid (Owns ((wr).setCell ⟨g, j * 2, none⟩ (.int .i64 ((m : Int)))) base 59 2 (.slice (some ⟨g, 0, none⟩) n ca) (P.set j [.int .i64 ((m : Int)), y1])) := p0
   have D0 : Hid (Below base w ((wr).setCell ⟨g, j * 2, none⟩ (.int .i64 ((m : Int))))) := (HB.out).setCell (show base ≤ g from HG.out) _
   have E0 : Hid (∀ b, b < w.heap.size → (Value.slice (some ⟨g, 0, none⟩) n ca).ownBlock ≠ some b → ((wr).setCell ⟨g, j * 2, none⟩ (.int .i64 ((m : Int)))).heap[b]? = w.heap[b]?) := fun b hb hne => by rw [Below.heap_setCell _ _ _ _ (show b ≠ g from fun e => hne (by rw [e]; rfl))]; exact HK.out b hb hne
   clear p0
   have hsz0 : base ≤ ((wr).setCell ⟨g, j * 2, none⟩ (.int .i64 ((m : Int)))).heap.size := Nat.le_trans hbase D0.out.size
   have hwz0 : w.heap.size ≤ ((wr).setCell ⟨g, j * 2, none⟩ (.int .i64 ((m : Int)))).heap.size := D0.out.size
   have c1 : Calls Tryz.prog 74 #[.int .i64 ((m : Int) + 1)] ((wr).setCell ⟨g, j * 2, none⟩ (.int .i64 ((m : Int)))) fun e w' => e = .returned (.string (mark (m + 1))) ∧ Below ((wr).setCell ⟨g, j * 2, none⟩ (.int .i64 ((m : Int)))).heap.size ((wr).setCell ⟨g, j * 2, none⟩ (.int .i64 ((m : Int)))) w' := by
    have h := markText (m + 1) ((wr).setCell ⟨g, j * 2, none⟩ (.int .i64 ((m : Int)))) (by have := HM1.out; omega) (by have := HM2.out; omega)
    rw [show ((m + 1 : Nat) : Int) = (m : Int) + 1 by omega] at h
    exact h
   go_wp2_with fail
   refine c1.mono ?_
   rintro e x1 ⟨rfl, hx1⟩
   have O1 : Hid (Owns x1 base 59 2 (.slice (some ⟨g, 0, none⟩) n ca) (P.set j [.int .i64 ((m : Int)), y1])) := Q0.out.on hx1
   have B1 : Hid (Below base w x1) := (D0.out).trans (hx1.mono hsz0)
   have K1 : Hid (∀ b, b < w.heap.size → (Value.slice (some ⟨g, 0, none⟩) n ca).ownBlock ≠ some b → x1.heap[b]? = w.heap[b]?) := fun b hb hne => (hx1.block b (Nat.lt_of_lt_of_le hb hwz0)).trans (E0.out b hb hne)
   have hwz : w.heap.size ≤ x1.heap.size := B1.out.size
   clear hx1 c1
   obtain ⟨z1, d1⟩ := O1.out.cellAt2 HN2.out hlt 1 (by omega)
   have f1 := O1.out.free2 HN2.out (j * 2 + 1)
   have p1 := (O1.out).pokeAt HN2.out hlt 1 (by omega) (.string (mark (m + 1)))
   have Q1 : Hid (Owns ((x1).setCell ⟨g, j * 2 + 1, none⟩ (.string (mark (m + 1)))) base 59 2 (.slice (some ⟨g, 0, none⟩) n ca) (P.set j [.int .i64 ((m : Int)), .string (mark (m + 1))])) := p1
   have D1 : Hid (Below base w ((x1).setCell ⟨g, j * 2 + 1, none⟩ (.string (mark (m + 1))))) := (B1.out).setCell (show base ≤ g from HG.out) _
   have E1 : Hid (∀ b, b < w.heap.size → (Value.slice (some ⟨g, 0, none⟩) n ca).ownBlock ≠ some b → ((x1).setCell ⟨g, j * 2 + 1, none⟩ (.string (mark (m + 1)))).heap[b]? = w.heap[b]?) := fun b hb hne => by rw [Below.heap_setCell _ _ _ _ (show b ≠ g from fun e => hne (by rw [e]; rfl))]; exact K1.out b hb hne
   clear p1
   go_wp2_with fail
   go_roundw
   case rel => exact ⟨j + 1, by omega, by go_num, by rw [HM.out]; go_num, by rw [← HF.out]; exact Q1.out, D1.out, E1.out⟩
   case measure => simp [intOf]; omega
  ·obtain rfl : j = n := by omega
   go_wp2_with fail
   go_ret
   refine ⟨rfl, ?_, HB.out, HK.out⟩
   have := HS.out
   rw [← hn, partR_all] at this
   rw [← hn]
   exact this
end Go.Proofs.YtdimaoloapbeoaaGreatDoor
namespace Go.Proofs.YtdimaoloapbeoaaGreatDoor
open Go.ChangeShapes Go.WideShapes Go.ChangeAt Go.RowKit Go.PlainAid
set_option linter.unusedVariables false
theorem mkEnt_look {w : World} {B k n : Nat} {v : Value} (h : Lies w B 2 v (newR (mkEnt k) n)) : ∃ A cap, v = .slice A n cap ∧ ∀ j, j < n → ∃ g off, A = some ⟨g, off, none⟩ ∧ g < B ∧ w.cell? ⟨g, off + j * 2, none⟩ = some (.int .i64 (((k + 2 * j : Nat) : Int))) ∧ w.cell? ⟨g, off + j * 2 + 1, none⟩ = some (.string (mark (k + 2 * j + 1))) := by
 obtain ⟨A, cap, e, h⟩ := h.look
 rw [newR_length] at e
 refine ⟨A, cap, e, fun j hj => ?_⟩
 obtain ⟨g, off, e, hg, hc⟩ := h j (by rw [newR_length]; exact hj)
 have hr : (newR (mkEnt k) n)[j]'(by rw [newR_length]; exact hj) = mkEnt k j := by simp [newR]
 rw [hr] at hc
 refine ⟨g, off, e, hg, ?_, ?_⟩
 ·have := hc 0 _ (by omega) rfl; simpa [Nat.add_assoc] using this
 ·have := hc 1 _ (by omega) rfl; simpa [Nat.add_assoc] using this
set_option maxHeartbeats 2000000 in
theorem heldEntryS (k n : Nat) (v : Value) (w : World) (B : Nat) (hv : Lies w B 2 v (newR (mkEnt k) n)) (hl : n ≤ 1048576) (h1 : 1 ≤ k) (h2 : k ≤ 10000000) (hB : B ≤ w.heap.size) :
  Calls Tryz.prog 76 #[v, .int .i64 (k : Int)] w fun e w' => e = .returned (.int .i64 ((k + 2 * n : Nat) : Int)) ∧ Below w.heap.size w w' := by
 obtain ⟨A, ca, rfl, hl'⟩ := mkEnt_look hv
 have HL : Hid (∀ j, j < n → ∃ g off, A = some ⟨g, off, none⟩ ∧ g < B ∧ _) := hl'
 have HB : Hid (B ≤ w.heap.size) := hB
 have q1 : (n : Int) ≤ 1048576 := by omega
 have q3 : (k : Int) ≤ 10000000 := by omega
 clear hv hl hl' hB
 go_enter Tryz.func76, Tryz.ntmps76
 go_wp2_with fail
 go_loopw [1, 5] (fun v1 v5 wr => ∃ j : Nat, j ≤ n ∧ v5 = .int .i64 (j : Int) ∧ v1 = .int .i64 ((k + 2 * j : Nat) : Int) ∧ Below w.heap.size w wr) (fun _ i _ => n - (intOf i).toNat)
 case atStart => exact ⟨0, by omega, rfl, by simp, Below.refl _ _⟩
 case round =>
  obtain ⟨j, hj, rfl, rfl, hb⟩ := hrel
  have HB1 : Hid (Below w.heap.size w wr) := hb
  clear hb
  by_cases hlt : j < n
  ·have q2 : (j : Int) < (n : Int) := by omega
   obtain ⟨g, off, rfl, hg, d0, d1⟩ := HL.out j hlt
   have hgw : g < w.heap.size := Nat.lt_of_lt_of_le hg HB.out
   rw [← HB1.out.cell (p := ⟨_, _, none⟩) hgw] at d0
   rw [← HB1.out.cell (p := ⟨_, _, none⟩) hgw] at d1
   have HM : Hid (((k + 2 * (j + 1) : Nat) : Int) = ((k + 2 * j : Nat) : Int) + 2) := by unfold Hid; omega
   have q4 : ((k + 2 * j : Nat) : Int) ≤ 20000000 := by omega
   have HM1 : Hid (1 ≤ k + 2 * j) := by unfold Hid; omega
   have HM2 : Hid (k + 2 * j ≤ 20000000) := by unfold Hid; omega
   generalize k + 2 * j = m at *
   have hsz := HB1.out.size
   have hgl : Hid (g < wr.heap.size) := Nat.lt_of_lt_of_le hgw hsz
   have c1 : ∀ wx : World, Calls Tryz.prog 74 #[.int .i64 ((m : Int) + 1)] wx fun e w' => e = .returned (.string (mark (m + 1))) ∧ Below wx.heap.size wx w' := fun wx => by
    have h := markText (m + 1) wx (by have := HM1.out; omega) (by have := HM2.out; omega)
    rw [show ((m + 1 : Nat) : Int) = (m : Int) + 1 by omega] at h
    exact h
   clear hgw HL
   go_wp2_with fail
   (go_region_with (go_at_call 74; refine (c1 _).mono ?_; rintro e x0 ⟨rfl, hx0⟩; have a1 := (hx0.cell (p := ⟨g, off + j * 2 + 1, none⟩) hgl.out).trans d1; have hg0 : Hid (g < x0.heap.size) := Nat.lt_of_lt_of_le hgl.out hx0.size))
   all_goals go_wp2_with fail
   all_goals exact ⟨⟨j + 1, by omega, by go_num, by rw [HM.out]; go_num, (HB1.out).trans (((Below.refl _ wr).drew.trans hx0).mono hsz)⟩, by simp [intOf]; omega⟩
  ·obtain rfl : j = n := by omega
   go_wp2_with fail
   go_ret
   exact ⟨rfl, HB1.out⟩
set_option maxHeartbeats 1000000 in
theorem markWal (k base : Nat) (a b c t : Int) (u : Value) (R : List (List Value)) (w : World) (hv : Owns w base 59 2 u R) (hl : R.length ≤ 1048576) (h1 : 1 ≤ k) (h2 : k ≤ 10000000) (hbase : base ≤ w.heap.size) :
  Calls Tryz.prog 38 #[.agg #[.int .i64 a, .int .i64 b, .int .i64 c, .int .i64 t, u], .int .i64 (k : Int)] w fun e w' => e = .returned (.int .i64 ((k + 2 * R.length : Nat) : Int)) ∧ Owns w' base 59 2 u (newR (mkEnt k) R.length) ∧ Below base w w' ∧ (∀ g, g < w.heap.size → u.ownBlock ≠ some g → w'.heap[g]? = w.heap[g]?) := by
 have HV : Hid (Owns w base 59 2 u R) := hv
 have HB : Hid (base ≤ w.heap.size) := hbase
 have HL : Hid (R.length ≤ 1048576) := hl
 clear hv hbase hl
 go_enter Tryz.func38, Tryz.ntmps38
 go_wp2_with fail
 have hb0 : Below w.heap.size w (w.alloc (.cells #[.int .i64 a, .int .i64 b, .int .i64 c, .int .i64 t, u] 30)) := (Below.refl _ _).alloc (Nat.le_refl _) _
 generalize w.alloc (.cells #[.int .i64 a, .int .i64 b, .int .i64 c, .int .i64 t, u] 30) = W at *
 have B0 : Hid (Below w.heap.size w W) := hb0
 clear hb0
 refine (markEntryS k base u R W (HV.out.on B0.out) HL.out h1 h2 (Nat.le_trans HB.out B0.out.size)).mono ?_
 rintro e w2 ⟨rfl, hO, hB, hK⟩
 have O2 : Hid (Owns w2 base 59 2 u (newR (mkEnt k) R.length)) := hO
 have B2 : Hid (Below base W w2) := hB
 have K2 : Hid (∀ g, g < W.heap.size → u.ownBlock ≠ some g → w2.heap[g]? = W.heap[g]?) := hK
 clear hO hB hK
 go_wp2_with fail
 go_ret
 exact ⟨rfl, O2.out, (B0.out.mono HB.out).trans B2.out, fun g hg hne => (K2.out g (Nat.lt_of_lt_of_le hg B0.out.size) hne).trans (B0.out.block g hg)⟩
set_option maxHeartbeats 1000000 in
theorem heldWal (k n : Nat) (a b c t : Int) (u : Value) (w : World) (B : Nat) (hv : Lies w B 2 u (newR (mkEnt k) n)) (hl : n ≤ 1048576) (h1 : 1 ≤ k) (h2 : k ≤ 10000000) (hB : B ≤ w.heap.size) :
  Calls Tryz.prog 39 #[.agg #[.int .i64 a, .int .i64 b, .int .i64 c, .int .i64 t, u], .int .i64 (k : Int)] w fun e w' => e = .returned (.int .i64 ((k + 2 * n : Nat) : Int)) ∧ Below w.heap.size w w' := by
 have HV : Hid (Lies w B 2 u (newR (mkEnt k) n)) := hv
 have HB : Hid (B ≤ w.heap.size) := hB
 have q0 : decide (((k + 2 * n : Nat) : Int) < 0) = false := decide_eq_false (by omega)
 clear hv hB
 go_enter Tryz.func39, Tryz.ntmps39
 go_wp2_with fail
 have hb0 : Below w.heap.size w (w.alloc (.cells #[.int .i64 a, .int .i64 b, .int .i64 c, .int .i64 t, u] 30)) := (Below.refl _ _).alloc (Nat.le_refl _) _
 generalize w.alloc (.cells #[.int .i64 a, .int .i64 b, .int .i64 c, .int .i64 t, u] 30) = W at *
 have B0 : Hid (Below w.heap.size w W) := hb0
 clear hb0
 refine (heldEntryS k n u W B (HV.out.on (B0.out.mono HB.out)) hl h1 h2 (Nat.le_trans HB.out B0.out.size)).mono ?_
 rintro e w2 ⟨rfl, hb2⟩
 have B2 : Hid (Below w.heap.size w w2) := B0.out.trans (hb2.mono B0.out.size)
 clear hb2
 generalize hr : ((k + 2 * n : Nat) : Int) = r at *
 go_wp2_with fail
 go_ret
 exact ⟨by rw [hr]; rfl, B2.out⟩
end Go.Proofs.YtdimaoloapbeoaaGreatDoor
namespace Go.Proofs.YtdimaoloapbeoaaGreatDoor
open Go.ChangeShapes Go.WideShapes Go.ChangeAt Go.RowKit Go.PlainAid
set_option linter.unusedVariables false
theorem Hid.mk {p : Prop} (h : p) : Hid p := h
theorem below_r2 (w : World) (a b : Obj) : Below w.heap.size w ((w.alloc a).alloc b) := ((Below.refl _ w).alloc (Nat.le_refl _) a).alloc (by simp) b
set_option maxHeartbeats 400000 in
theorem eqSnapR (x : Snp) (w : World) : Calls Tryz.prog 31 #[vSnp x, vSnp x] w fun e w' => e = .returned (.bool true) ∧ Below w.heap.size w w' := by
 unfold vSnp
 go_enter Tryz.func31, Tryz.ntmps31
 go_wp2
 go_ret
 exact ⟨rfl, below_r2 _ _ _⟩
set_option maxHeartbeats 2000000 in
theorem eqKept (k : Kpt) (va vb : Value) (w : World) (B : Nat) (ha : KptV w B va k) (hb : KptV w B vb k) (hn : k.wal.ents.length ≤ 1048576) (hB : B ≤ w.heap.size) :
  Calls Tryz.prog 8 #[va, vb] w fun e w' => e = .returned (.bool true) ∧ Below w.heap.size w w' := by
 obtain ⟨ua, rfl, al⟩ := ha
 obtain ⟨ub, rfl, bl⟩ := hb
 unfold kptC
 have hb0 := below_r2 w (.cells #[.int .i64 k.wal.term, .int .i64 k.wal.vote, .int .i64 k.wal.base, .int .i64 k.wal.bterm, ua, .int .i64 k.snap.index, .int .i64 k.snap.term, .string k.snap.data, .bool k.dirty] 34) (.cells #[.int .i64 k.wal.term, .int .i64 k.wal.vote, .int .i64 k.wal.base, .int .i64 k.wal.bterm, ub, .int .i64 k.snap.index, .int .i64 k.snap.term, .string k.snap.data, .bool k.dirty] 34)
 have k0 := (Blk.new w #[.int .i64 k.wal.term, .int .i64 k.wal.vote, .int .i64 k.wal.base, .int .i64 k.wal.bterm, ua, .int .i64 k.snap.index, .int .i64 k.snap.term, .string k.snap.data, .bool k.dirty] 34).alloc (.cells #[.int .i64 k.wal.term, .int .i64 k.wal.vote, .int .i64 k.wal.base, .int .i64 k.wal.bterm, ub, .int .i64 k.snap.index, .int .i64 k.snap.term, .string k.snap.data, .bool k.dirty] 34)
 have k1 := Blk.new (w.alloc (.cells #[.int .i64 k.wal.term, .int .i64 k.wal.vote, .int .i64 k.wal.base, .int .i64 k.wal.bterm, ua, .int .i64 k.snap.index, .int .i64 k.snap.term, .string k.snap.data, .bool k.dirty] 34)) #[.int .i64 k.wal.term, .int .i64 k.wal.vote, .int .i64 k.wal.base, .int .i64 k.wal.bterm, ub, .int .i64 k.snap.index, .int .i64 k.snap.term, .string k.snap.data, .bool k.dirty] 34
 rw [World.size_alloc] at k1
 obtain ⟨c0, c1, c2, c3, c4, c5, c6, c7, c8⟩ := cellsC9 k0
 obtain ⟨d0, d1, d2, d3, d4, d5, d6, d7, d8⟩ := cellsC9 k1
 have cW := fun wx (h : Below w.heap.size w wx) => eqWal k.wal (.agg #[.int .i64 k.wal.term, .int .i64 k.wal.vote, .int .i64 k.wal.base, .int .i64 k.wal.bterm, ua]) (.agg #[.int .i64 k.wal.term, .int .i64 k.wal.vote, .int .i64 k.wal.base, .int .i64 k.wal.bterm, ub]) wx B ⟨ua, rfl, al.on (h.mono hB)⟩ ⟨ub, rfl, bl.on (h.mono hB)⟩ hn (Nat.le_trans hB h.size)
 have cS := fun wx => eqSnapR k.snap wx
 unfold vSnp at cS
 clear al bl hn hB
 go_enter Tryz.func8, Tryz.ntmps8
 go_wp2_with fail
 generalize (w.alloc (.cells #[.int .i64 k.wal.term, .int .i64 k.wal.vote, .int .i64 k.wal.base, .int .i64 k.wal.bterm, ua, .int .i64 k.snap.index, .int .i64 k.snap.term, .string k.snap.data, .bool k.dirty] 34)).alloc (.cells #[.int .i64 k.wal.term, .int .i64 k.wal.vote, .int .i64 k.wal.base, .int .i64 k.wal.bterm, ub, .int .i64 k.snap.index, .int .i64 k.snap.term, .string k.snap.data, .bool k.dirty] 34) = W at *
 refine (cW _ hb0).mono ?_
 rintro e w1 ⟨rfl, hb1⟩
 have m0 := k0.on hb1 k0.lt
 have m1 := k1.on hb1 k1.lt
 have B1 := hb0.trans (hb1.mono hb0.size)
 clear hb0 hb1 k0 k1 cW c0 d0 c1 d1 c2 d2 c3 d3 c4 d4 c5 d5 c6 d6 c7 d7 c8 d8
 obtain ⟨c0, c1, c2, c3, c4, c5, c6, c7, c8⟩ := cellsC9 m0
 obtain ⟨d0, d1, d2, d3, d4, d5, d6, d7, d8⟩ := cellsC9 m1
 go_wp2_with fail
 refine (cS _).mono ?_
 rintro e w2 ⟨rfl, hb1⟩
 have n0 := m0.on hb1 m0.lt
 have n1 := m1.on hb1 m1.lt
 have B2 := Hid.mk (B1.trans (hb1.mono B1.size))
 clear hb1 B1 m0 m1 cS c0 d0 c1 d1 c2 d2 c3 d3 c4 d4 c5 d5 c6 d6 c7 d7 c8 d8
 obtain ⟨c0, c1, c2, c3, c4, c5, c6, c7, c8⟩ := cellsC9 n0
 obtain ⟨d0, d1, d2, d3, d4, d5, d6, d7, d8⟩ := cellsC9 n1
 go_wp2_with fail
 go_ret
 exact ⟨rfl, B2.out⟩
set_option maxHeartbeats 1000000 in
theorem markKept (m base : Nat) (k : Kpt) (u : Value) (R : List (List Value)) (w : World) (hv : Owns w base 59 2 u R) (hl : R.length ≤ 1048576) (h1 : 1 ≤ m) (h2 : m ≤ 10000000) (hbase : base ≤ w.heap.size) :
  Calls Tryz.prog 11 #[.agg (kptC k u), .int .i64 (m : Int)] w fun e w' => e = .returned (.int .i64 ((m + 2 * R.length : Nat) : Int)) ∧ Owns w' base 59 2 u (newR (mkEnt m) R.length) ∧ Below base w w' ∧ (∀ g, g < w.heap.size → u.ownBlock ≠ some g → w'.heap[g]? = w.heap[g]?) := by
 unfold kptC
 have hb0 : Below w.heap.size w (w.alloc (.cells #[.int .i64 k.wal.term, .int .i64 k.wal.vote, .int .i64 k.wal.base, .int .i64 k.wal.bterm, u, .int .i64 k.snap.index, .int .i64 k.snap.term, .string k.snap.data, .bool k.dirty] 34)) := (Below.refl _ _).alloc (Nat.le_refl _) _
 obtain ⟨c0, c1, c2, c3, c4, c5, c6, c7, c8⟩ := cellsC9 (Blk.new w #[.int .i64 k.wal.term, .int .i64 k.wal.vote, .int .i64 k.wal.base, .int .i64 k.wal.bterm, u, .int .i64 k.snap.index, .int .i64 k.snap.term, .string k.snap.data, .bool k.dirty] 34)
 have cM := fun wx (h : Below w.heap.size w wx) => markWal m base k.wal.term k.wal.vote k.wal.base k.wal.bterm u R wx (hv.on h) hl h1 h2 (Nat.le_trans hbase h.size)
 have HB : Hid (base ≤ w.heap.size) := hbase
 clear hv hbase hl
 go_enter Tryz.func11, Tryz.ntmps11
 go_wp2_with fail
 generalize w.alloc (.cells #[.int .i64 k.wal.term, .int .i64 k.wal.vote, .int .i64 k.wal.base, .int .i64 k.wal.bterm, u, .int .i64 k.snap.index, .int .i64 k.snap.term, .string k.snap.data, .bool k.dirty] 34) = W at *
 refine (cM _ hb0).mono ?_
 rintro e w2 ⟨rfl, hO, hB, hK⟩
 have O2 : Hid (Owns w2 base 59 2 u (newR (mkEnt m) R.length)) := hO
 have B0 := Hid.mk hb0
 have B2 : Hid (Below base W w2) := hB
 have K2 : Hid (∀ g, g < W.heap.size → u.ownBlock ≠ some g → w2.heap[g]? = W.heap[g]?) := hK
 clear hO hB hK hb0 cM c0 c1 c2 c3 c4 c5 c6 c7 c8
 go_wp2_with fail
 go_ret
 exact ⟨rfl, O2.out, (B0.out.mono HB.out).trans B2.out, fun g hg hne => (K2.out g (Nat.lt_of_lt_of_le hg B0.out.size) hne).trans (B0.out.block g hg)⟩
set_option maxHeartbeats 1000000 in
theorem heldKept (m n : Nat) (k : Kpt) (u : Value) (w : World) (B : Nat) (hv : Lies w B 2 u (newR (mkEnt m) n)) (hl : n ≤ 1048576) (h1 : 1 ≤ m) (h2 : m ≤ 10000000) (hB : B ≤ w.heap.size) :
  Calls Tryz.prog 12 #[.agg (kptC k u), .int .i64 (m : Int)] w fun e w' => e = .returned (.int .i64 ((m + 2 * n : Nat) : Int)) ∧ Below w.heap.size w w' := by
 unfold kptC
 have hb0 : Below w.heap.size w (w.alloc (.cells #[.int .i64 k.wal.term, .int .i64 k.wal.vote, .int .i64 k.wal.base, .int .i64 k.wal.bterm, u, .int .i64 k.snap.index, .int .i64 k.snap.term, .string k.snap.data, .bool k.dirty] 34)) := (Below.refl _ _).alloc (Nat.le_refl _) _
 obtain ⟨c0, c1, c2, c3, c4, c5, c6, c7, c8⟩ := cellsC9 (Blk.new w #[.int .i64 k.wal.term, .int .i64 k.wal.vote, .int .i64 k.wal.base, .int .i64 k.wal.bterm, u, .int .i64 k.snap.index, .int .i64 k.snap.term, .string k.snap.data, .bool k.dirty] 34)
 have cM := fun wx (h : Below w.heap.size w wx) => heldWal m n k.wal.term k.wal.vote k.wal.base k.wal.bterm u wx B (hv.on (h.mono hB)) hl h1 h2 (Nat.le_trans hB h.size)
 have q0 : decide (((m + 2 * n : Nat) : Int) < 0) = false := decide_eq_false (by omega)
 clear hv hB hl
 go_enter Tryz.func12, Tryz.ntmps12
 go_wp2_with fail
 generalize w.alloc (.cells #[.int .i64 k.wal.term, .int .i64 k.wal.vote, .int .i64 k.wal.base, .int .i64 k.wal.bterm, u, .int .i64 k.snap.index, .int .i64 k.snap.term, .string k.snap.data, .bool k.dirty] 34) = W at *
 refine (cM _ hb0).mono ?_
 rintro e w2 ⟨rfl, hb2⟩
 have B2 := Hid.mk (hb0.trans (hb2.mono hb0.size))
 clear hb2 hb0 cM c0 c1 c2 c3 c4 c5 c6 c7 c8
 generalize hr : ((m + 2 * n : Nat) : Int) = r at *
 go_wp2_with fail
 go_ret
 exact ⟨by rw [hr]; rfl, B2.out⟩
end Go.Proofs.YtdimaoloapbeoaaGreatDoor
namespace Go.Proofs.YtdimaoloapbeoaaGreatDoor
open Go.ChangeShapes Go.WideShapes Go.ChangeAt Go.RowKit Go.PlainAid
set_option linter.unusedVariables false
theorem elem_ents : Tryz.prog.elem 28 = 59 := by kernel_rfl
theorem size_ent : (Tryz.prog.info? 59).map (·.size) = some 2 := by kernel_rfl
theorem Lies.behindE {w : World} {B sz g off n c : Nat} {rows : List (List Value)} (h : Lies w B sz (.slice (some ⟨g, off, none⟩) n c) rows) (k : Nat) (hk : k ≤ rows.length) : Lies w B sz (.slice (some ⟨g, off + k * sz, none⟩) (n - k) (c - k)) (rows.drop k) := by
 obtain ⟨A', c', e, hz, hs, h⟩ := h
 cases e
 have hl : (rows.drop k).length = rows.length - k := List.length_drop
 refine ⟨_, c - k, by rw [hl], ⟨fun e => (by cases e), by rw [hl]; have := hz.2; omega⟩, fun r hr => hs r (List.mem_of_mem_drop hr), ?_⟩
 rw [hl]
 rcases h with h | ⟨g', off', e, hg, hc⟩
 ·exact .inl (by omega)
 ·cases e
  refine .inr ⟨g, off + k * sz, rfl, hg, fun j x hx => ?_⟩
  have hl2 : (rows.take k).flatten.length = k * sz := by rw [flat_length sz _ (fun r hr => hs r (List.mem_of_mem_take hr)), List.length_take, Nat.min_eq_left hk]
  have := hc (k * sz + j) x (by
   rw [← List.take_append_drop k rows, List.flatten_append, List.getElem?_append_right (by omega), hl2, Nat.add_sub_cancel_left]
   exact hx)
  rw [← Nat.add_assoc] at this
  exact this
set_option maxRecDepth 100000 in
theorem cut_ents {w : World} {B n c : Nat} {A : Option Addr} {rows : List (List Value)} (h : Lies w B 2 (.slice A n c) rows) (k : Nat) (hk : k ≤ rows.length) : ∃ A' c', (∀ wx, (Instr.sliceAt 28 (.slice A n c) (some (.int .i64 (k : Int))) none none).run Tryz.prog wx = .ok (.slice A' (n - k) c') wx) ∧ Lies w B 2 (.slice A' (n - k) c') (rows.drop k) ∧ (A' = if c = k then A else A.map (·.add (k * 2))) := by
 have hr := h.room
 have hu : Tryz.prog.underlying 28 = some (.slice (Tryz.prog.elem 28)) := by rw [elem_ents]; exact Tryz.underlying28
 have hz := size_ent
 cases hq : Tryz.prog.info? 59 with
 | none => rw [hq] at hz; simp at hz
 | some i =>
  rw [hq] at hz
  have hi : i.size = 2 := by simpa using hz
  have hrun : ∀ wx, (Instr.sliceAt 28 (.slice A n c) (some (.int .i64 (k : Int))) none none).run Tryz.prog wx = .ok (.slice (if c = k then A else A.map (·.add (k * 2))) (n - k) (c - k)) wx := fun wx => by
   rw [run_sliceAt_slice wx 28 _ _ _ _ hu, run_slice_l wx 28 A n c hu .i64 (k : Int) (by omega) (by omega), elem_ents]
   simp [sizeOf, typeInfo, hq, hi, sliced]
  refine ⟨_, _, hrun, ?_, rfl⟩
  by_cases hck : c = k
  ·rw [if_pos hck]
   have h0 : rows.drop k = [] := List.drop_eq_nil_of_le (by omega)
   rw [h0]
   refine ⟨A, c - k, by simp; omega, ⟨fun e => by omega, by simp⟩, fun r hr => (by cases hr), .inl rfl⟩
  ·rw [if_neg hck]
   match A, h with
   | none, h =>
    obtain ⟨A', c', e, hz, hs, hh⟩ := h
    cases e
    have := hz.1 rfl
    rcases hh with hh | ⟨g, off, e, _⟩
    ·have hk0 : k = 0 := by omega
     subst hk0
     simp only [Option.map_none, List.drop_zero, Nat.sub_zero]
     exact ⟨none, c, rfl, hz, hs, .inl hh⟩
    ·cases e
   | some ad, h =>
    obtain ⟨b, off, spot⟩ := ad
    by_cases hl0 : rows.length = k
    ·have h0 : rows.drop k = [] := List.drop_eq_nil_of_le (by omega)
     rw [h0]
     refine ⟨_, c - k, by rw [show n - k = 0 by omega]; rfl, ⟨fun e => (by cases e), by simp⟩, fun r hr => (by cases hr), .inl rfl⟩
    ·have hspot : spot = none := by
      obtain ⟨A', c', e, hz, hs, hh⟩ := h
      cases e
      rcases hh with hh | ⟨g, off, e, _⟩
      ·omega
      ·cases e; rfl
     subst hspot
     have e1 : (⟨b, off, none⟩ : Addr).add (k * 2) = ⟨b, off + k * 2, none⟩ := by
      generalize k * 2 = j
      cases j <;> simp [Addr.add]
     have := h.behindE k hk
     simp only [Option.map_some, e1]
     exact this
end Go.Proofs.YtdimaoloapbeoaaGreatDoor
namespace Go.Proofs.YtdimaoloapbeoaaGreatDoor
open Go.ChangeShapes Go.WideShapes Go.ChangeAt Go.RowKit Go.PlainAid
set_option linter.unusedVariables false
set_option maxHeartbeats 1000000 in
theorem textV (w : World) (base p : Nat) (d : Dsk) (bi bd bw : Nat) (gs : List Nat) (u : Value) (name : ByteArray) (h : OpenD w base p d bi bd bw gs u) (hd : Whole d) (hok : diskOk d = true) (hs : name.size ≤ maxLen) (hf : (find d name).isSome = true) :
  Calls Tryz.prog 25 #[.pointer (some ⟨p, 0, none⟩), .string name] w fun e w' => e = .returned (.string (loadR d name).1) ∧ w = w' := by
 have cF := findI w base p d bi bd bw gs u name h hd hs
 have HD : Hid (Whole d) := hd
 have HO : Hid (OpenD w base p d bi bd bw gs u) := h
 have HOK : Hid (diskOk d = true) := hok
 have HF : Hid ((find d name).isSome = true) := hf
 clear h hs hd hok hf
 go_enter Tryz.func25, Tryz.ntmps25
 go_wp2_with fail
 refine cF.mono ?_
 rintro e w2 ⟨rfl, h⟩
 clear cF
 rcases h with ⟨hno, rfl⟩ | ⟨hno, hfd, rfl⟩ | ⟨hno, j, hfd, hj, rfl⟩
 ·exfalso
  have := HF.out
  rw [find_bad HD.out hno] at this
  cases this
 ·exfalso
  have := HF.out
  rw [hfd] at this
  cases this
 ·have HR : Hid (loadR d name = ((d.nods.getD j default).data, true)) := loadR_some HOK.out hfd
  have x1 := (HO.out.held.blk j hj).cell 1 _ rfl
  clear hno hfd hj
  generalize gs.getD j 0 = gj at *
  generalize (d.nods.getD j default).data = dt at *
  go_wp2_with fail
  go_ret
  exact ⟨by rw [HR.out]; rfl, rfl⟩
set_option maxHeartbeats 1000000 in
theorem snapV (w : World) (base p : Nat) (d : Dsk) (bi bd bw : Nat) (gs : List Nat) (u : Value) (h : ∀ wx, Below w.heap.size w wx → OpenD wx base p d bi bd bw gs u) (hd : Whole d) (hok : diskOk d = true) (hw : wtD d ≤ 1048576) (ht : SumTab w) (a0 a1 a2 : Addr) (he : Errs w a0 a1 a2) :
  Calls Tryz.prog 27 #[.pointer (some ⟨p, 0, none⟩)] w fun e w' => e = .returned (.tuple #[vSnp (snR d).1, .bool (snR d).2]) ∧ Below w.heap.size w w' := by
 have hb0 : Below w.heap.size w (w.alloc (.cells #[.int .i64 0, .int .i64 0, .string ⟨#[]⟩] 32)) := (Below.refl _ _).alloc (Nat.le_refl _) _
 have k0 := Blk.new w #[.int .i64 0, .int .i64 0, .string ⟨#[]⟩] 32
 have cH := fun wx hb => hasV wx base p d bi bd bw gs u snapN (h wx hb) hd (by decide)
 have cT := fun wx hb hf => textV wx base p d bi bd bw gs u snapN (h wx hb) hd hok (by decide) hf
 have cR := fun wx (hb : Below w.heap.size w wx) => implReadSnap (loadR d snapN).1 wx (loadR_size hw) (ht.on hb) a0 a1 a2 (he.on hb)
 have hl := load_has (name := snapN) hok
 have HS : Hid (snR d = if (loadR d snapN).2 = true then rdSn (loadR d snapN).1 else (sn0, true)) := rfl
 rw [readSn_eq] at cR
 unfold snapN at cH cT
 clear h hd hok hw ht he
 rw [hl] at HS
 clear hl
 cases hf : (find d snapN).isSome
 ·rw [show (find d ⟨#[115, 110, 97, 112]⟩).isSome = false from hf] at cH
  rw [hf] at HS
  have HS2 : Hid (snR d = (sn0, true)) := HS
  clear hf HS cT cR
  obtain ⟨e0, e1, e2⟩ : (w.alloc (.cells #[.int .i64 0, .int .i64 0, .string ⟨#[]⟩] 32)).cell? ⟨w.heap.size, 0, none⟩ = some (.int .i64 0) ∧ (w.alloc (.cells #[.int .i64 0, .int .i64 0, .string ⟨#[]⟩] 32)).cell? ⟨w.heap.size, 1, none⟩ = some (.int .i64 0) ∧ (w.alloc (.cells #[.int .i64 0, .int .i64 0, .string ⟨#[]⟩] 32)).cell? ⟨w.heap.size, 2, none⟩ = some (.string ⟨#[]⟩) := ⟨k0.cell 0 _ rfl, k0.cell 1 _ rfl, k0.cell 2 _ rfl⟩
  have B0 := Hid.mk hb0
  go_enter Tryz.func27, Tryz.ntmps27
  go_wp2_with fail
  refine (cH _ hb0).mono ?_
  rintro e w1 ⟨rfl, rfl⟩
  clear cH hb0
  go_wp2_with fail
  exact bodyPost_ret (v := .tuple #[.agg #[.int .i64 0, .int .i64 0, .string ⟨#[]⟩], .bool true]) (by simp [results, go_sem]) rfl ⟨by rw [HS2.out]; rfl, B0.out⟩
 ·have cT2 := fun wx hb => cT wx hb hf
  rw [show (find d ⟨#[115, 110, 97, 112]⟩).isSome = true from hf] at cH
  rw [hf] at HS
  have HS2 : Hid (snR d = rdSn (loadR d snapN).1) := HS
  clear hf HS cT
  rw [show loadR d ⟨#[115, 110, 97, 112]⟩ = loadR d snapN from rfl] at cT2
  generalize (loadR d snapN).1 = tx at *
  generalize rdSn tx = q at *
  obtain ⟨s, b⟩ := q
  go_enter Tryz.func27, Tryz.ntmps27
  go_wp2_with fail
  refine (cH _ hb0).mono ?_
  rintro e w1 ⟨rfl, rfl⟩
  go_wp2_with fail
  refine (cT2 _ hb0).mono ?_
  rintro e w1 ⟨rfl, rfl⟩
  go_wp2_with fail
  refine (cR _ hb0).mono ?_
  rintro e w1 ⟨rfl, hb1⟩
  have k1 := k0.on hb1 k0.lt
  have B1 := Hid.mk (hb0.trans (hb1.mono hb0.size))
  clear cH cT2 cR hb0 hb1 k0
  unfold vSnp
  simp only
  have h1 : Blk (w1.setCell ⟨w.heap.size, 0, none⟩ (.int .i64 s.index)) w.heap.size #[.int .i64 s.index, .int .i64 0, .string ⟨#[]⟩] 32 := k1.set 0 _
  have h2 : Blk ((w1.setCell ⟨w.heap.size, 0, none⟩ (.int .i64 s.index)).setCell ⟨w.heap.size, 1, none⟩ (.int .i64 s.term)) w.heap.size #[.int .i64 s.index, .int .i64 s.term, .string ⟨#[]⟩] 32 := h1.set 1 _
  have h3 : Blk (((w1.setCell ⟨w.heap.size, 0, none⟩ (.int .i64 s.index)).setCell ⟨w.heap.size, 1, none⟩ (.int .i64 s.term)).setCell ⟨w.heap.size, 2, none⟩ (.string s.data)) w.heap.size #[.int .i64 s.index, .int .i64 s.term, .string s.data] 32 := h2.set 2 _
  have r0 := k1.cell 0 _ rfl
  have r1 := h1.cell 1 _ rfl
  have r2 := h2.cell 2 _ rfl
  have f0 := k1.free 0
  have f1 := h1.free 1
  have f2 := h2.free 2
  have y0 := h3.cell 0 _ rfl
  have y1 := h3.cell 1 _ rfl
  have y2 := h3.cell 2 _ rfl
  have B2 := Hid.mk (((B1.out.setCell (p := ⟨w.heap.size, 0, none⟩) (Nat.le_refl _) (.int .i64 s.index)).setCell (p := ⟨w.heap.size, 1, none⟩) (Nat.le_refl _) (.int .i64 s.term)).setCell (p := ⟨w.heap.size, 2, none⟩) (Nat.le_refl _) (.string s.data))
  clear k1 h1 h2 h3
  go_wp2_with fail
  exact bodyPost_ret (v := .tuple #[.agg #[.int .i64 s.index, .int .i64 s.term, .string s.data], .bool b]) (by simp [results, go_sem, y0, y1, y2]) rfl ⟨by rw [HS2.out]; rfl, B2.out⟩
set_option maxHeartbeats 2000000 in
theorem reachesV (s : Snp) (x : Wl) (u : Value) (w : World) : Calls Tryz.prog 28 #[vSnp s, .agg #[.int .i64 x.term, .int .i64 x.vote, .int .i64 x.base, .int .i64 x.bterm, u]] w fun e w' => e = .returned (.bool (reach s x)) ∧ Below w.heap.size w w' := by
 obtain ⟨si, st, sd⟩ := s
 obtain ⟨xt, xv, xb, xbt, xe⟩ := x
 unfold vSnp
 have HB := Hid.mk (below_r2 w (.cells #[.int .i64 si, .int .i64 st, .string sd] 32) (.cells #[.int .i64 xt, .int .i64 xv, .int .i64 xb, .int .i64 xbt, u] 30))
 have HE : Hid (reach ⟨si, st, sd⟩ ⟨xt, xv, xb, xbt, xe⟩ = (decide (xb < si) || decide (si = xb) && decide (st = xbt))) := rfl
 by_cases h1 : xb < si
 ·rw [decide_eq_true h1] at HE
  go_enter Tryz.func28, Tryz.ntmps28
  go_wp2
  go_ret
  exact ⟨by rw [HE.out]; rfl, HB.out⟩
 ·rw [decide_eq_false h1] at HE
  have z1 : decide (xb < si) = false := decide_eq_false h1
  by_cases h2 : si = xb
  ·subst h2
   by_cases h3 : st = xbt
   ·subst h3
    rw [decide_eq_true rfl, decide_eq_true rfl] at HE
    go_enter Tryz.func28, Tryz.ntmps28
    go_wp2
    go_ret
    exact ⟨by rw [HE.out]; rfl, HB.out⟩
   ·rw [decide_eq_true rfl, decide_eq_false h3] at HE
    have z3 : (st == xbt) = false := by simpa using h3
    go_enter Tryz.func28, Tryz.ntmps28
    go_wp2
    go_ret
    exact ⟨by rw [HE.out]; rfl, HB.out⟩
  ·rw [decide_eq_false h2] at HE
   have z2 : (si == xb) = false := by simpa using h2
   go_enter Tryz.func28, Tryz.ntmps28
   go_wp2
   go_ret
   exact ⟨by rw [HE.out]; rfl, HB.out⟩
end Go.Proofs.YtdimaoloapbeoaaGreatDoor
namespace Go.Proofs.YtdimaoloapbeoaaGreatDoor
open Go.RowKit Go.PlainAid
structure Pnt where
 t : Int
 v : Int
instance : Inhabited Pnt := ⟨⟨0, 0⟩⟩
theorem Pnt.same {x y : Pnt} (h1 : x.t = y.t) (h2 : x.v = y.v) : x = y := by
 cases x
 cases y
 simp only at h1 h2
 subst h1
 subst h2
 rfl
theorem Lies.behind {w : World} {B sz g off n c : Nat} {rows : List (List Value)} (h : Lies w B sz (.slice (some ⟨g, off, none⟩) n c) rows) (k : Nat) (hk : k ≤ rows.length) : Lies w B sz (.slice (some ⟨g, off + k * sz, none⟩) (n - k) (c - k)) (rows.drop k) := by
 obtain ⟨A', c', e, hz, hs, h⟩ := h
 cases e
 have hl : (rows.drop k).length = rows.length - k := List.length_drop
 refine ⟨_, c - k, by rw [hl], ⟨fun e => (by cases e), by rw [hl]; have := hz.2; omega⟩, fun r hr => hs r (List.mem_of_mem_drop hr), ?_⟩
 rw [hl]
 rcases h with h | ⟨g', off', e, hg, hc⟩
 ·exact .inl (by omega)
 ·cases e
  refine .inr ⟨g, off + k * sz, rfl, hg, fun j x hx => ?_⟩
  have hl2 : (rows.take k).flatten.length = k * sz := by rw [flat_length sz _ (fun r hr => hs r (List.mem_of_mem_take hr)), List.length_take, Nat.min_eq_left hk]
  have := hc (k * sz + j) x (by
   rw [← List.take_append_drop k rows, List.flatten_append, List.getElem?_append_right (by omega), hl2, Nat.add_sub_cancel_left]
   exact hx)
  rw [← Nat.add_assoc] at this
  exact this
end Go.Proofs.YtdimaoloapbeoaaGreatDoor
namespace Go.Proofs.YtdimaoloapbeoaaGreatDoor
open Go.ChangeShapes Go.WideShapes Go.ChangeAt Go.RowKit Go.PlainAid
set_option linter.unusedVariables false
theorem Strs.heap {w w' : World} {base : Nat} {v : Value} {l : List ByteArray} (h : Strs w base v l) (hh : w'.heap = w.heap) : Strs w' base v l := h.kept fun g _ _ => by rw [hh]
theorem below_heap {w w' : World} (h1 : w'.heap = w.heap) (h2 : w'.os = w.os) (h3 : w'.tape = w.tape) (h4 : w'.output = w.output) : Below w.heap.size w w' := ⟨h2, h3, h4, by rw [h1]; exact Nat.le_refl _, fun k _ => by rw [h1]⟩
def Like (w w' : World) : Prop := w'.heap = w.heap ∧ w'.os = w.os ∧ w'.tape = w.tape ∧ w'.output = w.output
theorem Like.refl (w : World) : Like w w := ⟨rfl, rfl, rfl, rfl⟩
theorem Like.drewN {w w' : World} (h : Like w w') (n : Nat) : Like w (w'.drewN n) := h
theorem Like.below {w w' : World} (h : Like w w') : Below w.heap.size w w' := below_heap h.1 h.2.1 h.2.2.1 h.2.2.2
end Go.Proofs.YtdimaoloapbeoaaGreatDoor
namespace Go.Proofs.YtdimaoloapbeoaaGreatDoor
open Go.ChangeShapes Go.WideShapes Go.ChangeAt Go.RowKit Go.PlainAid
set_option linter.unusedVariables false
theorem Tryz.info9 : (Tryz.prog.info? 9).map (fun i => (i.zero, i.size, i.bytes)) = some (some (.string ⟨#[]⟩), 1, 16) := by kernel_rfl
set_option maxHeartbeats 1000000 in
theorem impl_frames (s : ByteArray) (w : World) (hs : s.size ≤ 1048576) (ht : SumTab w) (a0 a1 a2 : Addr) (he : Errs w a0 a1 a2) :
  Calls Tryz.prog 65 #[.string s] w fun e w' => ∃ K v, Ends s K ∧ e = .returned (.tuple #[v, .int .i64 (pos s K : Int)]) ∧ Strs w' w.heap.size v (bods s K) ∧ Below w.heap.size w w' := by
 have HT : Hid (SumTab w) := ht
 have HE : Hid (Errs w a0 a1 a2) := he
 have HS : Hid (s.size ≤ 1048576) := hs
 clear ht he hs
 go_enter Tryz.func65, Tryz.ntmps65
 go_wp2_with fail
 go_loopw [4, 5] (fun v4 v5 wr => ∃ k : Nat, Runs s k ∧ v5 = .int .i64 (pos s k : Int) ∧ Strs wr w.heap.size v4 (bods s k) ∧ Below w.heap.size w wr) (fun _ i _ => s.size - (intOf i).toNat)
 case atStart => exact ⟨0, Runs.zero s, rfl, Strs.nil _ _, Below.refl _ _⟩
 case round =>
  obtain ⟨k, hk, rfl, hS, hB⟩ := hrel
  have hp := hk.pos_le
  have HK : Hid (Runs s k) := hk
  have HV : Hid (Strs wr w.heap.size u4 (bods s k)) := hS
  have HB : Hid (Below w.heap.size w wr) := hB
  have HP : Hid (k * 9 ≤ pos s k ∧ pos s k ≤ s.size) := hp
  have HL : Hid ((bods s k).length = k) := bods_length s k
  by_cases hc : code (rest s (pos s k)) = 0
  ·have c1 := body_ok s (pos s k) wr hp.2 HS.out (HT.out.on hB) hc
   obtain ⟨h4, h1, h2, h8, hsum⟩ := (code_zero _).1 hc
   have hz := bodyOf_size _ h8
   have HR : Hid (Runs s (k + 1)) := hk.succ hc
   have hp1 := HR.out.pos_le
   have EP := pos_succ s k
   have EB : Hid (bods s (k + 1) = bods s k ++ [bodyOf (rest s (pos s k))]) := bods_succ s k
   have q1 : ((bodyOf (rest s (pos s k))).size : Int) = (rdv (rest s (pos s k)) 4 : Int) := by rw [hz]
   have q2 : (rdv (rest s (pos s k)) 4 : Int) ≤ 2000 := by omega
   have q3 : (pos s k : Int) ≤ 1048576 := by have := HS.out; omega
   have EQ : Hid ((pos s (k + 1) : Int) = (pos s k : Int) + (8 + (rdv (rest s (pos s k)) 4 : Int))) := by unfold Hid; rw [EP]; omega
   have HM : Hid (pos s k < pos s (k + 1) ∧ pos s (k + 1) ≤ s.size) := by unfold Hid; omega
   clear hS hB hp hk hc h4 h1 h2 h8 hsum hz hp1 EP
   generalize rdv (rest s (pos s k)) 4 = n at *
   generalize bodyOf (rest s (pos s k)) = b at *
   generalize hx : pos s k = p at *
   go_wp2_with fail
   refine c1.mono ?_
   rintro e w1 ⟨rfl, hb1⟩
   have hV1 := HV.out.on hb1
   have hsz : w.heap.size ≤ w1.heap.size := Nat.le_trans HB.out.size hb1.size
   have hB1 : Below w.heap.size w w1 := HB.out.trans (hb1.mono HB.out.size)
   go_wp2_with (at_builtin; refine wpList_append_str rfl (.tmp 18) (.tmp 20) 98 rfl Tryz.underlying98 Tryz.info9 w.heap.size _ (bods s k) rfl hV1 b rfl (by rw [HL.out]; have := HP.out; have := HS.out; omega) hsz ?_; intro v' w2 hV2 hb2)
   go_roundw
   case rel => exact ⟨k + 1, HR.out, by rw [EQ.out], by rw [EB.out]; exact hV2, hB1.trans hb2⟩
   case measure => have := HM.out; have := EQ.out; simp [intOf]; omega
  ·have c1 := body_bad s (pos s k) wr hp.2 HS.out (HT.out.on hB) a0 a1 a2 (HE.out.on hB) hc
   have HC : Hid (code (rest s (pos s k)) ≠ 0) := hc
   simp only [badBody, wrapped] at c1
   clear hS hB hp hk hc
   generalize hx : pos s k = p at *
   go_wp2_with fail
   refine c1.mono ?_
   rintro e w1 ⟨⟨q, a, rfl, _⟩, hb1⟩
   have hV1 : Hid (Strs w1 w.heap.size u4 (bods s k)) := HV.out.on hb1
   have hB1 : Hid (Below w.heap.size w w1) := HB.out.trans (hb1.mono HB.out.size)
   go_wp2_with fail
   go_ret2
   exact ⟨k, u4, ⟨HK.out, by rw [hx]; exact HC.out⟩, by rw [hx]; rfl, hV1.out, hB1.out⟩
set_option maxHeartbeats 1000000 in
theorem spec_frames (s : ByteArray) (w : World) (hs : s.size ≤ 1048576) :
  Calls Tryz.prog 51 #[.string s] w fun e w' => ∃ K v, Ends s K ∧ e = .returned (.tuple #[v, .int .i64 (pos s K : Int)]) ∧ Strs w' w.heap.size v (bods s K) ∧ Below w.heap.size w w' := by
 have HS : Hid (s.size ≤ 1048576) := hs
 have q0 : (s.size : Int) ≤ 1048576 := by omega
 clear hs
 go_enter Tryz.func51, Tryz.ntmps51
 go_wp2_with fail
 go_loopw [4, 5] (fun v4 v5 wr => ∃ k : Nat, Runs s k ∧ v5 = .int .i64 (pos s k : Int) ∧ Strs wr w.heap.size v4 (bods s k) ∧ Below w.heap.size w wr) (fun _ i _ => s.size - (intOf i).toNat)
 case atStart => exact ⟨0, Runs.zero s, rfl, Strs.empty w _ (Nat.le_refl _), (Below.refl _ _).alloc (Nat.le_refl _) _⟩
 case round =>
  obtain ⟨k, hk, rfl, hS, hB⟩ := hrel
  have hp := hk.pos_le
  have HK : Hid (Runs s k) := hk
  have HV : Hid (Strs wr w.heap.size u4 (bods s k)) := hS
  have HB : Hid (Below w.heap.size w wr) := hB
  have HP : Hid (k * 9 ≤ pos s k ∧ pos s k ≤ s.size) := hp
  have HL : Hid ((bods s k).length = k) := bods_length s k
  have hr : s.extract (pos s k) s.size = rest s (pos s k) := rfl
  by_cases hlt : pos s k < s.size
  ·have q4 : (pos s k : Int) < (s.size : Int) := by omega
   have q5 : (pos s k : Int) ≤ (s.size : Int) := by omega
   have c1 := spec_unframe (rest s (pos s k)) wr (by rw [rest_size]; have := HS.out; omega)
   by_cases hc : code (rest s (pos s k)) = 0
   ·rw [unf, if_pos hc] at c1
    obtain ⟨h4, h1, h2, h8, hsum⟩ := (code_zero _).1 hc
    have HR : Hid (Runs s (k + 1)) := hk.succ hc
    have hp1 := HR.out.pos_le
    have EP := pos_succ s k
    have EB : Hid (bods s (k + 1) = bods s k ++ [bodyOf (rest s (pos s k))]) := bods_succ s k
    have EQ : Hid ((pos s (k + 1) : Int) = (pos s k : Int) + ((8 + rdv (rest s (pos s k)) 4 : Nat) : Int)) := by unfold Hid; rw [EP]; omega
    have HM : Hid (pos s k < pos s (k + 1) ∧ pos s (k + 1) ≤ s.size) := by unfold Hid; omega
    have q2 : ((8 + rdv (rest s (pos s k)) 4 : Nat) : Int) ≤ 2008 := by omega
    clear hS hB hp hk hc h4 h1 h2 h8 hsum hp1 EP hlt
    generalize 8 + rdv (rest s (pos s k)) 4 = n at *
    generalize bodyOf (rest s (pos s k)) = b at *
    generalize rest s (pos s k) = r at *
    generalize hx : pos s k = p at *
    go_wp2_with fail
    refine c1.mono ?_
    rintro e w1 ⟨rfl, hb1⟩
    have hV1 := HV.out.on hb1
    have hsz : w.heap.size ≤ w1.heap.size := Nat.le_trans HB.out.size hb1.size
    have hB1 : Below w.heap.size w w1 := HB.out.trans (hb1.mono HB.out.size)
    go_wp2_with (at_builtin; refine wpList_append_str rfl (.tmp 26) (.tmp 28) 98 rfl Tryz.underlying98 Tryz.info9 w.heap.size _ (bods s k) rfl hV1 b rfl (by rw [HL.out]; have := HP.out; have := HS.out; omega) hsz ?_; intro v' w2 hV2 hb2)
    go_roundw
    case rel => exact ⟨k + 1, HR.out, by rw [EQ.out], by rw [EB.out]; exact hV2, hB1.trans hb2⟩
    case measure => have := HM.out; have := EQ.out; simp [intOf]; omega
   ·rw [unf, if_neg hc] at c1
    have HN : Hid (Ends s k) := ⟨hk, hc⟩
    have q6 : ((code (rest s (pos s k)) : Int) != 0) = true := by simp only [bne_iff_ne, ne_eq]; omega
    have q7 : ¬ (code (rest s (pos s k)) : Int) = 0 := by omega
    clear hS hB hp hk hc hlt
    generalize code (rest s (pos s k)) = c at *
    generalize rest s (pos s k) = r at *
    generalize hx : pos s k = p at *
    go_wp2_with fail
    refine c1.mono ?_
    rintro e w1 ⟨rfl, hb1⟩
    have hV1 : Hid (Strs w1 w.heap.size u4 (bods s k)) := HV.out.on hb1
    have hB1 : Hid (Below w.heap.size w w1) := HB.out.trans (hb1.mono HB.out.size)
    go_wp2_with fail
    go_ret2
    exact ⟨k, u4, HN.out, by rw [hx]; rfl, hV1.out, hB1.out⟩
  ·have q4 : (s.size : Int) ≤ (pos s k : Int) := by omega
   have HC : Hid (code (rest s (pos s k)) ≠ 0) := by
    unfold Hid
    rw [code, if_pos (by rw [rest_size]; omega)]
    omega
   clear hS hB hp hk hlt
   generalize hx : pos s k = p at *
   go_wp2_with fail
   go_ret2
   exact ⟨k, u4, ⟨HK.out, by rw [hx]; exact HC.out⟩, by rw [hx]; rfl, HV.out, HB.out⟩
end Go.Proofs.YtdimaoloapbeoaaGreatDoor
