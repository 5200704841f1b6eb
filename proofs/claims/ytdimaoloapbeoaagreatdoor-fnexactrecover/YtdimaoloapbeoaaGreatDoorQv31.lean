/- RvSpec DkMk DkMkD -/
import Derived.Test.YtdimaoloapbeoaaGreatDoorQv28
import Derived.Test.YtdimaoloapbeoaaGreatDoorQv29
import Derived.Test.YtdimaoloapbeoaaGreatDoorQv30
import Derived.Test.YtdimaoloapbeoaaGreatDoorRows
import Derived.Test.YtdimaoloapbeoaaGreatDoorQv10
import Derived.Test.YtdimaoloapbeoaaGreatDoorQv1
import Derived.Test.YtdimaoloapbeoaaGreatDoorQv23
import Derived.Lib.OwnKind
namespace Go.Proofs.YtdimaoloapbeoaaGreatDoor
open Go.ChangeShapes Go.WideShapes Go.ChangeAt Go.RowKit Go.PlainAid
set_option linter.unusedVariables false
theorem specRecover (d : Dsk) (v : Value) (w : World) (B : Nat) (hv : DiskV w B v d) (hf : Fits d) (hw : wtD d ≤ 1048576) (hB : B ≤ w.heap.size) :
  Calls Tryz.prog 5 #[v] w fun e w' => (∃ u, e = .returned (.tuple #[u, .int .i64 (recR d).2]) ∧ KptV w' w'.heap.size u (recR d).1) ∧ Below w.heap.size w w' := by
 by_cases h0 : diskOk d = true → (loadR d logN).2 = false
 ·exact specRec_0 d v w B hv hf hw hB h0
 have hok : diskOk d = true := by cases h : diskOk d; exact absurd (fun e => by rw [h] at e; cases e) h0; rfl
 have hl : (loadR d logN).2 = true := by cases h : (loadR d logN).2; exact absurd (fun _ => h) h0; rfl
 cases hsn : (loadR d snapN).2
 ·cases h1 : (repS (loadR d logN).1).2.2
  ·exact specRec_fno d v w B hv hf hw hB hok hl hsn (by rw [h1]; rfl)
  cases h2 : (snR d).2
  ·exact specRec_fno d v w B hv hf hw hB hok hl hsn (by rw [h1, h2]; rfl)
  by_cases h3 : (snR d).1.index < (repS (loadR d logN).1).1.base
  ·exact specRec_cgt d v w B hv hf hw hB hok hl ⟨h1, h2, h3⟩
  by_cases h4 : (repS (loadR d logN).1).1.base < (snR d).1.index
  ·exact specRec_clt d v w B hv hf hw hB hok hl ⟨h1, h2, h4⟩
  have h5 : (repS (loadR d logN).1).1.base = (snR d).1.index := by omega
  by_cases h6 : (repS (loadR d logN).1).1.bterm = (snR d).1.term
  ·exact specRec_ces d v w B hv hf hw hB hok hl ⟨h1, h2, h5, h6⟩
  ·exact specRec_ceo d v w B hv hf hw hB hok hl ⟨h1, h2, h5, h6⟩
 ·cases h1 : (repS (loadR d logN).1).2.2
  ·exact specRec_tno d v w B hv hf hw hB hok hl hsn (by rw [h1]; rfl)
  cases h2 : (snR d).2
  ·exact specRec_tno d v w B hv hf hw hB hok hl hsn (by rw [h1, h2]; rfl)
  by_cases h3 : (snR d).1.index < (repS (loadR d logN).1).1.base
  ·exact specRec_cgt d v w B hv hf hw hB hok hl ⟨h1, h2, h3⟩
  by_cases h4 : (repS (loadR d logN).1).1.base < (snR d).1.index
  ·exact specRec_clt d v w B hv hf hw hB hok hl ⟨h1, h2, h4⟩
  have h5 : (repS (loadR d logN).1).1.base = (snR d).1.index := by omega
  by_cases h6 : (repS (loadR d logN).1).1.bterm = (snR d).1.term
  ·exact specRec_ces d v w B hv hf hw hB hok hl ⟨h1, h2, h5, h6⟩
  ·exact specRec_ceo d v w B hv hf hw hB hok hl ⟨h1, h2, h5, h6⟩
end Go.Proofs.YtdimaoloapbeoaaGreatDoor
namespace Go.Proofs.YtdimaoloapbeoaaGreatDoor
open Go.ChangeShapes Go.WideShapes Go.ChangeAt Go.RowKit Go.PlainAid
set_option linter.unusedVariables false
def mkNod (k j : Nat) : List Value := [.int .i64 (((k + 3 * j : Nat) : Int)), .string (mark (k + 3 * j + 1)), .int .i64 (((k + 3 * j : Nat) : Int) + 1 + 1)]
set_option maxHeartbeats 2000000 in
theorem markInodeS (k base : Nat) (v : Value) (R : List (List Value)) (w : World) (hv : Owns w base 90 3 v R) (hl : R.length ≤ 1048576) (h1 : 1 ≤ k) (h2 : k ≤ 10000000) (hbase : base ≤ w.heap.size) :
  Calls Tryz.prog 35 #[v, .int .i64 (k : Int)] w fun e w' => e = .returned (.int .i64 ((k + 3 * R.length : Nat) : Int)) ∧ Owns w' base 90 3 v (newR (mkNod k) R.length) ∧ Below base w w' ∧ (∀ g, g < w.heap.size → v.ownBlock ≠ some g → w'.heap[g]? = w.heap[g]?) := by
 obtain ⟨A, ca, rfl⟩ : ∃ A ca, v = .slice A R.length ca := by
  rcases hv.2.2 with ⟨rfl, h0⟩ | ⟨g, c, cur, rfl, _⟩
  ·exact ⟨none, 0, by rw [h0]⟩
  ·exact ⟨_, _, rfl⟩
 have HV : Hid (Owns w base 90 3 (.slice A R.length ca) R) := hv
 have q1 : (R.length : Int) ≤ 1048576 := by omega
 have q3 : (k : Int) ≤ 10000000 := by omega
 clear hv hl
 generalize hn : R.length = n at *
 go_enter Tryz.func35, Tryz.ntmps35
 go_wp2_with fail
 go_loopw [1, 5] (fun v1 v5 wr => ∃ j : Nat, j ≤ n ∧ v5 = .int .i64 (j : Int) ∧ v1 = .int .i64 ((k + 3 * j : Nat) : Int) ∧ Owns wr base 90 3 (.slice A n ca) (partR (mkNod k) R j) ∧ Below base w wr ∧ (∀ g, g < w.heap.size → (Value.slice A n ca).ownBlock ≠ some g → wr.heap[g]? = w.heap[g]?)) (fun _ i _ => n - (intOf i).toNat)
 case atStart => exact ⟨0, by omega, rfl, by simp, by rw [partR_zero]; exact HV.out, Below.refl _ _, fun _ _ _ => rfl⟩
 case round =>
  obtain ⟨j, hj, rfl, rfl, hS, hB, hK⟩ := hrel
  have HS : Hid (Owns wr base 90 3 (.slice A n ca) (partR (mkNod k) R j)) := hS
  have HB : Hid (Below base w wr) := hB
  have HK : Hid (∀ g, g < w.heap.size → (Value.slice A n ca).ownBlock ≠ some g → wr.heap[g]? = w.heap[g]?) := hK
  clear hS hB hK
  by_cases hlt : j < n
  ·have q2 : (j : Int) < (n : Int) := by omega
   obtain ⟨g, rfl, hgb⟩ : ∃ g, A = some ⟨g, 0, none⟩ ∧ base ≤ g := by
    rcases HS.out.2.2 with ⟨e, h0⟩ | ⟨g, c, cur, e, hg, _⟩
    ·rw [partR_length _ _ _ (by omega), hn] at h0; omega
    ·cases e; exact ⟨g, rfl, hg⟩
   have HG : Hid (base ≤ g) := hgb
   have hpl : (partR (mkNod k) R j).length = n := by rw [partR_length _ _ _ (by omega), hn]
   have HN2 : Hid ((partR (mkNod k) R j).length = n) := hpl
   have hO0 : Owns wr base 90 3 (.slice (some ⟨g, 0, none⟩) n ca) ((partR (mkNod k) R j).set j ((partR (mkNod k) R j)[j]'(by omega))) := by rw [set_self]; exact HS.out
   have hrl : ((partR (mkNod k) R j)[j]'(by omega)).length = 3 := HS.out.1 _ (List.getElem_mem _)
   have HF : Hid ((partR (mkNod k) R j).set j (mkNod k j) = partR (mkNod k) R (j + 1)) := partR_set _ _ _ (by omega)
   obtain ⟨y0, y1, y2, hy⟩ : ∃ y0 y1 y2, (partR (mkNod k) R j)[j]'(by omega) = [y0, y1, y2] := by
    match hh : (partR (mkNod k) R j)[j]'(by omega), hrl with
    | [y0, y1, y2], _ => exact ⟨y0, y1, y2, rfl⟩
   rw [hy] at hO0
   have hmk : mkNod k j = [.int .i64 (((k + 3 * j : Nat) : Int)), .string (mark (k + 3 * j + 1)), .int .i64 (((k + 3 * j : Nat) : Int) + 1 + 1)] := rfl
   rw [hmk] at HF
   have HM : Hid (((k + 3 * (j + 1) : Nat) : Int) = ((k + 3 * j : Nat) : Int) + 3) := by unfold Hid; omega
   have q4 : ((k + 3 * j : Nat) : Int) ≤ 20000000 := by omega
   have HM1 : Hid (1 ≤ k + 3 * j) := by unfold Hid; omega
   have HM2 : Hid (k + 3 * j ≤ 20000000) := by unfold Hid; omega
   clear hmk hpl hrl hy
   generalize k + 3 * j = m at *
   generalize partR (mkNod k) R j = P at *
   have hsz := HB.out.size
   have hgw : g < wr.heap.size := (hO0.lt g rfl).2
   obtain ⟨z0, d0⟩ := hO0.cellAt2 HN2.out hlt 0 (by omega)
   have f0 := hO0.free2 HN2.out (j * 3)
   rw [Nat.add_zero] at d0
   have p0 := (hO0).pokeAt HN2.out hlt 0 (by omega) (.int .i64 ((m : Int)))
   rw [Nat.add_zero] at p0
   have Q0 : Hid (Owns ((wr).setCell ⟨g, j * 3, none⟩ (.int .i64 ((m : Int)))) base 90 3 (.slice (some ⟨g, 0, none⟩) n ca) (P.set j [.int .i64 ((m : Int)), y1, y2])) := p0
   have D0 : Hid (Below base w ((wr).setCell ⟨g, j * 3, none⟩ (.int .i64 ((m : Int))))) := (HB.out).setCell (show base ≤ g from HG.out) _
   have E0 : Hid (∀ b, b < w.heap.size → (Value.slice (some ⟨g, 0, none⟩) n ca).ownBlock ≠ some b → ((wr).setCell ⟨g, j * 3, none⟩ (.int .i64 ((m : Int)))).heap[b]? = w.heap[b]?) := fun b hb hne => by rw [Below.heap_setCell _ _ _ _ (show b ≠ g from fun e => hne (by rw [e]; rfl))]; exact HK.out b hb hne
   clear p0
   have hsz0 : base ≤ ((wr).setCell ⟨g, j * 3, none⟩ (.int .i64 ((m : Int)))).heap.size := Nat.le_trans hbase D0.out.size
   have hwz0 : w.heap.size ≤ ((wr).setCell ⟨g, j * 3, none⟩ (.int .i64 ((m : Int)))).heap.size := D0.out.size
   have c1 : Calls Tryz.prog 74 #[.int .i64 ((m : Int) + 1)] ((wr).setCell ⟨g, j * 3, none⟩ (.int .i64 ((m : Int)))) fun e w' => e = .returned (.string (mark (m + 1))) ∧ Below ((wr).setCell ⟨g, j * 3, none⟩ (.int .i64 ((m : Int)))).heap.size ((wr).setCell ⟨g, j * 3, none⟩ (.int .i64 ((m : Int)))) w' := by
    have h := markText (m + 1) ((wr).setCell ⟨g, j * 3, none⟩ (.int .i64 ((m : Int)))) (by have := HM1.out; omega) (by have := HM2.out; omega)
    rw [show ((m + 1 : Nat) : Int) = (m : Int) + 1 by omega] at h
    exact h
   go_wp2_with fail
   refine c1.mono ?_
   rintro e x1 ⟨rfl, hx1⟩
   have O1 : Hid (Owns x1 base 90 3 (.slice (some ⟨g, 0, none⟩) n ca) (P.set j [.int .i64 ((m : Int)), y1, y2])) := Q0.out.on hx1
   have B1 : Hid (Below base w x1) := (D0.out).trans (hx1.mono hsz0)
   have K1 : Hid (∀ b, b < w.heap.size → (Value.slice (some ⟨g, 0, none⟩) n ca).ownBlock ≠ some b → x1.heap[b]? = w.heap[b]?) := fun b hb hne => (hx1.block b (Nat.lt_of_lt_of_le hb hwz0)).trans (E0.out b hb hne)
   have hwz : w.heap.size ≤ x1.heap.size := B1.out.size
   clear hx1 c1
   obtain ⟨z1, d1⟩ := O1.out.cellAt2 HN2.out hlt 1 (by omega)
   have f1 := O1.out.free2 HN2.out (j * 3 + 1)
   obtain ⟨z2, d2⟩ := O1.out.cellAt2 HN2.out hlt 2 (by omega)
   have f2 := O1.out.free2 HN2.out (j * 3 + 2)
   have p1 := (O1.out).pokeAt HN2.out hlt 1 (by omega) (.string (mark (m + 1)))
   have p2 := (p1).pokeAt HN2.out hlt 2 (by omega) (.int .i64 ((m : Int) + 1 + 1))
   have Q1 : Hid (Owns (((x1).setCell ⟨g, j * 3 + 1, none⟩ (.string (mark (m + 1)))).setCell ⟨g, j * 3 + 2, none⟩ (.int .i64 ((m : Int) + 1 + 1))) base 90 3 (.slice (some ⟨g, 0, none⟩) n ca) (P.set j [.int .i64 ((m : Int)), .string (mark (m + 1)), .int .i64 ((m : Int) + 1 + 1)])) := p2
   have D1 : Hid (Below base w (((x1).setCell ⟨g, j * 3 + 1, none⟩ (.string (mark (m + 1)))).setCell ⟨g, j * 3 + 2, none⟩ (.int .i64 ((m : Int) + 1 + 1)))) := ((B1.out).setCell (show base ≤ g from HG.out) _).setCell (show base ≤ g from HG.out) _
   have E1 : Hid (∀ b, b < w.heap.size → (Value.slice (some ⟨g, 0, none⟩) n ca).ownBlock ≠ some b → (((x1).setCell ⟨g, j * 3 + 1, none⟩ (.string (mark (m + 1)))).setCell ⟨g, j * 3 + 2, none⟩ (.int .i64 ((m : Int) + 1 + 1))).heap[b]? = w.heap[b]?) := fun b hb hne => by rw [Below.heap_setCell _ _ _ _ (show b ≠ g from fun e => hne (by rw [e]; rfl)), Below.heap_setCell _ _ _ _ (show b ≠ g from fun e => hne (by rw [e]; rfl))]; exact K1.out b hb hne
   clear p1 p2
   go_wp2_with fail
   go_roundw
   case rel => exact ⟨j + 1, by omega, by go_num, by rw [HM.out]; go_num, by rw [← HF.out]; exact Q1.out, D1.out, E1.out⟩
   case measure => simp [intOf]; omega
  ·obtain rfl : j = n := by omega
   go_wp2_with fail
   go_ret
   refine ⟨rfl, ?_, HB.out, HK.out⟩
   have := HS.out
   rw [← hn, partR_all] at this
   rw [← hn]
   exact this
def mkLnk (k j : Nat) : List Value := [.string (mark (k + 2 * j)), .int .i64 (((k + 2 * j : Nat) : Int) + 1)]
set_option maxHeartbeats 2000000 in
theorem markLinkS (k base : Nat) (v : Value) (R : List (List Value)) (w : World) (hv : Owns w base 93 2 v R) (hl : R.length ≤ 1048576) (h1 : 1 ≤ k) (h2 : k ≤ 10000000) (hbase : base ≤ w.heap.size) :
  Calls Tryz.prog 36 #[v, .int .i64 (k : Int)] w fun e w' => e = .returned (.int .i64 ((k + 2 * R.length : Nat) : Int)) ∧ Owns w' base 93 2 v (newR (mkLnk k) R.length) ∧ Below base w w' ∧ (∀ g, g < w.heap.size → v.ownBlock ≠ some g → w'.heap[g]? = w.heap[g]?) := by
 obtain ⟨A, ca, rfl⟩ : ∃ A ca, v = .slice A R.length ca := by
  rcases hv.2.2 with ⟨rfl, h0⟩ | ⟨g, c, cur, rfl, _⟩
  ·exact ⟨none, 0, by rw [h0]⟩
  ·exact ⟨_, _, rfl⟩
 have HV : Hid (Owns w base 93 2 (.slice A R.length ca) R) := hv
 have q1 : (R.length : Int) ≤ 1048576 := by omega
 have q3 : (k : Int) ≤ 10000000 := by omega
 clear hv hl
 generalize hn : R.length = n at *
 go_enter Tryz.func36, Tryz.ntmps36
 go_wp2_with fail
 go_loopw [1, 5] (fun v1 v5 wr => ∃ j : Nat, j ≤ n ∧ v5 = .int .i64 (j : Int) ∧ v1 = .int .i64 ((k + 2 * j : Nat) : Int) ∧ Owns wr base 93 2 (.slice A n ca) (partR (mkLnk k) R j) ∧ Below base w wr ∧ (∀ g, g < w.heap.size → (Value.slice A n ca).ownBlock ≠ some g → wr.heap[g]? = w.heap[g]?)) (fun _ i _ => n - (intOf i).toNat)
 case atStart => exact ⟨0, by omega, rfl, by simp, by rw [partR_zero]; exact HV.out, Below.refl _ _, fun _ _ _ => rfl⟩
 case round =>
  obtain ⟨j, hj, rfl, rfl, hS, hB, hK⟩ := hrel
  have HS : Hid (Owns wr base 93 2 (.slice A n ca) (partR (mkLnk k) R j)) := hS
  have HB : Hid (Below base w wr) := hB
  have HK : Hid (∀ g, g < w.heap.size → (Value.slice A n ca).ownBlock ≠ some g → wr.heap[g]? = w.heap[g]?) := hK
  clear hS hB hK
  by_cases hlt : j < n
  ·have q2 : (j : Int) < (n : Int) := by omega
   obtain ⟨g, rfl, hgb⟩ : ∃ g, A = some ⟨g, 0, none⟩ ∧ base ≤ g := by
    rcases HS.out.2.2 with ⟨e, h0⟩ | ⟨g, c, cur, e, hg, _⟩
    ·rw [partR_length _ _ _ (by omega), hn] at h0; omega
    ·cases e; exact ⟨g, rfl, hg⟩
   have HG : Hid (base ≤ g) := hgb
   have hpl : (partR (mkLnk k) R j).length = n := by rw [partR_length _ _ _ (by omega), hn]
   have HN2 : Hid ((partR (mkLnk k) R j).length = n) := hpl
   have hO0 : Owns wr base 93 2 (.slice (some ⟨g, 0, none⟩) n ca) ((partR (mkLnk k) R j).set j ((partR (mkLnk k) R j)[j]'(by omega))) := by rw [set_self]; exact HS.out
   have hrl : ((partR (mkLnk k) R j)[j]'(by omega)).length = 2 := HS.out.1 _ (List.getElem_mem _)
   have HF : Hid ((partR (mkLnk k) R j).set j (mkLnk k j) = partR (mkLnk k) R (j + 1)) := partR_set _ _ _ (by omega)
   obtain ⟨y0, y1, hy⟩ : ∃ y0 y1, (partR (mkLnk k) R j)[j]'(by omega) = [y0, y1] := by
    match hh : (partR (mkLnk k) R j)[j]'(by omega), hrl with
    | [y0, y1], _ => exact ⟨y0, y1, rfl⟩
   rw [hy] at hO0
   have hmk : mkLnk k j = [.string (mark (k + 2 * j)), .int .i64 (((k + 2 * j : Nat) : Int) + 1)] := rfl
   rw [hmk] at HF
   have HM : Hid (((k + 2 * (j + 1) : Nat) : Int) = ((k + 2 * j : Nat) : Int) + 2) := by unfold Hid; omega
   have q4 : ((k + 2 * j : Nat) : Int) ≤ 20000000 := by omega
   have HM1 : Hid (1 ≤ k + 2 * j) := by unfold Hid; omega
   have HM2 : Hid (k + 2 * j ≤ 20000000) := by unfold Hid; omega
   clear hmk hpl hrl hy
   generalize k + 2 * j = m at *
   generalize partR (mkLnk k) R j = P at *
   have hsz := HB.out.size
   have hgw : g < wr.heap.size := (hO0.lt g rfl).2
   have c1 : Calls Tryz.prog 74 #[.int .i64 ((m : Int))] (wr) fun e w' => e = .returned (.string (mark (m))) ∧ Below (wr).heap.size (wr) w' := by
    have h := markText (m) (wr) (by have := HM1.out; omega) (by have := HM2.out; omega)
    exact h
   go_wp2_with fail
   refine c1.mono ?_
   rintro e x1 ⟨rfl, hx1⟩
   have O1 : Hid (Owns x1 base 93 2 (.slice (some ⟨g, 0, none⟩) n ca) (P.set j [y0, y1])) := hO0.on hx1
   have B1 : Hid (Below base w x1) := (HB.out).trans (hx1.mono (Nat.le_trans hbase hsz))
   have K1 : Hid (∀ b, b < w.heap.size → (Value.slice (some ⟨g, 0, none⟩) n ca).ownBlock ≠ some b → x1.heap[b]? = w.heap[b]?) := fun b hb hne => (hx1.block b (Nat.lt_of_lt_of_le hb hsz)).trans (HK.out b hb hne)
   have hwz : w.heap.size ≤ x1.heap.size := B1.out.size
   clear hx1 c1 hO0
   obtain ⟨z0, d0⟩ := O1.out.cellAt2 HN2.out hlt 0 (by omega)
   have f0 := O1.out.free2 HN2.out (j * 2)
   rw [Nat.add_zero] at d0
   obtain ⟨z1, d1⟩ := O1.out.cellAt2 HN2.out hlt 1 (by omega)
   have f1 := O1.out.free2 HN2.out (j * 2 + 1)
   have p0 := (O1.out).pokeAt HN2.out hlt 0 (by omega) (.string (mark (m)))
   rw [Nat.add_zero] at p0
   have p1 := (p0).pokeAt HN2.out hlt 1 (by omega) (.int .i64 ((m : Int) + 1))
   have Q1 : Hid (Owns (((x1).setCell ⟨g, j * 2, none⟩ (.string (mark (m)))).setCell ⟨g, j * 2 + 1, none⟩ (.int .i64 ((m : Int) + 1))) base 93 2 (.slice (some ⟨g, 0, none⟩) n ca) (P.set j [.string (mark (m)), .int .i64 ((m : Int) + 1)])) := p1
   have D1 : Hid (Below base w (((x1).setCell ⟨g, j * 2, none⟩ (.string (mark (m)))).setCell ⟨g, j * 2 + 1, none⟩ (.int .i64 ((m : Int) + 1)))) := ((B1.out).setCell (show base ≤ g from HG.out) _).setCell (show base ≤ g from HG.out) _
   have E1 : Hid (∀ b, b < w.heap.size → (Value.slice (some ⟨g, 0, none⟩) n ca).ownBlock ≠ some b → (((x1).setCell ⟨g, j * 2, none⟩ (.string (mark (m)))).setCell ⟨g, j * 2 + 1, none⟩ (.int .i64 ((m : Int) + 1))).heap[b]? = w.heap[b]?) := fun b hb hne => by rw [Below.heap_setCell _ _ _ _ (show b ≠ g from fun e => hne (by rw [e]; rfl)), Below.heap_setCell _ _ _ _ (show b ≠ g from fun e => hne (by rw [e]; rfl))]; exact K1.out b hb hne
   clear p0 p1
   go_wp2_with fail
   go_roundw
   case rel => exact ⟨j + 1, by omega, by go_num, by rw [HM.out]; go_num, by rw [← HF.out]; exact Q1.out, D1.out, E1.out⟩
   case measure => simp [intOf]; omega
  ·obtain rfl : j = n := by omega
   go_wp2_with fail
   go_ret
   refine ⟨rfl, ?_, HB.out, HK.out⟩
   have := HS.out
   rw [← hn, partR_all] at this
   rw [← hn]
   exact this
def mkMov (k j : Nat) : List Value := [.int .i64 (((k + 4 * j : Nat) : Int)), .string (mark (k + 4 * j + 1)), .string (mark (k + 4 * j + 2)), .int .i64 (((k + 4 * j : Nat) : Int) + 1 + 1 + 1)]
set_option maxHeartbeats 2000000 in
theorem markMoveS (k base : Nat) (v : Value) (R : List (List Value)) (w : World) (hv : Owns w base 94 4 v R) (hl : R.length ≤ 1048576) (h1 : 1 ≤ k) (h2 : k ≤ 10000000) (hbase : base ≤ w.heap.size) :
  Calls Tryz.prog 37 #[v, .int .i64 (k : Int)] w fun e w' => e = .returned (.int .i64 ((k + 4 * R.length : Nat) : Int)) ∧ Owns w' base 94 4 v (newR (mkMov k) R.length) ∧ Below base w w' ∧ (∀ g, g < w.heap.size → v.ownBlock ≠ some g → w'.heap[g]? = w.heap[g]?) := by
 obtain ⟨A, ca, rfl⟩ : ∃ A ca, v = .slice A R.length ca := by
  rcases hv.2.2 with ⟨rfl, h0⟩ | ⟨g, c, cur, rfl, _⟩
  ·exact ⟨none, 0, by rw [h0]⟩
  ·exact ⟨_, _, rfl⟩
 have HV : Hid (Owns w base 94 4 (.slice A R.length ca) R) := hv
 have q1 : (R.length : Int) ≤ 1048576 := by omega
 have q3 : (k : Int) ≤ 10000000 := by omega
 clear hv hl
 generalize hn : R.length = n at *
 go_enter Tryz.func37, Tryz.ntmps37
 go_wp2_with fail
 go_loopw [1, 5] (fun v1 v5 wr => ∃ j : Nat, j ≤ n ∧ v5 = .int .i64 (j : Int) ∧ v1 = .int .i64 ((k + 4 * j : Nat) : Int) ∧ Owns wr base 94 4 (.slice A n ca) (partR (mkMov k) R j) ∧ Below base w wr ∧ (∀ g, g < w.heap.size → (Value.slice A n ca).ownBlock ≠ some g → wr.heap[g]? = w.heap[g]?)) (fun _ i _ => n - (intOf i).toNat)
 case atStart => exact ⟨0, by omega, rfl, by simp, by rw [partR_zero]; exact HV.out, Below.refl _ _, fun _ _ _ => rfl⟩
 case round =>
  obtain ⟨j, hj, rfl, rfl, hS, hB, hK⟩ := hrel
  have HS : Hid (Owns wr base 94 4 (.slice A n ca) (partR (mkMov k) R j)) := hS
  have HB : Hid (Below base w wr) := hB
  have HK : Hid (∀ g, g < w.heap.size → (Value.slice A n ca).ownBlock ≠ some g → wr.heap[g]? = w.heap[g]?) := hK
  clear hS hB hK
  by_cases hlt : j < n
  ·have q2 : (j : Int) < (n : Int) := by omega
   obtain ⟨g, rfl, hgb⟩ : ∃ g, A = some ⟨g, 0, none⟩ ∧ base ≤ g := by
    rcases HS.out.2.2 with ⟨e, h0⟩ | ⟨g, c, cur, e, hg, _⟩
    ·rw [partR_length _ _ _ (by omega), hn] at h0; omega
    ·cases e; exact ⟨g, rfl, hg⟩
   have HG : Hid (base ≤ g) := hgb
   have hpl : (partR (mkMov k) R j).length = n := by rw [partR_length _ _ _ (by omega), hn]
   have HN2 : Hid ((partR (mkMov k) R j).length = n) := hpl
   have hO0 : Owns wr base 94 4 (.slice (some ⟨g, 0, none⟩) n ca) ((partR (mkMov k) R j).set j ((partR (mkMov k) R j)[j]'(by omega))) := by rw [set_self]; exact HS.out
   have hrl : ((partR (mkMov k) R j)[j]'(by omega)).length = 4 := HS.out.1 _ (List.getElem_mem _)
   have HF : Hid ((partR (mkMov k) R j).set j (mkMov k j) = partR (mkMov k) R (j + 1)) := partR_set _ _ _ (by omega)
   obtain ⟨y0, y1, y2, y3, hy⟩ : ∃ y0 y1 y2 y3, (partR (mkMov k) R j)[j]'(by omega) = [y0, y1, y2, y3] := by
    match hh : (partR (mkMov k) R j)[j]'(by omega), hrl with
    | [y0, y1, y2, y3], _ => exact ⟨y0, y1, y2, y3, rfl⟩
   rw [hy] at hO0
   have hmk : mkMov k j = [.int .i64 (((k + 4 * j : Nat) : Int)), .string (mark (k + 4 * j + 1)), .string (mark (k + 4 * j + 2)), .int .i64 (((k + 4 * j : Nat) : Int) + 1 + 1 + 1)] := rfl
   rw [hmk] at HF
   have HM : Hid (((k + 4 * (j + 1) : Nat) : Int) = ((k + 4 * j : Nat) : Int) + 4) := by unfold Hid; omega
   have q4 : ((k + 4 * j : Nat) : Int) ≤ 20000000 := by omega
   have HM1 : Hid (1 ≤ k + 4 * j) := by unfold Hid; omega
   have HM2 : Hid (k + 4 * j ≤ 20000000) := by unfold Hid; omega
   clear hmk hpl hrl hy
   generalize k + 4 * j = m at *
   generalize partR (mkMov k) R j = P at *
   have hsz := HB.out.size
   have hgw : g < wr.heap.size := (hO0.lt g rfl).2
   obtain ⟨z0, d0⟩ := hO0.cellAt2 HN2.out hlt 0 (by omega)
   have f0 := hO0.free2 HN2.out (j * 4)
   rw [Nat.add_zero] at d0
   have p0 := (hO0).pokeAt HN2.out hlt 0 (by omega) (.int .i64 ((m : Int)))
   rw [Nat.add_zero] at p0
   have Q0 : Hid (Owns ((wr).setCell ⟨g, j * 4, none⟩ (.int .i64 ((m : Int)))) base 94 4 (.slice (some ⟨g, 0, none⟩) n ca) (P.set j [.int .i64 ((m : Int)), y1, y2, y3])) := p0
   have D0 : Hid (Below base w ((wr).setCell ⟨g, j * 4, none⟩ (.int .i64 ((m : Int))))) := (HB.out).setCell (show base ≤ g from HG.out) _
   have E0 : Hid (∀ b, b < w.heap.size → (Value.slice (some ⟨g, 0, none⟩) n ca).ownBlock ≠ some b → ((wr).setCell ⟨g, j * 4, none⟩ (.int .i64 ((m : Int)))).heap[b]? = w.heap[b]?) := fun b hb hne => by rw [Below.heap_setCell _ _ _ _ (show b ≠ g from fun e => hne (by rw [e]; rfl))]; exact HK.out b hb hne
   clear p0
   have hsz0 : base ≤ ((wr).setCell ⟨g, j * 4, none⟩ (.int .i64 ((m : Int)))).heap.size := Nat.le_trans hbase D0.out.size
   have hwz0 : w.heap.size ≤ ((wr).setCell ⟨g, j * 4, none⟩ (.int .i64 ((m : Int)))).heap.size := D0.out.size
   have c1 : Calls Tryz.prog 74 #[.int .i64 ((m : Int) + 1)] ((wr).setCell ⟨g, j * 4, none⟩ (.int .i64 ((m : Int)))) fun e w' => e = .returned (.string (mark (m + 1))) ∧ Below ((wr).setCell ⟨g, j * 4, none⟩ (.int .i64 ((m : Int)))).heap.size ((wr).setCell ⟨g, j * 4, none⟩ (.int .i64 ((m : Int)))) w' := by
    have h := markText (m + 1) ((wr).setCell ⟨g, j * 4, none⟩ (.int .i64 ((m : Int)))) (by have := HM1.out; omega) (by have := HM2.out; omega)
    rw [show ((m + 1 : Nat) : Int) = (m : Int) + 1 by omega] at h
    exact h
   go_wp2_with fail
   refine c1.mono ?_
   rintro e x1 ⟨rfl, hx1⟩
   have O1 : Hid (Owns x1 base 94 4 (.slice (some ⟨g, 0, none⟩) n ca) (P.set j [.int .i64 ((m : Int)), y1, y2, y3])) := Q0.out.on hx1
   have B1 : Hid (Below base w x1) := (D0.out).trans (hx1.mono hsz0)
   have K1 : Hid (∀ b, b < w.heap.size → (Value.slice (some ⟨g, 0, none⟩) n ca).ownBlock ≠ some b → x1.heap[b]? = w.heap[b]?) := fun b hb hne => (hx1.block b (Nat.lt_of_lt_of_le hb hwz0)).trans (E0.out b hb hne)
   have hwz : w.heap.size ≤ x1.heap.size := B1.out.size
   clear hx1 c1
   obtain ⟨z1, d1⟩ := O1.out.cellAt2 HN2.out hlt 1 (by omega)
   have f1 := O1.out.free2 HN2.out (j * 4 + 1)
   have p1 := (O1.out).pokeAt HN2.out hlt 1 (by omega) (.string (mark (m + 1)))
   have Q1 : Hid (Owns ((x1).setCell ⟨g, j * 4 + 1, none⟩ (.string (mark (m + 1)))) base 94 4 (.slice (some ⟨g, 0, none⟩) n ca) (P.set j [.int .i64 ((m : Int)), .string (mark (m + 1)), y2, y3])) := p1
   have D1 : Hid (Below base w ((x1).setCell ⟨g, j * 4 + 1, none⟩ (.string (mark (m + 1))))) := (B1.out).setCell (show base ≤ g from HG.out) _
   have E1 : Hid (∀ b, b < w.heap.size → (Value.slice (some ⟨g, 0, none⟩) n ca).ownBlock ≠ some b → ((x1).setCell ⟨g, j * 4 + 1, none⟩ (.string (mark (m + 1)))).heap[b]? = w.heap[b]?) := fun b hb hne => by rw [Below.heap_setCell _ _ _ _ (show b ≠ g from fun e => hne (by rw [e]; rfl))]; exact K1.out b hb hne
   clear p1
   have hsz2 : base ≤ ((x1).setCell ⟨g, j * 4 + 1, none⟩ (.string (mark (m + 1)))).heap.size := Nat.le_trans hbase D1.out.size
   have hwz2 : w.heap.size ≤ ((x1).setCell ⟨g, j * 4 + 1, none⟩ (.string (mark (m + 1)))).heap.size := D1.out.size
   have c2 : Calls Tryz.prog 74 #[.int .i64 ((m : Int) + 1 + 1)] ((x1).setCell ⟨g, j * 4 + 1, none⟩ (.string (mark (m + 1)))) fun e w' => e = .returned (.string (mark (m + 2))) ∧ Below ((x1).setCell ⟨g, j * 4 + 1, none⟩ (.string (mark (m + 1)))).heap.size ((x1).setCell ⟨g, j * 4 + 1, none⟩ (.string (mark (m + 1)))) w' := by
    have h := markText (m + 2) ((x1).setCell ⟨g, j * 4 + 1, none⟩ (.string (mark (m + 1)))) (by have := HM1.out; omega) (by have := HM2.out; omega)
    rw [show ((m + 2 : Nat) : Int) = (m : Int) + 1 + 1 by omega] at h
    exact h
   go_wp2_with fail
   refine c2.mono ?_
   rintro e x2 ⟨rfl, hx2⟩
   have O2 : Hid (Owns x2 base 94 4 (.slice (some ⟨g, 0, none⟩) n ca) (P.set j [.int .i64 ((m : Int)), .string (mark (m + 1)), y2, y3])) := Q1.out.on hx2
   have B2 : Hid (Below base w x2) := (D1.out).trans (hx2.mono hsz2)
   have K2 : Hid (∀ b, b < w.heap.size → (Value.slice (some ⟨g, 0, none⟩) n ca).ownBlock ≠ some b → x2.heap[b]? = w.heap[b]?) := fun b hb hne => (hx2.block b (Nat.lt_of_lt_of_le hb hwz2)).trans (E1.out b hb hne)
   have hwz : w.heap.size ≤ x2.heap.size := B2.out.size
   clear hx2 c2
   obtain ⟨z2, d2⟩ := O2.out.cellAt2 HN2.out hlt 2 (by omega)
   have f2 := O2.out.free2 HN2.out (j * 4 + 2)
   obtain ⟨z3, d3⟩ := O2.out.cellAt2 HN2.out hlt 3 (by omega)
   have f3 := O2.out.free2 HN2.out (j * 4 + 3)
   have p2 := (O2.out).pokeAt HN2.out hlt 2 (by omega) (.string (mark (m + 2)))
   have p3 := (p2).pokeAt HN2.out hlt 3 (by omega) (.int .i64 ((m : Int) + 1 + 1 + 1))
   have Q2 : Hid (Owns (((x2).setCell ⟨g, j * 4 + 2, none⟩ (.string (mark (m + 2)))).setCell ⟨g, j * 4 + 3, none⟩ (.int .i64 ((m : Int) + 1 + 1 + 1))) base 94 4 (.slice (some ⟨g, 0, none⟩) n ca) (P.set j [.int .i64 ((m : Int)), .string (mark (m + 1)), .string (mark (m + 2)), .int .i64 ((m : Int) + 1 + 1 + 1)])) := p3
   have D2 : Hid (Below base w (((x2).setCell ⟨g, j * 4 + 2, none⟩ (.string (mark (m + 2)))).setCell ⟨g, j * 4 + 3, none⟩ (.int .i64 ((m : Int) + 1 + 1 + 1)))) := ((B2.out).setCell (show base ≤ g from HG.out) _).setCell (show base ≤ g from HG.out) _
   have E2 : Hid (∀ b, b < w.heap.size → (Value.slice (some ⟨g, 0, none⟩) n ca).ownBlock ≠ some b → (((x2).setCell ⟨g, j * 4 + 2, none⟩ (.string (mark (m + 2)))).setCell ⟨g, j * 4 + 3, none⟩ (.int .i64 ((m : Int) + 1 + 1 + 1))).heap[b]? = w.heap[b]?) := fun b hb hne => by rw [Below.heap_setCell _ _ _ _ (show b ≠ g from fun e => hne (by rw [e]; rfl)), Below.heap_setCell _ _ _ _ (show b ≠ g from fun e => hne (by rw [e]; rfl))]; exact K2.out b hb hne
   clear p2 p3
   go_wp2_with fail
   go_roundw
   case rel => exact ⟨j + 1, by omega, by go_num, by rw [HM.out]; go_num, by rw [← HF.out]; exact Q2.out, D2.out, E2.out⟩
   case measure => simp [intOf]; omega
  ·obtain rfl : j = n := by omega
   go_wp2_with fail
   go_ret
   refine ⟨rfl, ?_, HB.out, HK.out⟩
   have := HS.out
   rw [← hn, partR_all] at this
   rw [← hn]
   exact this
end Go.Proofs.YtdimaoloapbeoaaGreatDoor
namespace Go.Proofs.YtdimaoloapbeoaaGreatDoor
open Go.ChangeShapes Go.WideShapes Go.ChangeAt Go.RowKit Go.PlainAid
set_option linter.unusedVariables false
theorem Owns.apart {w : World} {b b' : Nat} {e e' : TypeId} {sz sz' : Nat} {v u : Value} {R R' : List (List Value)} (h : Owns w b e sz v R) (k : Owns w b' e' sz' u R') (hne : e ≠ e') (g : Nat) (hg : v.ownBlock = some g) : u.ownBlock ≠ some g := by
 intro hu
 obtain ⟨c, fz, e1⟩ := Lib.ownsRow_kind h.2 g hg
 obtain ⟨c', fz', e2⟩ := Lib.ownsRow_kind k.2 g hu
 rw [e1] at e2
 cases e2
 exact hne rfl
structure Rows3 (w : World) (base C : Nat) (v1 v2 v3 : Value) (R1 R2 R3 : List (List Value)) : Prop where
 o1 : Owns w base 90 3 v1 R1
 o2 : Owns w base 93 2 v2 R2
 o3 : Owns w base 94 4 v3 R3
 c1 : ∀ g, v1.ownBlock = some g → g < C
 c2 : ∀ g, v2.ownBlock = some g → g < C
 c3 : ∀ g, v3.ownBlock = some g → g < C
theorem Rows3.on {w w' : World} {base C : Nat} {v1 v2 v3 : Value} {R1 R2 R3 : List (List Value)} (h : Rows3 w base C v1 v2 v3 R1 R2 R3) (hb : Below w.heap.size w w') : Rows3 w' base C v1 v2 v3 R1 R2 R3 :=
 ⟨h.o1.on hb, h.o2.on hb, h.o3.on hb, h.c1, h.c2, h.c3⟩
set_option maxHeartbeats 2000000 in
theorem markDisk (k base C : Nat) (a b : Int) (v1 v2 v3 : Value) (R1 R2 R3 : List (List Value)) (w : World) (h : Rows3 w base C v1 v2 v3 R1 R2 R3) (l1 : R1.length ≤ 1048576) (l2 : R2.length ≤ 1048576) (l3 : R3.length ≤ 1048576) (h1 : 1 ≤ k) (h2 : k ≤ 1000) (hbase : base ≤ w.heap.size) :
  Calls Tryz.prog 10 #[.agg #[.int .i64 a, .int .i64 b, v1, v2, v3], .int .i64 (k : Int)] w fun e w' => e = .returned (.int .i64 ((k + 3 * R1.length + 2 * R2.length + 4 * R3.length : Nat) : Int)) ∧
   Rows3 w' base C v1 v2 v3 (newR (mkNod k) R1.length) (newR (mkLnk (k + 3 * R1.length)) R2.length) (newR (mkMov (k + 3 * R1.length + 2 * R2.length)) R3.length) ∧ Below base w w' ∧ (∀ g, C ≤ g → g < w.heap.size → w'.heap[g]? = w.heap[g]?) := by
 have H : Hid (Rows3 w base C v1 v2 v3 R1 R2 R3) := h
 have HB : Hid (base ≤ w.heap.size) := hbase
 clear h hbase
 go_enter Tryz.func10, Tryz.ntmps10
 go_wp2_with fail
 have hb0 : Below w.heap.size w (w.alloc (.cells #[.int .i64 a, .int .i64 b, v1, v2, v3] 41)) := (Below.refl _ _).alloc (Nat.le_refl _) _
 have kA := Blk.new w #[.int .i64 a, .int .i64 b, v1, v2, v3] 41
 generalize w.alloc (.cells #[.int .i64 a, .int .i64 b, v1, v2, v3] 41) = W at *
 have B0 : Hid (Below w.heap.size w W) := hb0
 have K0 : Hid (Blk W w.heap.size #[.int .i64 a, .int .i64 b, v1, v2, v3] 41) := kA
 have H0 : Hid (Rows3 W base C v1 v2 v3 R1 R2 R3) := H.out.on hb0
 clear hb0 kA
 have N1 : ∀ v : Value, (∀ g, v.ownBlock = some g → g < w.heap.size) → v.ownBlock ≠ some w.heap.size := fun v hv e => by have := hv _ e; omega
 have Z1 : Hid (v1.ownBlock ≠ some w.heap.size) := N1 _ fun g e => (H.out.o1.lt g e).2
 have Z2 : Hid (v2.ownBlock ≠ some w.heap.size) := N1 _ fun g e => (H.out.o2.lt g e).2
 have Z3 : Hid (v3.ownBlock ≠ some w.heap.size) := N1 _ fun g e => (H.out.o3.lt g e).2
 clear N1
 refine (markInodeS k base v1 R1 W H0.out.o1 l1 h1 (by omega) (Nat.le_trans HB.out B0.out.size)).mono ?_
 rintro e w2 ⟨rfl, hO, hb, hk⟩
 have O1 : Hid (Owns w2 base 90 3 v1 (newR (mkNod k) R1.length)) := hO
 have O2 : Hid (Owns w2 base 93 2 v2 R2) := H0.out.o2.kept fun g hg e => hk g hg fun e1 => H0.out.o1.apart H0.out.o2 (by decide) g e1 e
 have O3 : Hid (Owns w2 base 94 4 v3 R3) := H0.out.o3.kept fun g hg e => hk g hg fun e1 => H0.out.o1.apart H0.out.o3 (by decide) g e1 e
 have K2 : Hid (Blk w2 w.heap.size #[.int .i64 a, .int .i64 b, v1, v2, v3] 41) := by unfold Hid Blk; rw [hk _ K0.out.lt Z1.out]; exact K0.out
 have B2 : Hid (Below base w w2) := (B0.out.mono HB.out).trans hb
 have C2 : Hid (∀ g, C ≤ g → g < w.heap.size → w2.heap[g]? = w.heap[g]?) := fun g hc hg => (hk g (Nat.lt_of_lt_of_le hg B0.out.size) fun e => by have := H.out.c1 g e; omega).trans (B0.out.block g hg)
 have e2 := K2.out.cell 3 v2 rfl
 clear hO hb hk
 have q1 : ((k + 3 * R1.length : Nat) : Int) ≤ 10000000 := by omega
 have M1 : Hid (1 ≤ k + 3 * R1.length) := by unfold Hid; omega
 have M2 : Hid (k + 3 * R1.length ≤ 10000000) := by unfold Hid; omega
 have M3 : Hid (k + 3 * R1.length + 2 * R2.length ≤ 10000000) := by unfold Hid; omega
 generalize hk2 : k + 3 * R1.length = k2 at *
 go_wp2_with fail
 refine (markLinkS k2 base v2 R2 w2 O2.out l2 M1.out M2.out (Nat.le_trans HB.out B2.out.size)).mono ?_
 rintro e w3 ⟨rfl, hO, hb, hk⟩
 have P2 : Hid (Owns w3 base 93 2 v2 (newR (mkLnk k2) R2.length)) := hO
 have P1 : Hid (Owns w3 base 90 3 v1 (newR (mkNod k) R1.length)) := O1.out.kept fun g hg e => hk g hg fun e1 => O2.out.apart O1.out (by decide) g e1 e
 have P3 : Hid (Owns w3 base 94 4 v3 R3) := O3.out.kept fun g hg e => hk g hg fun e1 => O2.out.apart O3.out (by decide) g e1 e
 have K3 : Hid (Blk w3 w.heap.size #[.int .i64 a, .int .i64 b, v1, v2, v3] 41) := by unfold Hid Blk; rw [hk _ K2.out.lt Z2.out]; exact K2.out
 have B3 : Hid (Below base w w3) := B2.out.trans hb
 have C3 : Hid (∀ g, C ≤ g → g < w.heap.size → w3.heap[g]? = w.heap[g]?) := fun g hc hg => (hk g (Nat.lt_of_lt_of_le hg B2.out.size) fun e => by have := H.out.c2 g e; omega).trans (C2.out g hc hg)
 have e3 := K3.out.cell 4 v3 rfl
 clear hO hb hk e2
 have q2 : ((k2 + 2 * R2.length : Nat) : Int) ≤ 10000000 := by have := M3.out; omega
 have M4 : Hid (1 ≤ k2 + 2 * R2.length) := by unfold Hid; have := M1.out; omega
 generalize hk3 : k2 + 2 * R2.length = k3 at *
 go_wp2_with fail
 refine (markMoveS k3 base v3 R3 w3 P3.out l3 M4.out M3.out (Nat.le_trans HB.out B3.out.size)).mono ?_
 rintro e w4 ⟨rfl, hO, hb, hk⟩
 have S3 : Hid (Owns w4 base 94 4 v3 (newR (mkMov k3) R3.length)) := hO
 have S1 : Hid (Owns w4 base 90 3 v1 (newR (mkNod k) R1.length)) := P1.out.kept fun g hg e => hk g hg fun e1 => P3.out.apart P1.out (by decide) g e1 e
 have S2 : Hid (Owns w4 base 93 2 v2 (newR (mkLnk k2) R2.length)) := P2.out.kept fun g hg e => hk g hg fun e1 => P3.out.apart P2.out (by decide) g e1 e
 have B4 : Hid (Below base w w4) := B3.out.trans hb
 have C4 : Hid (∀ g, C ≤ g → g < w.heap.size → w4.heap[g]? = w.heap[g]?) := fun g hc hg => (hk g (Nat.lt_of_lt_of_le hg B3.out.size) fun e => by have := H.out.c3 g e; omega).trans (C3.out g hc hg)
 clear hO hb hk e3
 generalize hk4 : k3 + 4 * R3.length = k4 at *
 go_wp2_with fail
 go_ret
 rw [hk2, hk3, hk4]
 exact ⟨rfl, ⟨S1.out, S2.out, S3.out, H.out.c1, H.out.c2, H.out.c3⟩, B4.out, C4.out⟩
end Go.Proofs.YtdimaoloapbeoaaGreatDoor
