/- PtLaw PtArg SrRow StrAid SrArg -/
import Derived.Test.YtikknmoeefipmaaGreatDoorRows
import Derived.Test.YtikknmoeefipmaaGreatDoorQp1
import Derived.WalkKit
import Derived.ProofKit
import Derived.OpenShut
import Derived.Below
import Derived.WalkSmall
import Derived.WalkLawsBesides
import Derived.Outline
import Derived.BigQuiet
import Derived.Deep.QuietTactic
import Derived.Deep.RegionWith
import Derived.Deep.Slices
import Derived.ChangeArms
import Derived.Test.YtikknmoeefipmaaGreatDoorQp0
import Derived.Laws.OwnMore
import Derived.OwnWalk
namespace Go.Proofs.YtikknmoeefipmaaGreatDoor
open Go.ChangeShapes Go.WideShapes Go.ChangeAt Go.RowKit Go.PlainAid
set_option linter.unusedVariables false
set_option maxHeartbeats 400000 in
theorem szPointS (l : List Pnt) (v : Value) (left : Int) (w : World) (B : Nat) (hv : Lies w B 2 v (ptR l)) (hn : l.length ≤ maxLen) (h0 : 0 ≤ left) (h1 : left ≤ 1048576) :
  Calls Tryz.prog 12 #[v, .int .i64 left] w fun e w' => (∃ r : Int, e = .returned (.int .i64 r) ∧ Hid (r = -1 ∨ 0 ≤ r ∧ r + (l.length : Int) = left)) ∧ w = w' := by
 unfold maxLen at hn
 obtain ⟨A, cap, rfl, _⟩ := pt_look hv
 clear hv
 generalize l.length = n at *
 have q1 : (n : Int) ≤ 9223372036854775807 := by omega
 have w2 : wrap64 (left - (n : Int)) = left - (n : Int) := by unfold wrap64; omega
 by_cases hl : left < (n : Int)
 ·have q2 : left - (n : Int) < 0 := by omega
  go_enter Tryz.func12, Tryz.ntmps12
  go_wp2
  go_ret
  exact ⟨⟨_, rfl, .inl rfl⟩, rfl⟩
 ·have HL : Hid ((n : Int) ≤ left) := by unfold Hid; omega
  have q2 : 0 ≤ left - (n : Int) := by omega
  have q3 : decide (left - (n : Int) < 0) = false := decide_eq_false (by omega)
  go_enter Tryz.func12, Tryz.ntmps12
  go_wp2
  go_ret
  exact ⟨⟨_, rfl, .inr ⟨by have := HL.out; omega, by omega⟩⟩, rfl⟩
theorem below_alloc3 (w : World) (a b c : Obj) : Below w.heap.size w (((w.alloc a).alloc b).alloc c) := (((Below.refl _ w).alloc (Nat.le_refl _) a).alloc (by simp) b).alloc (by simp; omega) c
set_option maxHeartbeats 400000 in
theorem toPoint (x : Pnt) (w : World) : Calls Tryz.prog 49 #[vPt x] w fun e w' => e = .returned (vPt x) ∧ Below w.heap.size w w' := by
 unfold vPt
 go_enter Tryz.func49, Tryz.ntmps49
 go_wp2
 exact bodyPost_ret (v := .agg #[.int .i64 x.t, .int .i64 x.v]) (by simp [results, go_sem]) rfl ⟨rfl, below_alloc3 _ _ _ _⟩
theorem Tryz.infoPt : (Tryz.prog.info? 90).map (fun i => (i.zero, i.size, i.bytes)) = some (some (.agg #[.int .i64 0, .int .i64 0]), 2, 16) := by kernel_rfl
def ptZ : List Value := [.int .i64 0, .int .i64 0]
theorem pt_made (n : Nat) : madeCells #[.int .i64 0, .int .i64 0] (n * 2) = (List.replicate n ptZ).flatten.toArray := by
 apply Array.ext'
 rw [List.toList_toArray]
 apply List.ext_getElem?
 intro k
 have hz : ∀ r ∈ List.replicate n ptZ, r.length = 2 := fun r hr => by rw [List.eq_of_mem_replicate hr]; rfl
 by_cases hk : k < n * 2
 ·have e : k = k / 2 * 2 + k % 2 := by omega
  have hf : k % 2 < 2 := Nat.mod_lt _ (by omega)
  have hj : k / 2 < n := Nat.div_lt_of_lt_mul (by omega)
  have := flat_at 2 (List.replicate n ptZ) hz (k / 2) (k % 2) (by simpa using hj) hf
  rw [← e] at this
  have hr : (List.replicate n ptZ)[k / 2]'(by simpa using hj) = ptZ := by simp
  rw [this, hr]
  have hs : (madeCells #[.int .i64 0, .int .i64 0] (n * 2)).toList[k]? = some (#[.int .i64 0, .int .i64 0].getD (k % 2) default) := by simp [madeCells, hk]
  rw [hs]
  have : k % 2 = 0 ∨ k % 2 = 1 := by omega
  rcases this with h | h <;> rw [h] <;> rfl
 ·have hl : (List.replicate n ptZ).flatten.length = n * 2 := by rw [flat_length 2 _ hz]; simp
  have hr : (List.replicate n ptZ).flatten[k]? = none := List.getElem?_eq_none (by omega)
  rw [hr]
  apply List.getElem?_eq_none
  rw [Array.length_toList, size_madeCells]
  omega
set_option maxHeartbeats 1000000 in
theorem toPointS (l : List Pnt) (v : Value) (w : World) (B : Nat) (hv : Lies w B 2 v (ptR l)) (hn : l.length ≤ 1048576) (hB : B ≤ w.heap.size) :
  Calls Tryz.prog 15 #[v] w fun e w' => ∃ u, e = .returned u ∧ Owns w' w.heap.size 90 2 u (ptR l) ∧ Below w.heap.size w w' := by
 obtain ⟨A, cap, rfl, hl⟩ := pt_look hv
 have HL : Hid (∀ j, j < l.length → ∃ g off, A = some ⟨g, off, none⟩ ∧ g < B ∧ _) := hl
 have HB : Hid (B ≤ w.heap.size) := hB
 clear hl hB hv
 have q1 : (l.length : Int) ≤ 1048576 := by omega
 generalize hN : l.length = n at *
 obtain ⟨i0, hi, hz0, hz1, hz2⟩ := info_parts Tryz.infoPt
 have hmk : ∀ wx : World, (Instr.makeSlice 48 (.int .i64 (n : Int)) (.int .i64 (n : Int))).run Tryz.prog wx = .ok (.slice (some ⟨wx.heap.size, 0, none⟩) n n) (wx.alloc (.cells (List.replicate n ptZ).flatten.toArray 90)) := fun wx => by
  have h := run_make (P := Tryz.prog) wx 48 90 i0 _ Tryz.underlying48 hi hz0 .i64 .i64 (n : Int) (n : Int) (by omega) (by omega) (by rw [hz2]; omega) (by omega)
  rw [hz1] at h
  have e : (Value.agg #[.int .i64 0, .int .i64 0]).cells = #[.int .i64 0, .int .i64 0] := rfl
  rw [e, Int.toNat_natCast, pt_made] at h
  exact h
 clear hi hz0 hz1 hz2
 go_enter Tryz.func15, Tryz.ntmps15
 go_wp2_with fail
 go_loopw [4] (fun v4 wr => ∃ k : Nat, k ≤ n ∧ v4 = .int .i64 (k : Int) ∧ Owns wr w.heap.size 90 2 (.slice (some ⟨w.heap.size, 0, none⟩) n n) (ptR (l.take k) ++ List.replicate (n - k) ptZ) ∧ Below w.heap.size w wr) (fun i _ => n - (intOf i).toNat)
 case atStart =>
  refine ⟨0, by omega, rfl, ?_, (Below.refl _ _).alloc (Nat.le_refl _) _⟩
  rw [List.take_zero, Nat.sub_zero, show ptR [] = [] from rfl, List.nil_append]
  refine ⟨fun r hr => by rw [List.eq_of_mem_replicate hr]; rfl, ?_⟩
  have hz : ∀ r ∈ List.replicate n ptZ, r.length = 2 := fun r hr => by rw [List.eq_of_mem_replicate hr]; rfl
  have hl := flat_length 2 (List.replicate n ptZ) hz
  rw [List.length_replicate] at hl ⊢
  exact World.ownsRow_lit w (List.replicate n ptZ).flatten.toArray n (Nat.le_refl _) (by unfold maxLen; omega) (by simpa using hl)
 case round =>
  obtain ⟨k, hk, rfl, hO, hb⟩ := hrel
  have HO : Hid (Owns wr w.heap.size 90 2 (.slice (some ⟨w.heap.size, 0, none⟩) n n) (ptR (l.take k) ++ List.replicate (n - k) ptZ)) := hO
  have HB1 : Hid (Below w.heap.size w wr) := hb
  clear hO hb
  by_cases hlt : k < n
  ·have q4 : (k : Int) < (n : Int) := by omega
   obtain ⟨g, off, rfl, hg, hc0, hc1⟩ := HL.out k (by omega)
   have hgw : g < w.heap.size := Nat.lt_of_lt_of_le hg HB.out
   rw [← HB1.out.cell (p := ⟨_, _, none⟩) hgw] at hc0
   rw [← HB1.out.cell (p := ⟨_, _, none⟩) hgw] at hc1
   have c1 := fun wx => toPoint (l.getD k default) wx
   unfold vPt at c1
   generalize hx : l.getD k default = x at *
   have HX : Hid (l.getD k default = x) := hx
   clear hx
   go_wp2_with fail
   refine (c1 _).mono ?_
   rintro e w2 ⟨rfl, hb2⟩
   have hlen : (ptR (l.take k) ++ List.replicate (n - k) ptZ).length = n := by rw [List.length_append, List.length_replicate]; simp [ptR]; omega
   have hdl : (ptR (l.take k)).length = k := by simp [ptR]; omega
   have hO2 := HO.out.on hb2
   have hO3 := hO2
   rw [show (Value.slice (some ⟨w.heap.size, 0, none⟩) n n) = .slice (some ⟨w.heap.size, 0, none⟩) (ptR (l.take k) ++ List.replicate (n - k) ptZ).length n by rw [hlen]] at hO2
   obtain ⟨y0, d0⟩ := hO2.cellX k 0 (by rw [hlen]; exact hlt) (by omega)
   have f0 := hO2.free (k * 2)
   obtain ⟨y1, d1⟩ := hO2.cellX k 1 (by rw [hlen]; exact hlt) (by omega)
   have f1 := hO2.free (k * 2 + 1)
   rw [Nat.add_zero] at d0
   have hP := hO2.put2 k (by rw [hlen]; exact hlt) (.int .i64 x.t) (.int .i64 x.v)
   rw [hlen, fill_step _ _ _ n k hdl hlt, show ptR (l.take k) ++ [[.int .i64 x.t, .int .i64 x.v]] = ptR (l.take (k + 1)) by rw [ptR_snoc l k (by omega), HX.out]; rfl] at hP
   have HP : Hid (Owns (((w2).setCell ⟨w.heap.size, k * 2, none⟩ (.int .i64 x.t)).setCell ⟨w.heap.size, k * 2 + 1, none⟩ (.int .i64 x.v)) w.heap.size 90 2 (.slice (some ⟨w.heap.size, 0, none⟩) n n) (ptR (l.take (k + 1)) ++ List.replicate (n - (k + 1)) ptZ)) := hP
   have HB2 : Hid (Below w.heap.size w w2) := HB1.out.trans (hb2.mono HB1.out.size)
   clear hO2 hO3 hP hb2 hlen hdl
   go_wp2_with fail
   go_roundw
   case rel => exact ⟨k + 1, by omega, by go_num, HP.out, ((HB2.out).setCell (Nat.le_refl _) _).setCell (Nat.le_refl _) _⟩
   case measure => simp [intOf]; omega
  ·obtain rfl : k = n := by omega
   go_wp2_with fail
   go_ret
   refine ⟨_, rfl, ?_, HB1.out⟩
   have := HO.out
   rw [← hN, List.take_length, Nat.sub_self, List.replicate_zero, List.append_nil] at this
   rw [← hN]
   exact this
theorem below_alloc2 (w : World) (a b : Obj) : Below w.heap.size w ((w.alloc a).alloc b) := ((Below.refl _ w).alloc (Nat.le_refl _) a).alloc (by simp) b
set_option maxHeartbeats 400000 in
theorem eqPoint (x : Pnt) (w : World) : Calls Tryz.prog 60 #[vPt x, vPt x] w fun e w' => e = .returned (.bool true) ∧ Below w.heap.size w w' := by
 unfold vPt
 go_enter Tryz.func60, Tryz.ntmps60
 go_wp2
 go_ret
 exact ⟨rfl, below_alloc2 _ _ _⟩
set_option maxHeartbeats 1000000 in
theorem eqPointS (l : List Pnt) (va vb : Value) (w : World) (B : Nat) (ha : Lies w B 2 va (ptR l)) (hb : Lies w B 2 vb (ptR l)) (hn : l.length ≤ 1048576) (hB : B ≤ w.heap.size) :
  Calls Tryz.prog 18 #[va, vb] w fun e w' => e = .returned (.bool true) ∧ Below w.heap.size w w' := by
 obtain ⟨A, cap, rfl, hl⟩ := pt_look ha
 obtain ⟨A', cap', rfl, hl'⟩ := pt_look hb
 have HL : Hid (∀ j, j < l.length → ∃ g off, A = some ⟨g, off, none⟩ ∧ g < B ∧ _) := hl
 have HL' : Hid (∀ j, j < l.length → ∃ g off, A' = some ⟨g, off, none⟩ ∧ g < B ∧ _) := hl'
 have HB : Hid (B ≤ w.heap.size) := hB
 clear hl hl' hB ha hb
 have q1 : (l.length : Int) ≤ 1048576 := by omega
 generalize hN : l.length = n at *
 go_enter Tryz.func18, Tryz.ntmps18
 go_wp2_with fail
 go_loopw [5] (fun v5 wr => ∃ k : Nat, k ≤ n ∧ v5 = .int .i64 (k : Int) ∧ Below w.heap.size w wr) (fun i _ => n - (intOf i).toNat)
 case atStart => exact ⟨0, by omega, rfl, Below.refl _ _⟩
 case round =>
  obtain ⟨k, hk, rfl, hb⟩ := hrel
  have HB1 : Hid (Below w.heap.size w wr) := hb
  clear hb
  by_cases hlt : k < n
  ·have q4 : (k : Int) < (n : Int) := by omega
   obtain ⟨g, off, rfl, hg, ha0, ha1⟩ := HL.out k hlt
   obtain ⟨g', off', rfl, hg', hb0, hb1⟩ := HL'.out k hlt
   have hgw : g < w.heap.size := Nat.lt_of_lt_of_le hg HB.out
   have hgw' : g' < w.heap.size := Nat.lt_of_lt_of_le hg' HB.out
   rw [← HB1.out.cell (p := ⟨_, _, none⟩) hgw] at ha0
   rw [← HB1.out.cell (p := ⟨_, _, none⟩) hgw'] at hb0
   rw [← HB1.out.cell (p := ⟨_, _, none⟩) hgw] at ha1
   rw [← HB1.out.cell (p := ⟨_, _, none⟩) hgw'] at hb1
   have c1 := fun wx => eqPoint (l.getD k default) wx
   unfold vPt at c1
   generalize l.getD k default = x at *
   have hsz := HB1.out.size
   go_wp2_with fail
   go_region_with (go_at_call 60; refine (c1 _).mono ?_; rintro e w1 ⟨rfl, hb1⟩)
   all_goals go_wp2_with fail
   all_goals exact ⟨⟨k + 1, by omega, by go_num, HB1.out.trans (((Below.refl _ wr).drew.trans hb1).mono hsz)⟩, by simp [intOf]; omega⟩
  ·obtain rfl : k = n := by omega
   go_wp2_with fail
   go_ret
   exact ⟨rfl, HB1.out⟩
def mkPt (k j : Nat) : List Value := [.int .i64 ((k + 2 * j : Nat) : Int), .int .i64 (((k + 2 * j : Nat) : Int) + 1)]
set_option maxHeartbeats 2000000 in
theorem markPointS (k base : Nat) (v : Value) (R : List (List Value)) (w : World) (hv : Owns w base 90 2 v R) (hl : R.length ≤ 2097152) (h2 : k ≤ 10000000) :
  Calls Tryz.prog 20 #[v, .int .i64 (k : Int)] w fun e w' => e = .returned (.int .i64 ((k + 2 * R.length : Nat) : Int)) ∧ Owns w' base 90 2 v (newR (mkPt k) R.length) ∧ Below base w w' ∧ (∀ g, v.ownBlock ≠ some g → w'.heap[g]? = w.heap[g]?) := by
 obtain ⟨A, ca, rfl⟩ : ∃ A ca, v = .slice A R.length ca := by
  rcases hv.2.2 with ⟨rfl, h0⟩ | ⟨g, c, cur, rfl, _⟩
  ·exact ⟨none, 0, by rw [h0]⟩
  ·exact ⟨_, _, rfl⟩
 have HV : Hid (Owns w base 90 2 (.slice A R.length ca) R) := hv
 have q1 : (R.length : Int) ≤ 2097152 := by omega
 have q3 : (k : Int) ≤ 10000000 := by omega
 clear hv hl
 generalize hn : R.length = n at *
 go_enter Tryz.func20, Tryz.ntmps20
 go_wp2_with fail
 go_loopw [1, 5] (fun v1 v5 wr => ∃ j : Nat, j ≤ n ∧ v5 = .int .i64 (j : Int) ∧ v1 = .int .i64 ((k + 2 * j : Nat) : Int) ∧ Owns wr base 90 2 (.slice A n ca) (partR (mkPt k) R j) ∧ Below base w wr ∧ (∀ g, (Value.slice A n ca).ownBlock ≠ some g → wr.heap[g]? = w.heap[g]?)) (fun _ i _ => n - (intOf i).toNat)
 case atStart => exact ⟨0, by omega, rfl, by simp, by rw [partR_zero]; exact HV.out, Below.refl _ _, fun _ _ => rfl⟩
 case round =>
  obtain ⟨j, hj, rfl, rfl, hS, hB, hK⟩ := hrel
  have HS : Hid (Owns wr base 90 2 (.slice A n ca) (partR (mkPt k) R j)) := hS
  have HB : Hid (Below base w wr) := hB
  have HK : Hid (∀ g, (Value.slice A n ca).ownBlock ≠ some g → wr.heap[g]? = w.heap[g]?) := hK
  clear hS hB hK
  by_cases hlt : j < n
  ·have q2 : (j : Int) < (n : Int) := by omega
   obtain ⟨g, rfl, hgb⟩ : ∃ g, A = some ⟨g, 0, none⟩ ∧ base ≤ g := by
    rcases HS.out.2.2 with ⟨e, h0⟩ | ⟨g, c, cur, e, hg, _⟩
    ·rw [partR_length _ _ _ (by omega), hn] at h0; omega
    ·cases e; exact ⟨g, rfl, hg⟩
   have HG : Hid (base ≤ g) := hgb
   have hpl : (partR (mkPt k) R j).length = n := by rw [partR_length _ _ _ (by omega), hn]
   have hO := HS.out
   rw [show (Value.slice (some ⟨g, 0, none⟩) n ca) = .slice (some ⟨g, 0, none⟩) (partR (mkPt k) R j).length ca by rw [hpl]] at hO
   obtain ⟨y0, d0⟩ := hO.cellX j 0 (by rw [hpl]; exact hlt) (by omega)
   have f0 := hO.free (j * 2)
   obtain ⟨y1, d1⟩ := hO.cellX j 1 (by rw [hpl]; exact hlt) (by omega)
   have f1 := hO.free (j * 2 + 1)
   rw [Nat.add_zero] at d0
   have hP := hO.put2 j (by rw [hpl]; exact hlt) (.int .i64 ((k + 2 * j : Nat) : Int)) (.int .i64 (((k + 2 * j : Nat) : Int) + 1))
   rw [hpl, show [Value.int .i64 ((k + 2 * j : Nat) : Int), .int .i64 (((k + 2 * j : Nat) : Int) + 1)] = mkPt k j from rfl, partR_set _ _ _ (by omega)] at hP
   have HM : Hid (((k + 2 * (j + 1) : Nat) : Int) = ((k + 2 * j : Nat) : Int) + 2) := by unfold Hid; omega
   have q4 : ((k + 2 * j : Nat) : Int) ≤ 20000000 := by omega
   generalize k + 2 * j = m at *
   have HP : Hid (Owns ((wr.setCell ⟨g, j * 2, none⟩ (.int .i64 (m : Int))).setCell ⟨g, j * 2 + 1, none⟩ (.int .i64 ((m : Int) + 1))) base 90 2 (.slice (some ⟨g, 0, none⟩) n ca) (partR (mkPt k) R (j + 1))) := hP
   have HD : Hid (Below base w ((wr.setCell ⟨g, j * 2, none⟩ (.int .i64 (m : Int))).setCell ⟨g, j * 2 + 1, none⟩ (.int .i64 ((m : Int) + 1)))) := (HB.out.setCell (show base ≤ g from HG.out) _).setCell (show base ≤ g from HG.out) _
   have HE : Hid (∀ b, (Value.slice (some ⟨g, 0, none⟩) n ca).ownBlock ≠ some b → ((wr.setCell ⟨g, j * 2, none⟩ (.int .i64 (m : Int))).setCell ⟨g, j * 2 + 1, none⟩ (.int .i64 ((m : Int) + 1))).heap[b]? = w.heap[b]?) := fun b hne => by
    rw [Below.heap_setCell _ _ _ _ (show b ≠ g from fun e => hne (by rw [e]; rfl)), Below.heap_setCell _ _ _ _ (show b ≠ g from fun e => hne (by rw [e]; rfl))]
    exact HK.out b hne
   clear hO hP hpl
   go_wp2_with fail
   go_roundw
   case rel => exact ⟨j + 1, by omega, by go_num, by rw [HM.out]; go_num, HP.out, HD.out, HE.out⟩
   case measure => simp [intOf]; omega
  ·obtain rfl : j = n := by omega
   go_wp2_with fail
   go_ret
   refine ⟨rfl, ?_, HB.out, HK.out⟩
   have := HS.out
   rw [← hn, partR_all] at this
   rw [← hn]
   exact this
theorem mkPt_look {w : World} {B k n : Nat} {v : Value} (h : Lies w B 2 v (newR (mkPt k) n)) : ∃ A cap, v = .slice A n cap ∧ ∀ j, j < n → ∃ g off, A = some ⟨g, off, none⟩ ∧ g < B ∧ w.cell? ⟨g, off + j * 2, none⟩ = some (.int .i64 (((k + 2 * j : Nat) : Int))) ∧ w.cell? ⟨g, off + j * 2 + 1, none⟩ = some (.int .i64 (((k + 2 * j : Nat) : Int) + 1)) := by
 obtain ⟨A, cap, e, h⟩ := h.look
 rw [newR_length] at e
 refine ⟨A, cap, e, fun j hj => ?_⟩
 obtain ⟨g, off, e, hg, hc⟩ := h j (by rw [newR_length]; exact hj)
 have hr : (newR (mkPt k) n)[j]'(by rw [newR_length]; exact hj) = mkPt k j := by simp [newR]
 rw [hr] at hc
 refine ⟨g, off, e, hg, ?_, ?_⟩
 ·have := hc 0 _ (by omega) rfl; simpa [Nat.add_assoc] using this
 ·have := hc 1 _ (by omega) rfl; simpa [Nat.add_assoc] using this
set_option maxHeartbeats 2000000 in
theorem heldPointS (k n : Nat) (v : Value) (w : World) (B : Nat) (hv : Lies w B 2 v (newR (mkPt k) n)) (hl : n ≤ 2097152) (h2 : k ≤ 10000000) :
  Calls Tryz.prog 97 #[v, .int .i64 (k : Int)] w fun e w' => e = .returned (.int .i64 ((k + 2 * n : Nat) : Int)) ∧ w = w' := by
 obtain ⟨A, ca, rfl, hl'⟩ := mkPt_look hv
 have HL : Hid (∀ j, j < n → ∃ g off, A = some ⟨g, off, none⟩ ∧ g < B ∧ _) := hl'
 have q1 : (n : Int) ≤ 2097152 := by omega
 have q3 : (k : Int) ≤ 10000000 := by omega
 clear hv hl hl'
 go_enter Tryz.func97, Tryz.ntmps97
 go_wp2
 go_loop [1, 5] (fun v1 v5 => ∃ j : Nat, j ≤ n ∧ v5 = .int .i64 (j : Int) ∧ v1 = .int .i64 ((k + 2 * j : Nat) : Int)) (fun _ i => n - (intOf i).toNat)
 case atStart => exact ⟨0, by omega, rfl, by simp⟩
 case round =>
  obtain ⟨j, hj, rfl, rfl⟩ := hrel
  by_cases hlt : j < n
  ·have q2 : (j : Int) < (n : Int) := by omega
   obtain ⟨g, off, rfl, hg, d0, d1⟩ := HL.out j hlt
   have HM : Hid (((k + 2 * (j + 1) : Nat) : Int) = ((k + 2 * j : Nat) : Int) + 2) := by unfold Hid; omega
   have q4 : ((k + 2 * j : Nat) : Int) ≤ 20000000 := by omega
   generalize k + 2 * j = m at *
   go_wp2
   go_round
   case rel => exact ⟨j + 1, by omega, by go_num, by rw [HM.out]; go_num⟩
   case measure => simp [intOf]; omega
  ·obtain rfl : j = n := by omega
   go_wp2
   go_ret
   exact ⟨rfl, rfl⟩
end Go.Proofs.YtikknmoeefipmaaGreatDoor
namespace Go.Proofs.YtikknmoeefipmaaGreatDoor
open Go.ChangeShapes Go.WideShapes Go.ChangeAt Go.RowKit Go.PlainAid
set_option linter.unusedVariables false
def Apart (u v : Value) : Prop := ∀ g, u.ownBlock = some g → v.ownBlock ≠ some g
theorem Apart.symm {u v : Value} (h : Apart u v) : Apart v u := fun g h1 h2 => h g h2 h1
theorem Apart.of {w w' : World} {b : Nat} {e : TypeId} {sz : Nat} {u v : Value} {r r' : List (List Value)} (h : Owns w b e sz u r) (h' : Owns w' w.heap.size e sz v r') : Apart u v := fun g h1 h2 => by
 have := (h.lt g h1).2
 have := (h'.lt g h2).1
 omega
section
variable {H : Type} {enc : TypeId × Value → H} {P : Program} {w : World} {base : Nat} {spare : Nat → Bool} {held : Bool}
theorem open_rows {α : Type} [Inhabited α] {t e : TypeId} {fuel : Nat} {v : Value} {x : DataW H × List MemPlace} (ht : P.underlying t = some (.slice e)) (sz : Nat) (hsz : P.cellsOf e = sz) (hpos : 0 < sz) (C : α → List Value) (hC : ∀ y, (C y).length = sz) (G : α → Prop)
  (hel : ∀ n cs y, DataW.trod enc P w base spare held n e cs = some y → ∃ z, cs = C z ∧ G z)
  (h : DataW.trod enc P w base spare held fuel t [v] = some x) : ∃ l : List α, Lies w w.heap.size sz v (l.map C) ∧ l.length ≤ maxLen ∧ ∀ z ∈ l, G z := by
 rcases Go.Deep.open_slice ht h with ⟨hv, _⟩ | ⟨a, len, cap, m, n, D, Pl, hv, hb, hl, hm, hmm, _, hx⟩
 ·obtain rfl : v = .slice none 0 0 := by simpa using hv
  exact ⟨[], ⟨none, 0, rfl, ⟨fun _ => rfl, Nat.le_refl _⟩, fun r hr => (by cases hr), .inl rfl⟩, Nat.zero_le _, fun z hz => (by cases hz)⟩
 ·obtain rfl : v = .slice (some a) len cap := by simpa using hv
  have hlm : len ≤ m := by rw [hmm]; split <;> omega
  have hp : ∀ i, i < len → ∃ z, (∀ f, f < sz → w.cell? (a.add (i * sz + f)) = (C z)[f]?) ∧ G z := fun i hi => by
   obtain ⟨cs', h1, h2⟩ := hx i (by omega)
   obtain ⟨_, hlen, hc⟩ := World.cells?_some h1
   obtain ⟨z, rfl, hg⟩ := hel n cs' _ h2
   refine ⟨z, fun f hf => ?_, hg⟩
   have := hc f (by rw [hsz]; exact hf)
   rw [hsz, Go.Deep.add_add] at this
   exact this
  obtain ⟨X, hX⟩ := Go.Deep.choose_lt (α := α) (p := fun i z => (∀ f, f < sz → w.cell? (a.add (i * sz + f)) = (C z)[f]?) ∧ G z) hp
  have hll : ((List.range len).map X).length = len := by simp
  refine ⟨(List.range len).map X, ⟨some a, cap, by simp, ⟨fun e => (by cases e), by simpa using hl⟩, fun r hr => ?_, ?_⟩, by rw [hll]; omega, fun z hz => ?_⟩
  ·obtain ⟨y, _, rfl⟩ := List.mem_map.1 hr
   exact hC y
  ·by_cases h0 : len = 0
   ·exact .inl (by simp [h0])
   ·right
    obtain ⟨b, off, spot⟩ := a
    have hc0 := (hX 0 (by omega)).1 0 hpos
    have hlt0 : 0 < (C (X 0)).length := by rw [hC]; exact hpos
    rw [List.getElem?_eq_getElem hlt0] at hc0
    have hspot : spot = none := by simpa [Addr.add] using World.cell?_spot hc0
    subst hspot
    have hadd : ∀ j, (⟨b, off, none⟩ : Addr).add j = ⟨b, off + j, none⟩ := by intro j; cases j <;> simp [Addr.add]
    refine ⟨b, off, rfl, ?_, fun k x hk => ?_⟩
    ·rw [hadd] at hc0
     rcases Nat.lt_or_ge b w.heap.size with h | h
     ·exact h
     ·simp [World.cell?, Array.getElem?_eq_none h] at hc0
    ·have hkl : k < (((List.range len).map X).map C).flatten.length := (List.getElem?_eq_some_iff.1 hk).1
     have hrow : ∀ r ∈ ((List.range len).map X).map C, r.length = sz := fun r hr => by
      obtain ⟨y, _, rfl⟩ := List.mem_map.1 hr
      exact hC y
     rw [flat_length sz _ hrow, List.length_map, hll] at hkl
     have hdiv : k / sz < len := (Nat.div_lt_iff_lt_mul hpos).2 hkl
     have hmod : k % sz < sz := Nat.mod_lt _ hpos
     have hke : k / sz * sz + k % sz = k := by rw [Nat.mul_comm]; exact Nat.div_add_mod k sz
     have hfa := flat_at sz (((List.range len).map X).map C) hrow (k / sz) (k % sz) (by rw [List.length_map, hll]; exact hdiv) hmod
     rw [hke, hk] at hfa
     have hcx := (hX (k / sz) hdiv).1 (k % sz) hmod
     rw [hke, hadd] at hcx
     rw [hcx, hfa]
     simp
  ·obtain ⟨i, hi, rfl⟩ := List.mem_map.1 hz
   exact (hX i (by simpa using hi)).2
end
theorem list2 {α : Type} {l : List α} (h : l.length = 2) : ∃ a b, l = [a, b] := by
 match l, h with
 | [a, b], _ => exact ⟨a, b, rfl⟩
def IntOk (x : Int) : Prop := -9223372036854775808 ≤ x ∧ x ≤ 9223372036854775807
theorem cPt : Tryz.prog.cellsOf 92 = 2 := by kernel_rfl
section
variable {H : Type} {enc : TypeId × Value → H} {w : World} {base : Nat} {spare : Nat → Bool} {held : Bool}
set_option maxRecDepth 100000 in
theorem open_pt (n : Nat) (cs : List Value) (y : DataW H × List MemPlace) (h : DataW.trod enc Tryz.prog w base spare held n 92 cs = some y) : ∃ z : Pnt, cs = ptC z ∧ (IntOk z.t ∧ IntOk z.v) := by
 obtain ⟨xs, m, _, _, hl, hlen, hf⟩ := DataW.trod_struct Tryz.underlying92 h
 rw [cPt] at hl
 obtain ⟨a, b, rfl⟩ := list2 hl
 obtain ⟨x0, x1, rfl⟩ := list2 (show xs.length = 2 from hlen)
 have f0 := hf 0 _ rfl
 have f1 := hf 1 _ rfl
 simp only [List.getElem?_cons_zero, List.getElem?_cons_succ] at f0 f1
 obtain ⟨i0, e0, _, h0⟩ := DataW.trod_int Tryz.underlying3 f0
 obtain ⟨i1, e1, _, h1⟩ := DataW.trod_int Tryz.underlying3 f1
 cases e0
 cases e1
 exact ⟨⟨i0, i1⟩, rfl, bounds_i64 h0, bounds_i64 h1⟩
set_option maxRecDepth 100000 in
theorem open_pts {r : Reach} {b0 : Nat} {v : Value} {dd : DataW H} {ps : List MemPlace} (hval : Value.okWide Tryz.prog w r b0 42 v) (hd : DataW.Trod enc Tryz.prog w base spare held 42 v dd ps) : ∃ l : List Pnt, Lies w w.heap.size 2 v (ptR l) ∧ l.length ≤ maxLen := by
 obtain ⟨a0, len0, cap0, rfl⟩ := okWide_slice Tryz.underlying42 hval
 obtain ⟨fuel, hf⟩ := hd
 obtain ⟨ls, l1, l2, _⟩ := open_rows Tryz.underlying42 2 cPt (by omega) ptC (fun _ => rfl) _ open_pt hf
 exact ⟨ls, l1, l2⟩
end
end Go.Proofs.YtikknmoeefipmaaGreatDoor
namespace Go.Proofs.YtikknmoeefipmaaGreatDoor
open Go.RowKit Go.PlainAid
structure Ser where
 key : ByteArray
 pts : List Pnt
instance : Inhabited Ser := ⟨⟨⟨#[]⟩, []⟩⟩
theorem Ser.same {x y : Ser} (h1 : x.key = y.key) (h2 : x.pts = y.pts) : x = y := by
 cases x
 cases y
 simp only at h1 h2
 subst h1
 subst h2
 rfl
instance : Inhabited (Ser × Value) := ⟨⟨default, .slice none 0 0⟩⟩
def srC (p : Ser × Value) : List Value := [.string p.1.key, p.2]
def srR (L : List (Ser × Value)) : List (List Value) := L.map srC
theorem srR_length (L : List (Ser × Value)) : (srR L).length = L.length := by simp [srR]
theorem srR_append (L M : List (Ser × Value)) : srR (L ++ M) = srR L ++ srR M := by simp [srR]
theorem srR_sz (L : List (Ser × Value)) : ∀ r ∈ srR L, r.length = 2 := by
 intro r hr
 obtain ⟨x, _, rfl⟩ := List.mem_map.1 hr
 rfl
theorem sr_look {w : World} {B : Nat} {v : Value} {L : List (Ser × Value)} (h : Lies w B 2 v (srR L)) : ∃ A cap, v = .slice A L.length cap ∧ ∀ j, j < L.length → ∃ g off, A = some ⟨g, off, none⟩ ∧ g < B ∧
  w.cell? ⟨g, off + j * 2, none⟩ = some (.string (L.getD j default).1.key) ∧ w.cell? ⟨g, off + j * 2 + 1, none⟩ = some (L.getD j default).2 := by
 obtain ⟨A, cap, e, h⟩ := h.look
 refine ⟨A, cap, by rw [e]; simp [srR], fun j hj => ?_⟩
 rw [← getD_at L j hj]
 obtain ⟨g, off, e, hg, hc⟩ := h j (by simpa [srR] using hj)
 refine ⟨g, off, e, hg, ?_, ?_⟩
 ·have := hc 0 _ (by omega) (by simp [srR, srC]; rfl); simpa [Nat.add_assoc] using this
 ·have := hc 1 _ (by omega) (by simp [srR, srC]; rfl); simpa [Nat.add_assoc] using this
def SerL (w : World) (B : Nat) (v : Value) (L : List (Ser × Value)) : Prop := Lies w B 2 v (srR L) ∧ ∀ p ∈ L, Lies w B 2 p.2 (ptR p.1.pts)
theorem SerL.on {w w' : World} {B : Nat} {v : Value} {L : List (Ser × Value)} (h : SerL w B v L) (hb : Below B w w') : SerL w' B v L := ⟨h.1.on hb, fun p hp => (h.2 p hp).on hb⟩
theorem SerL.mono {w : World} {B C : Nat} {v : Value} {L : List (Ser × Value)} (h : SerL w B v L) (hB : B ≤ C) : SerL w C v L := ⟨h.1.mono hB, fun p hp => (h.2 p hp).mono hB⟩
theorem SerL.heap {w w' : World} {B : Nat} {v : Value} {L : List (Ser × Value)} (h : SerL w B v L) (hh : w'.heap = w.heap) : SerL w' B v L := ⟨h.1.heap hh, fun p hp => (h.2 p hp).heap hh⟩
def SerV (w : World) (B : Nat) (v : Value) (l : List Ser) : Prop := ∃ L : List (Ser × Value), L.map Prod.fst = l ∧ SerL w B v L
theorem SerV.on {w w' : World} {B : Nat} {v : Value} {l : List Ser} (h : SerV w B v l) (hb : Below B w w') : SerV w' B v l := h.imp fun _ h => ⟨h.1, h.2.on hb⟩
theorem SerV.mono {w : World} {B C : Nat} {v : Value} {l : List Ser} (h : SerV w B v l) (hB : B ≤ C) : SerV w C v l := h.imp fun _ h => ⟨h.1, h.2.mono hB⟩
theorem SerV.heap {w w' : World} {B : Nat} {v : Value} {l : List Ser} (h : SerV w B v l) (hh : w'.heap = w.heap) : SerV w' B v l := h.imp fun _ h => ⟨h.1, h.2.heap hh⟩
theorem SerV.look {w : World} {B : Nat} {v : Value} {l : List Ser} (h : SerV w B v l) : ∃ A cap, v = .slice A l.length cap ∧ ∀ j, j < l.length → ∃ g off u, A = some ⟨g, off, none⟩ ∧ g < B ∧
  w.cell? ⟨g, off + j * 2, none⟩ = some (.string (l.getD j default).key) ∧ w.cell? ⟨g, off + j * 2 + 1, none⟩ = some u ∧ Lies w B 2 u (ptR (l.getD j default).pts) := by
 obtain ⟨L, rfl, h, hp⟩ := h
 obtain ⟨A, cap, e, hl⟩ := sr_look h
 refine ⟨A, cap, by rw [e]; simp, fun j hj => ?_⟩
 have hj' : j < L.length := by simpa using hj
 obtain ⟨g, off, e, hg, h1, h2⟩ := hl j hj'
 have hd : (L.map Prod.fst).getD j default = (L.getD j default).1 := by rw [← getD_at _ j hj, ← getD_at _ j hj', List.getElem_map]
 rw [hd]
 exact ⟨g, off, _, e, hg, h1, h2, hp _ (getD_mem L j hj')⟩
def SerO (w : World) (base : Nat) (v : Value) (L : List (Ser × Value)) : Prop := Owns w base 98 2 v (srR L) ∧ (∀ p ∈ L, Owns w base 90 2 p.2 (ptR p.1.pts)) ∧ L.Pairwise fun p q => Apart p.2 q.2
theorem SerO.lies {w : World} {base : Nat} {v : Value} {L : List (Ser × Value)} (h : SerO w base v L) : SerL w w.heap.size v L := ⟨h.1.lies, fun p hp => (h.2.1 p hp).lies⟩
theorem SerO.view {w : World} {base : Nat} {v : Value} {L : List (Ser × Value)} (h : SerO w base v L) : SerV w w.heap.size v (L.map Prod.fst) := ⟨L, rfl, h.lies⟩
theorem SerO.on {w w' : World} {base : Nat} {v : Value} {L : List (Ser × Value)} (h : SerO w base v L) (hb : Below w.heap.size w w') : SerO w' base v L := ⟨h.1.on hb, fun p hp => (h.2.1 p hp).on hb, h.2.2⟩
theorem SerO.mono {w : World} {base base' : Nat} {v : Value} {L : List (Ser × Value)} (h : SerO w base v L) (hb : base' ≤ base) : SerO w base' v L := ⟨h.1.mono hb, fun p hp => (h.2.1 p hp).mono hb, h.2.2⟩
theorem Owns.apartT {w : World} {b b' : Nat} {e e' : TypeId} {sz sz' : Nat} {u v : Value} {r r' : List (List Value)} (h : Owns w b e sz u r) (h' : Owns w b' e' sz' v r') (hne : e ≠ e') : Apart u v := fun g h1 h2 => by
 rcases h.2.2 with ⟨rfl, _⟩ | ⟨g1, c1, cur1, rfl, _, k1, _⟩
 ·cases h1
 rcases h'.2.2 with ⟨rfl, _⟩ | ⟨g2, c2, cur2, rfl, _, k2, _⟩
 ·cases h2
 cases h1
 cases h2
 rw [k1] at k2
 cases k2
 exact hne rfl
def srZ : List Value := [.string ⟨#[]⟩, .slice none 0 0]
def vSr (k : ByteArray) (u : Value) : Value := .agg #[.string k, u]
end Go.Proofs.YtikknmoeefipmaaGreatDoor
namespace Go.Proofs.YtikknmoeefipmaaGreatDoor
open Go.RowKit Go.PlainAid
def strCells (l : List ByteArray) : List Value := l.map Value.string
def Strs (w : World) (base : Nat) (v : Value) (l : List ByteArray) : Prop := w.ownsRow base 9 1 v l.length (strCells l)
theorem Strs.nil (w : World) (base : Nat) : Strs w base (.slice none 0 0) [] := World.ownsRow_nil w base 9 1
theorem Strs.empty (w : World) (base : Nat) (hb : base ≤ w.heap.size) : Strs (w.alloc (.cells #[] 9)) base (.slice (some ⟨w.heap.size, 0, none⟩) 0 0) [] :=
 World.ownsRow_lit w #[] 0 hb (by unfold maxLen; omega) rfl
theorem Strs.mono {w : World} {base base' : Nat} {v : Value} {l : List ByteArray} (h : Strs w base v l) (hb : base' ≤ base) : Strs w base' v l :=
 ⟨h.1, h.2.imp id fun ⟨g, cap, cur, e, hg, r⟩ => ⟨g, cap, cur, e, Nat.le_trans hb hg, r⟩⟩
theorem Strs.kept {w w' : World} {base : Nat} {v : Value} {l : List ByteArray} (h : Strs w base v l) (hk : ∀ g, g < w.heap.size → v.ownBlock = some g → w'.heap[g]? = w.heap[g]?) : Strs w' base v l := by
 have hl := World.ownsRow.lt h
 refine ⟨h.1, h.2.imp id ?_⟩
 rintro ⟨g, cap, cur, rfl, hg, hh, r⟩
 refine ⟨g, cap, cur, rfl, hg, ?_, r⟩
 rw [hk g (hl g rfl).2 rfl]
 exact hh
theorem Strs.on {w w' : World} {base : Nat} {v : Value} {l : List ByteArray} (h : Strs w base v l) (hb : Below w.heap.size w w') : Strs w' base v l := h.kept fun g hg _ => hb.block g hg
theorem Strs.under {w w' : World} {base B : Nat} {v : Value} {l : List ByteArray} (h : Strs w base v l) (hB : w.heap.size ≤ B) (hb : Below B w w') : Strs w' base v l := h.kept fun g hg _ => hb.block g (Nat.lt_of_lt_of_le hg hB)
theorem Strs.alloc {w : World} {base : Nat} {v : Value} {l : List ByteArray} (h : Strs w base v l) (o : Obj) : Strs (w.alloc o) base v l := World.ownsRow.alloc h o
theorem Strs.form {w : World} {base : Nat} {v : Value} {l : List ByteArray} (h : Strs w base v l) : (v = .slice none 0 0 ∧ l = []) ∨ ∃ g cap, v = .slice (some ⟨g, 0, none⟩) l.length cap ∧ base ≤ g ∧ g < w.heap.size := by
 have hl := World.ownsRow.lt h
 rcases h.2 with ⟨rfl, h0⟩ | ⟨g, cap, cur, rfl, hg, _⟩
 ·exact .inl ⟨rfl, List.eq_nil_of_length_eq_zero h0⟩
 ·exact .inr ⟨g, cap, rfl, hg, (hl g rfl).2⟩
theorem Strs.cell {w : World} {base g cap : Nat} {l : List ByteArray} (h : Strs w base (.slice (some ⟨g, 0, none⟩) l.length cap) l) (j : Nat) (hj : j < l.length) : w.cell? ⟨g, j, none⟩ = some (.string l[j]) := by
 rw [World.ownsRow.cellAt h j (by omega)]
 simp [strCells, hj]
theorem Strs.frozen {w : World} {base g cap : Nat} {l : List ByteArray} (h : Strs w base (.slice (some ⟨g, 0, none⟩) l.length cap) l) (j : Nat) : w.frozen? ⟨g, j, none⟩ = false := World.ownsRow.frozenAt h j
theorem Strs.stored {w : World} {base g cap : Nat} {l : List ByteArray} (h : Strs w base (.slice (some ⟨g, 0, none⟩) l.length cap) l) (j : Nat) (x : ByteArray) :
  Strs (w.setCell ⟨g, j, none⟩ (.string x)) base (.slice (some ⟨g, 0, none⟩) l.length cap) (l.set j x) := by
 have hs := (World.ownsRow.stored h j (.string x)).1
 unfold Strs
 rw [List.length_set, strCells, List.map_set]
 exact hs
def dg : Nat → Nat → List UInt8
 | 0, _ => []
 | f + 1, n => if n = 0 then [] else dg f (n / 10) ++ [byt (48 + n % 10)]
theorem dg_zero (f : Nat) : dg f 0 = [] := by
 cases f with
 | zero => rfl
 | succ f => rw [dg, if_pos rfl]
def mark (k : Nat) : ByteArray := txt (109 :: dg 20 k)
def marks (k : Nat) : Nat → List ByteArray
 | 0 => []
 | n + 1 => marks k n ++ [mark (k + n)]
theorem marks_length (k n : Nat) : (marks k n).length = n := by
 induction n with
 | zero => rfl
 | succ n ih => rw [marks, List.length_append, ih]; rfl
theorem marks_succ (k n : Nat) : marks k (n + 1) = marks k n ++ [mark (k + n)] := by rw [marks]
theorem marks_get (k n : Nat) : ∀ j (h : j < (marks k n).length), (marks k n)[j] = mark (k + j) := by
 induction n with
 | zero => intro j h; simp [marks] at h
 | succ n ih =>
  intro j h
  simp only [marks]
  rw [List.getElem_append]
  split
  ·rename_i h'
   exact ih j h'
  ·rename_i h'
   rw [marks_length] at h'
   rw [marks_length] at h
   have : j = n := by omega
   subst this
   simp [marks_length]
def marked (k : Nat) (l : List ByteArray) (j : Nat) : List ByteArray := marks k j ++ l.drop j
theorem marked_zero (k : Nat) (l : List ByteArray) : marked k l 0 = l := by simp [marked, marks]
theorem marked_length (k : Nat) (l : List ByteArray) (j : Nat) (h : j ≤ l.length) : (marked k l j).length = l.length := by
 simp [marked, marks_length]
 omega
theorem marked_set (k : Nat) (l : List ByteArray) (j : Nat) (h : j < l.length) : (marked k l j).set j (mark (k + j)) = marked k l (j + 1) := by
 unfold marked
 rw [List.set_append_right _ _ (by rw [marks_length]; omega), marks_length, Nat.sub_self, List.drop_eq_getElem_cons h, List.set_cons_zero, marks_succ]
 simp
theorem marked_all (k : Nat) (l : List ByteArray) : marked k l l.length = marks k l.length := by simp [marked]
end Go.Proofs.YtikknmoeefipmaaGreatDoor
namespace Go.Proofs.YtikknmoeefipmaaGreatDoor
open Go.ChangeShapes Go.WideShapes Go.ChangeAt Go.RowKit Go.PlainAid
set_option linter.unusedVariables false
theorem cSr : Tryz.prog.cellsOf 128 = 2 := by kernel_rfl
def SFits (l : List Ser) : Prop := l.length ≤ maxLen ∧ ∀ x ∈ l, x.key.size ≤ maxLen ∧ x.pts.length ≤ maxLen
section
variable {H : Type} {enc : TypeId × Value → H} {w : World} {base : Nat} {spare : Nat → Bool} {held : Bool}
set_option maxRecDepth 100000 in
theorem open_sr (n : Nat) (cs : List Value) (y : DataW H × List MemPlace) (h : DataW.trod enc Tryz.prog w base spare held n 128 cs = some y) : ∃ z : Ser × Value, cs = srC z ∧ (Lies w w.heap.size 2 z.2 (ptR z.1.pts) ∧ z.1.key.size ≤ maxLen ∧ z.1.pts.length ≤ maxLen) := by
 obtain ⟨xs, m, _, _, hl, hlen, hf⟩ := DataW.trod_struct Tryz.underlying128 h
 rw [cSr] at hl
 obtain ⟨a, b, rfl⟩ := list2 hl
 obtain ⟨x0, x1, rfl⟩ := list2 (show xs.length = 2 from hlen)
 have f0 := hf 0 _ rfl
 have f1 := hf 1 _ rfl
 simp only [List.getElem?_cons_zero, List.getElem?_cons_succ] at f0 f1
 obtain ⟨s0, e0, _, hs⟩ := DataW.trod_string Tryz.underlying9 f0
 cases e0
 obtain ⟨ls, l1, l2, _⟩ := open_rows Tryz.underlying42 2 cPt (by omega) ptC (fun _ => rfl) _ open_pt f1
 exact ⟨⟨⟨s0, ls⟩, b⟩, rfl, l1, hs, l2⟩
end
end Go.Proofs.YtikknmoeefipmaaGreatDoor
