/- PtSlice -/
import Derived.Test.YtpmgndgkmffcnaaGreatDoorRows
import Derived.Test.YtpmgndgkmffcnaaGreatDoorQd8
import Derived.Test.YtpmgndgkmffcnaaGreatDoorQd3
import Derived.Handy
import Derived.Deep.RegionHeld3
namespace Go.Proofs.YtpmgndgkmffcnaaGreatDoor
open Go.ChangeShapes Go.WideShapes Go.ChangeAt Go.RowKit Go.PlainAid
set_option linter.unusedVariables false
def inP (a b : Int) (p : Pnt) : Bool := decide (a ≤ p.t) && decide (p.t < b)
theorem filter_snoc (l : List Pnt) (f : Pnt → Bool) (k : Nat) (h : k < l.length) : (l.take (k + 1)).filter f = if f (l.getD k default) then (l.take k).filter f ++ [l.getD k default] else (l.take k).filter f := by
 rw [take_getD l k h, List.filter_append]
 by_cases hf : f (l.getD k default) = true
 ·rw [if_pos hf, List.filter_cons, if_pos hf, List.filter_nil]
 ·rw [if_neg hf, List.filter_cons, if_neg hf, List.filter_nil, List.append_nil]
theorem ptR_snoc' (l : List Pnt) (p : Pnt) : ptR (l ++ [p]) = ptR l ++ [[.int .i64 p.t, .int .i64 p.v]] := ptR_append l [p]
theorem pt_cells (x y : Int) : ∀ u ∈ ([.int .i64 x, .int .i64 y] : List Value), u.oneCell' = true := by
 intro u hu
 simp at hu
 rcases hu with rfl | rfl <;> rfl
set_option maxHeartbeats 2000000 in
theorem specSliceL (l : List Pnt) (a b : Int) (v : Value) (w : World) (B : Nat) (hv : Lies w B 2 v (ptR l)) (hn : l.length ≤ 1048576) (hB : B ≤ w.heap.size) : Calls Tryz.prog 45 #[v, .int .i64 a, .int .i64 b] w fun e w' => (∃ u, e = .returned u ∧ Owns w' w.heap.size 56 2 u (ptR (l.filter (inP a b)))) ∧ Below w.heap.size w w' := by
 obtain ⟨A, cap, rfl, hl⟩ := pt_look hv
 have HL : Hid (∀ j, j < l.length → ∃ g off, A = some ⟨g, off, none⟩ ∧ g < B ∧ w.cell? ⟨g, off + j * 2, none⟩ = some (.int .i64 (tAt l j)) ∧ w.cell? ⟨g, off + j * 2 + 1, none⟩ = some (.int .i64 (vAt l j))) := hl
 have HB : Hid (B ≤ w.heap.size) := hB
 have q0 : (l.length : Int) ≤ 1048576 := by omega
 clear hl hn hv hB
 generalize hN : l.length = n at *
 have HN : Hid (l.length = n) := hN
 clear hN
 go_enter Tryz.func45, Tryz.ntmps45
 go_wp2_with fail
 go_loopw [7, 8] (fun v7 v8 wr => ∃ (k : Nat) (u : Value), k ≤ n ∧ v8 = .int .i64 (k : Int) ∧ v7 = u ∧ Owns wr w.heap.size 56 2 u (ptR ((l.take k).filter (inP a b))) ∧ Below w.heap.size w wr) (fun _ i _ => n - (intOf i).toNat)
 case atStart => exact ⟨0, _, by omega, rfl, rfl, Owns.empty w _ _ _ (Nat.le_refl _), (Below.refl _ _).alloc (Nat.le_refl _) _⟩
 case round =>
  obtain ⟨k, u, hk, rfl, rfl, hO, hb⟩ := hrel
  have HO : Hid (Owns wr w.heap.size 56 2 _ (ptR ((l.take k).filter (inP a b)))) := hO
  have HB1 : Hid (Below w.heap.size w wr) := hb
  clear hO hb
  by_cases hlt : k < n
  ·have q2 : (k : Int) < (n : Int) := by omega
   obtain ⟨g, off, rfl, hg, e1, e2⟩ := HL.out k hlt
   have hgw : g < w.heap.size := Nat.lt_of_lt_of_le hg HB.out
   rw [← HB1.out.cell (p := ⟨_, _, none⟩) hgw] at e1
   rw [← HB1.out.cell (p := ⟨_, _, none⟩) hgw] at e2
   have HS : Hid ((l.take (k + 1)).filter (inP a b) = if inP a b (l.getD k default) then (l.take k).filter (inP a b) ++ [l.getD k default] else (l.take k).filter (inP a b)) := filter_snoc l _ k (by have := HN.out; omega)
   have HLN : Hid ((ptR ((l.take k).filter (inP a b))).length ≤ 2097152) := by
    have h1 := List.length_filter_le (inP a b) (l.take k)
    rw [List.length_take] at h1
    have := HN.out
    unfold Hid
    rw [ptR_length]
    omega
   have HX : Hid ((l.getD k default).t = tAt l k ∧ (l.getD k default).v = vAt l k) := ⟨rfl, rfl⟩
   generalize l.getD k default = p at *
   generalize tAt l k = x at *
   generalize vAt l k = y at *
   have hsz : w.heap.size ≤ wr.heap.size := HB1.out.size
   clear hgw hg
   by_cases ca : x < a
   ·have d1 : decide (a ≤ x) = false := decide_eq_false (by omega)
    have HF : Hid (inP a b p = false) := by unfold Hid inP; rw [HX.out.1, d1]; rfl
    go_wp2_with fail
    go_roundw
    case rel => exact ⟨k + 1, _, by omega, by go_num, rfl, by rw [HS.out, HF.out]; exact HO.out, HB1.out⟩
    case measure => simp [intOf]; omega
   have ca' : a ≤ x := by omega
   by_cases cb : b ≤ x
   ·have d1 : decide (x < b) = false := decide_eq_false (by omega)
    have HF : Hid (inP a b p = false) := by unfold Hid inP; rw [HX.out.1, d1, Bool.and_false]
    go_wp2_with fail
    go_roundw
    case rel => exact ⟨k + 1, _, by omega, by go_num, rfl, by rw [HS.out, HF.out]; exact HO.out, HB1.out⟩
    case measure => simp [intOf]; omega
   have HF : Hid (inP a b p = true) := by unfold Hid inP; rw [HX.out.1, decide_eq_true ca', decide_eq_true (show x < b by omega)]; rfl
   go_wp2_with (at_builtin; refine wpList_append_row (w := wr) rfl (.tmp 32) (.tmp 37) 34 56 (.agg #[.int .i64 0, .int .i64 0]) 2 16 rfl Tryz.underlying34 Tryz.infoPt rfl (by omega) w.heap.size u7 (ptR ((l.take k).filter (inP a b))) rfl HO.out [.int .i64 x, .int .i64 y] rfl (pt_cells x y) rfl HLN.out (by omega) hsz ?_; intro u' w4 hO4 hb4 _ _)
   have HB4 : Hid (Below w.heap.size w w4) := HB1.out.trans hb4
   have HO4 : Hid (Owns w4 w.heap.size 56 2 u' (ptR ((l.take (k + 1)).filter (inP a b)))) := by
    unfold Hid
    rw [HS.out, HF.out, if_pos rfl, ptR_snoc', HX.out.1, HX.out.2]
    exact hO4
   clear hO4 hb4
   go_wp2_with fail
   go_roundw
   case rel => exact ⟨k + 1, _, by omega, by go_num, rfl, HO4.out, HB4.out⟩
   case measure => simp [intOf]; omega
  ·obtain rfl : k = n := by omega
   go_wp2_with fail
   go_ret
   refine ⟨⟨_, rfl, ?_⟩, HB1.out⟩
   have := HO.out
   rw [← HN.out, List.take_length] at this
   skip
   exact this
end Go.Proofs.YtpmgndgkmffcnaaGreatDoor
