/- Unframe BkRead SrLaw SrOk OpI CmMath CmRes CmPart CmOp -/
import Derived.Test.YtifmjdakefkbiaaGreatDoorQt5
import Derived.Laws.DeepStrings4
import Derived.OwnWalk
import Derived.Test.YtifmjdakefkbiaaGreatDoorRows
import Derived.Test.YtifmjdakefkbiaaGreatDoorQt1
import Derived.Test.YtifmjdakefkbiaaGreatDoorQt3
import Derived.Test.YtifmjdakefkbiaaGreatDoorQt2
import Derived.WalkKit
import Derived.ProofKit
import Derived.OpenShut
import Derived.Below
import Derived.WalkSmall
import Derived.BigQuiet
import Derived.Deep.QuietTactic
import Derived.Deep.RegionWith
import Derived.WalkLawsBesides
import Derived.Outline
import Derived.Handy
import Derived.Deep.Cut
import Derived.Deep.CutRange
import Derived.Laws.StructEq
import Derived.Test.YtifmjdakefkbiaaGreatDoorQt0
import Derived.Defers
import Derived.Recover
open List (setIfInBounds_toArray set_cons_zero set_cons_succ)
namespace Go.Proofs.YtifmjdakefkbiaaGreatDoor
open Go.ChangeShapes Go.WideShapes Go.ChangeAt Go.RowKit Go.PlainAid
set_option linter.unusedVariables false
theorem body_bad (s : ByteArray) (i : Nat) (w : World) (hi : i ≤ s.size) (hs : s.size ≤ 1048576) (ht : SumTab w) (a0 a1 a2 : Addr) (he : Errs w a0 a1 a2) (hcode : code (rest s i) ≠ 0) :
  Calls Tryz.prog 32 #[.string s, .int .i64 (i : Int)] w fun e w' => (∃ p a, e = badBody p a ∧ (code (rest s i) = 1 ∧ a = a0 ∨ code (rest s i) = 2 ∧ (a = a1 ∨ a = a2))) ∧ Below w.heap.size w w' := by
 by_cases h4 : (rest s i).size < 4
 ·refine (body_short4 s i w hi hs a0 a1 a2 he h4).mono ?_
  rintro e w' ⟨⟨p, rfl⟩, hb⟩
  exact ⟨⟨p, a0, rfl, .inl ⟨by rw [code, if_pos h4], rfl⟩⟩, hb⟩
 by_cases hl : rdv (rest s i) 4 = 0 ∨ 2000 < rdv (rest s i) 4
 ·refine (body_len s i w hi hs a0 a1 a2 he (by omega) hl).mono ?_
  rintro e w' ⟨⟨p, rfl⟩, hb⟩
  exact ⟨⟨p, a1, rfl, .inr ⟨by rw [code, if_neg h4, if_pos hl], .inl rfl⟩⟩, hb⟩
 by_cases h8 : (rest s i).size < 8 + rdv (rest s i) 4
 ·refine (body_short8 s i w hi hs a0 a1 a2 he (by omega) (by omega) (by omega) h8).mono ?_
  rintro e w' ⟨⟨p, rfl⟩, hb⟩
  exact ⟨⟨p, a0, rfl, .inl ⟨by rw [code, if_neg h4, if_neg hl, if_pos h8], rfl⟩⟩, hb⟩
 have hsum : sumOf ((rest s i).extract 0 4) (bodyOf (rest s i)) ≠ (rest s i).extract 4 8 := fun h => hcode (by rw [code, if_neg h4, if_neg hl, if_neg h8, if_pos h])
 refine (body_sum s i w hi hs ht a0 a1 a2 he (by omega) (by omega) (by omega) (by omega) hsum).mono ?_
 rintro e w' ⟨⟨p, rfl⟩, hb⟩
 exact ⟨⟨p, a2, rfl, .inr ⟨by rw [code, if_neg h4, if_neg hl, if_neg h8, if_neg hsum], .inr rfl⟩⟩, hb⟩
def unf (s : ByteArray) : Array Value := if code s = 0 then #[.string (bodyOf s), .int .i64 ((8 + rdv s 4 : Nat) : Int), .int .i64 0] else #[.string ⟨#[]⟩, .int .i64 0, .int .i64 (code s : Int)]
set_option maxHeartbeats 1000000 in
theorem impl_unframe (s : ByteArray) (w : World) (hs : s.size ≤ 1048576) (ht : SumTab w) (a0 a1 a2 : Addr) (he : Errs w a0 a1 a2) :
  Calls Tryz.prog 10 #[.string s] w fun e w' => e = .returned (.tuple (unf s)) ∧ Below w.heap.size w w' := by
 have HE : Hid (Errs w a0 a1 a2) := he
 by_cases hcode : code s = 0
 ·have c1 := body_ok s 0 w (by omega) hs ht (by rw [rest_zero]; exact hcode)
  rw [rest_zero, show ((0 : Nat) : Int) = 0 from rfl] at c1
  obtain ⟨h4, h1, h2, h8, hsum⟩ := (code_zero _).1 hcode
  have hz := bodyOf_size s h8
  have EU : Hid (unf s = #[.string (bodyOf s), .int .i64 ((8 + rdv s 4 : Nat) : Int), .int .i64 0]) := by unfold Hid; rw [unf, if_pos hcode]
  have q1 : ((bodyOf s).size : Int) = (rdv s 4 : Int) := by rw [hz]
  have q2 : (rdv s 4 : Int) ≤ 2000 := by omega
  clear hcode hsum ht he h4 h1 h2 h8 hs hz
  generalize rdv s 4 = n at *
  generalize bodyOf s = b at *
  go_enter Tryz.func10, Tryz.ntmps10
  go_wp2_with fail
  refine c1.mono ?_
  rintro e w1 ⟨rfl, hb1⟩
  go_wp2_with fail
  go_ret3
  exact ⟨by rw [EU.out]; go_num, hb1⟩
 ·have c1 := body_bad s 0 w (by omega) hs ht a0 a1 a2 he (by rw [rest_zero]; exact hcode)
  rw [rest_zero, show ((0 : Nat) : Int) = 0 from rfl] at c1
  have EU : Hid (unf s = #[.string ⟨#[]⟩, .int .i64 0, .int .i64 (code s : Int)]) := by unfold Hid; rw [unf, if_neg hcode]
  clear ht he hs hcode
  simp only [badBody, wrapped] at c1
  generalize code s = k at *
  go_enter Tryz.func10, Tryz.ntmps10
  go_wp2_with fail
  refine c1.mono ?_
  rintro e w1 ⟨⟨p, a, rfl, ha⟩, hb1⟩
  have he1 := HE.out.on hb1
  rcases ha with ⟨rfl, rfl⟩ | ⟨rfl, ha⟩
  ·have c2 := code_short p a a1 a2 w1 he1
   simp only [wrapped] at c2
   clear he1
   go_wp2_with fail
   refine c2.mono ?_
   rintro e w2 ⟨rfl, hb2⟩
   go_wp2_with fail
   go_ret3
   exact ⟨by rw [EU.out]; rfl, hb1.trans (hb2.mono hb1.size)⟩
  ·have c2 := code_bad p a a0 a1 a2 w1 he1 ha
   simp only [wrapped] at c2
   clear he1 ha
   go_wp2_with fail
   refine c2.mono ?_
   rintro e w2 ⟨rfl, hb2⟩
   go_wp2_with fail
   go_ret3
   exact ⟨by rw [EU.out]; rfl, hb1.trans (hb2.mono hb1.size)⟩
set_option maxRecDepth 20000 in
set_option maxHeartbeats 1000000 in
theorem spec_unframe (s : ByteArray) (w : World) (hs : s.size ≤ 1048576) :
  Calls Tryz.prog 147 #[.string s] w fun e w' => e = .returned (.tuple (unf s)) ∧ Below w.heap.size w w' := by
 by_cases h4 : s.size < 4
 ·have c1 := spec_readFixed_no s 4 w (by unfold maxLen; omega) (by omega)
  have EU : Hid (unf s = #[.string ⟨#[]⟩, .int .i64 0, .int .i64 1]) := by
   have : code s = 1 := by rw [code, if_pos h4]
   unfold Hid; rw [unf, this]; rfl
  clear hs h4
  go_enter Tryz.func147, Tryz.ntmps147
  go_wp2_with fail
  refine c1.mono ?_
  rintro e w1 ⟨rfl, rfl⟩
  go_wp2_with fail
  go_ret3
  exact ⟨by rw [EU.out]; rfl, Below.refl _ _⟩
 have c1 := spec_readFixed s 4 w (by unfold maxLen; omega) (by omega) (by omega) (by omega)
 by_cases hl : rdv s 4 = 0 ∨ 2000 < rdv s 4
 ·have EU : Hid (unf s = #[.string ⟨#[]⟩, .int .i64 0, .int .i64 2]) := by
   have : code s = 2 := by rw [code, if_neg h4, if_pos hl]
   unfold Hid; rw [unf, this]; rfl
  clear hs h4
  generalize rdv s 4 = n at *
  rcases hl with rfl | hl
  ·go_enter Tryz.func147, Tryz.ntmps147
   go_wp2_with fail
   refine c1.mono ?_
   rintro e w1 ⟨rfl, rfl⟩
   go_wp2_with fail
   go_ret3
   exact ⟨by rw [EU.out]; rfl, Below.refl _ _⟩
  ·have q3 : (2000 : Int) < (n : Int) := by omega
   have q4 : ((n : Int) == 0) = false := by simp only [beq_eq_false_iff_ne, ne_eq]; omega
   have q5 : decide ((2000 : Int) < (n : Int)) = true := decide_eq_true q3
   have q6 : ¬ (n : Int) = 0 := by omega
   go_enter Tryz.func147, Tryz.ntmps147
   go_wp2_with fail
   refine c1.mono ?_
   rintro e w1 ⟨rfl, rfl⟩
   go_wp2_with fail
   go_ret3
   exact ⟨by rw [EU.out]; rfl, Below.refl _ _⟩
 by_cases h8 : s.size < 8 + rdv s 4
 ·have EU : Hid (unf s = #[.string ⟨#[]⟩, .int .i64 0, .int .i64 1]) := by
   have : code s = 1 := by rw [code, if_neg h4, if_neg hl, if_pos h8]
   unfold Hid; rw [unf, this]; rfl
  have q2 : (s.size : Int) ≤ 1048576 := by omega
  clear hs h4
  generalize rdv s 4 = n at *
  have q3 : (n : Int) ≤ 2000 := by omega
  have q4 : ((n : Int) == 0) = false := by simp only [beq_eq_false_iff_ne, ne_eq]; omega
  have q5 : decide ((2000 : Int) < (n : Int)) = false := decide_eq_false (by omega)
  have q6 : ¬ (n : Int) = 0 := by omega
  have q7 : (s.size : Int) < 8 + (n : Int) := by omega
  clear hl
  go_enter Tryz.func147, Tryz.ntmps147
  go_wp2_with fail
  refine c1.mono ?_
  rintro e w1 ⟨rfl, rfl⟩
  go_wp2_with fail
  go_ret3
  exact ⟨by rw [EU.out]; rfl, Below.refl _ _⟩
 have hz := bodyOf_size s (by omega)
 have c2 := fun wx => spec_frame (bodyOf s) wx (by omega)
 have hfit := frame_fits s (by omega) (by omega) (by omega) (by omega)
 have hb0 : s.extract 8 (8 + rdv s 4) = bodyOf s := rfl
 have q2 : (s.size : Int) ≤ 1048576 := by omega
 by_cases hsum : sumOf (s.extract 0 4) (bodyOf s) = s.extract 4 8
 ·have EU : Hid (unf s = #[.string (bodyOf s), .int .i64 ((8 + rdv s 4 : Nat) : Int), .int .i64 0]) := by
   have : code s = 0 := by rw [code, if_neg h4, if_neg hl, if_neg h8, if_pos hsum]
   unfold Hid; rw [unf, if_pos this]
  have HF : Hid (frame (bodyOf s) = s.extract 0 (8 + rdv s 4)) := hfit.2 hsum
  clear hfit hsum hs h4 hz
  generalize bodyOf s = b at *
  generalize rdv s 4 = n at *
  have q3 : (n : Int) ≤ 2000 := by omega
  have q4 : ((n : Int) == 0) = false := by simp only [beq_eq_false_iff_ne, ne_eq]; omega
  have q5 : decide ((2000 : Int) < (n : Int)) = false := decide_eq_false (by omega)
  have q6 : ¬ (n : Int) = 0 := by omega
  have q7 : 8 + (n : Int) ≤ (s.size : Int) := by omega
  have hm : (8 + (n : Int)).toNat = 8 + n := by omega
  have q8 : (0 : Int) ≤ 8 + (n : Int) := by omega
  have w1 : IntKind.i64.wrap (8 + (n : Int)) = 8 + (n : Int) := by rw [IntKind.wrap_i64]; omega
  have w2 : wrap64 (8 + (n : Int)) = 8 + (n : Int) := by unfold wrap64; omega
  clear hl h8
  go_enter Tryz.func147, Tryz.ntmps147
  go_wp2_with fail
  refine c1.mono ?_
  rintro e w1 ⟨rfl, rfl⟩
  go_wp2_with fail
  go_region_with (go_at_call 137; refine (c2 _).mono ?_; rintro e w1 ⟨rfl, hb1⟩; rw [HF.out])
  all_goals go_wp2_with fail
  all_goals (go_ret3; exact ⟨by rw [EU.out]; go_num, (below_drew w).trans hb1⟩)
 ·have EU : Hid (unf s = #[.string ⟨#[]⟩, .int .i64 0, .int .i64 2]) := by
   have : code s = 2 := by rw [code, if_neg h4, if_neg hl, if_neg h8, if_neg hsum]
   unfold Hid; rw [unf, this]; rfl
  have e1 : ((frame (bodyOf s)).toList == (s.extract 0 (8 + rdv s 4)).toList) = false := by
   rw [beq_eq_false_iff_ne, Lib.toList_data, Lib.toList_data]
   intro h
   exact hsum (hfit.1 (ByteArray.ext (Array.toList_inj.1 h)))
  clear hfit hsum hs h4 hz
  generalize bodyOf s = b at *
  generalize rdv s 4 = n at *
  have q3 : (n : Int) ≤ 2000 := by omega
  have q4 : ((n : Int) == 0) = false := by simp only [beq_eq_false_iff_ne, ne_eq]; omega
  have q5 : decide ((2000 : Int) < (n : Int)) = false := decide_eq_false (by omega)
  have q6 : ¬ (n : Int) = 0 := by omega
  have q7 : 8 + (n : Int) ≤ (s.size : Int) := by omega
  have hm : (8 + (n : Int)).toNat = 8 + n := by omega
  have q8 : (0 : Int) ≤ 8 + (n : Int) := by omega
  have w1 : IntKind.i64.wrap (8 + (n : Int)) = 8 + (n : Int) := by rw [IntKind.wrap_i64]; omega
  have w2 : wrap64 (8 + (n : Int)) = 8 + (n : Int) := by unfold wrap64; omega
  clear hl h8
  go_enter Tryz.func147, Tryz.ntmps147
  go_wp2_with fail
  refine c1.mono ?_
  rintro e w1 ⟨rfl, rfl⟩
  go_wp2_with fail
  go_region_with (go_at_call 137; refine (c2 _).mono ?_; rintro e w1 ⟨rfl, hb1⟩)
  all_goals go_wp2_with fail
  all_goals (go_ret3; exact ⟨by rw [EU.out]; rfl, (below_drew w).trans hb1⟩)
end Go.Proofs.YtifmjdakefkbiaaGreatDoor
namespace Go.Proofs.YtifmjdakefkbiaaGreatDoor
open Go.ChangeShapes Go.WideShapes Go.ChangeAt Go.RowKit Go.PlainAid
set_option linter.unusedVariables false
theorem cell_alloc_keep {w : World} {p : Addr} {x : Value} (h : w.cell? p = some x) (o : Obj) : (w.alloc o).cell? p = some x := by
 rw [((Below.refl w.heap.size w).alloc (Nat.le_refl _) o).cell (World.block_lt_of_cell? _ _ h)]
 exact h
theorem ptR_snoc' (l : List Pnt) (p : Pnt) : ptR (l ++ [p]) = ptR l ++ [[.int .i64 p.t, .int .i64 p.v]] := ptR_append l [p]
theorem pt_cells (x y : Int) : ∀ u ∈ ([.int .i64 x, .int .i64 y] : List Value), u.oneCell' = true := by
 intro u hu
 simp at hu
 rcases hu with rfl | rfl <;> rfl
set_option maxRecDepth 20000 in
set_option maxHeartbeats 2000000 in
theorem implPointsOf (t v : List Int) (ut uv : Value) (w : World) (ht : NumsV w w.heap.size ut t) (hv : NumsV w w.heap.size uv v) (hlt : t.length ≤ 1000) (hlv : v.length ≤ 1000) : Calls Tryz.prog 142 #[ut, uv] w fun e w' => (∃ u, e = .returned u ∧ Owns w' w.heap.size 174 2 u (ptR (zipP t v))) ∧ Below w.heap.size w w' := by
 obtain ⟨At, ct, rfl, _, _, h1⟩ := ht
 obtain ⟨Av, cv, rfl, _, _, h2⟩ := hv
 have HT : Hid (∀ j, j < t.length → ∃ g off, At = some ⟨g, off, none⟩ ∧ g < w.heap.size ∧ w.cell? ⟨g, off + j, none⟩ = some (.int .i64 (t.getD j 0))) := h1
 have HV : Hid (∀ j, j < v.length → ∃ g off, Av = some ⟨g, off, none⟩ ∧ g < w.heap.size ∧ w.cell? ⟨g, off + j, none⟩ = some (.int .i64 (v.getD j 0))) := h2
 have HZL : Hid ((zipP t v).length = min t.length v.length) := zipP_length t v
 have HZG : Hid (∀ k, k < t.length → k < v.length → (zipP t v).take (k + 1) = (zipP t v).take k ++ [⟨t.getD k 0, v.getD k 0⟩]) := zipP_get t v
 have q1 : (t.length : Int) ≤ 1000 := by omega
 have q2 : (v.length : Int) ≤ 1000 := by omega
 have hmn : min (t.length : Int) (v.length : Int) = ((min t.length v.length : Nat) : Int) := by omega
 have hmn2 : (if (v.length : Int) < (t.length : Int) then (v.length : Int) else (t.length : Int)) = ((min t.length v.length : Nat) : Int) := by split <;> omega
 clear h1 h2 hlt hlv
 generalize hn : t.length = n at *
 generalize hm : v.length = m at *
 generalize hN : min n m = N at *
 have HN : Hid (N ≤ n ∧ N ≤ m ∧ N ≤ 1000) := by unfold Hid; omega
 clear hn hm
 go_enter Tryz.func142, Tryz.ntmps142
 go_wp2_with fail
 go_loopw [5, 12] (fun v5 v12 wr => ∃ k : Nat, k ≤ N ∧ v12 = .int .i64 (k : Int) ∧ Owns wr w.heap.size 174 2 v5 (ptR ((zipP t v).take k)) ∧ Below w.heap.size w wr) (fun _ i _ => N - (intOf i).toNat)
 case atStart => exact ⟨0, by omega, rfl, by rw [List.take_zero]; exact Owns.nil _ _ _ _, Below.refl _ _⟩
 case round =>
  obtain ⟨k, hk, rfl, hO, hb⟩ := hrel
  have HO : Hid (Owns wr w.heap.size 174 2 u5 (ptR ((zipP t v).take k))) := hO
  have HB1 : Hid (Below w.heap.size w wr) := hb
  clear hO hb
  by_cases hlt : k < N
  ·have q3 : (k : Int) < (N : Int) := by omega
   have hkn := HN.out
   have q4 : (k : Int) < (n : Int) := by omega
   have q5 : (k : Int) < (m : Int) := by omega
   obtain ⟨gt, ot, rfl, hgt, hc1⟩ := HT.out k (by omega)
   obtain ⟨gv, ov, rfl, hgv, hc2⟩ := HV.out k (by omega)
   have HZ : Hid ((zipP t v).take (k + 1) = (zipP t v).take k ++ [⟨t.getD k 0, v.getD k 0⟩]) := HZG.out k (by omega) (by omega)
   rw [← HB1.out.cell (p := ⟨_, _, none⟩) hgt] at hc1
   rw [← HB1.out.cell (p := ⟨_, _, none⟩) hgv] at hc2
   generalize t.getD k 0 = x at *
   generalize v.getD k 0 = y at *
   have hz : w.heap.size ≤ wr.drew.heap.size := HB1.out.size
   obtain ⟨nA, nm, nc, w5, r5, hO5, hb5, hk5, _⟩ := run_append_row (P := Tryz.prog) wr.drew 148 148 174 (.agg #[.int .i64 0, .int .i64 0]) 2 16 Tryz.underlying148 Tryz.infoPt rfl (by omega) w.heap.size u5 (ptR ((zipP t v).take k)) (HO.out.kept fun _ _ _ => rfl) [.int .i64 x, .int .i64 y] rfl (pt_cells x y) (by rw [ptR_length, List.length_take]; omega) (by omega) hz
   have B5 : Hid (Below w.heap.size w w5) := (HB1.out.drew).trans hb5
   have O5 : Hid (Owns w5 w.heap.size 174 2 (.slice nA nm nc) (ptR ((zipP t v).take (k + 1)))) := by unfold Hid; rw [HZ.out, ptR_snoc']; exact hO5
   have S0 : Hid (wr.drew.cell? ⟨gt, ot + k, none⟩ = some (.int .i64 x) ∧ wr.drew.cell? ⟨gv, ov + k, none⟩ = some (.int .i64 y)) := ⟨hc1, hc2⟩
   clear hc1 hc2 hO5 hb5 hk5
   clear hgt hgv
   go_wp2_with fail
   refine wp_region_until (fun w' => w'.cell? ⟨gt, ot + k, none⟩ = some (.int .i64 x) ∧ w'.cell? ⟨gv, ov + k, none⟩ = some (.int .i64 y)) (fun i => i == 11 || i == 12) 13 (by rfl) (by kernel_rfl) ?_
   refine tKf 0 S0.out ?_
   refine tKf 1 S0.out ?_
   refine tKf 2 S0.out ?_
   refine tKf 3 S0.out ?_
   refine tKf 4 S0.out ?_
   refine tKf 5 S0.out ?_
   refine tKf 6 S0.out ?_
   refine tKf 7 S0.out ?_
   refine tKf 8 S0.out ?_
   refine tKf 9 S0.out ?_
   refine uNe 10 (fun K hK => ?_)
   go_simp
   refine hK.out _ _ (fun _ h => ⟨cell_alloc_keep h.1 _, cell_alloc_keep h.2 _⟩) ?_
   clear hK K
   try simp only [Act.put, zQ1, zQ2, zQ3]
   refine uNe 11 (fun K hK => ?_)
   refine step_append_run (by rfl) (.tmp 15) (.tmp 25) 148 (by rfl) _ _ _ _ (by rfl) (by rfl) r5 ?_
   refine hK.out _ _ (fun h => by cases h) ?_
   clear hK K
   try simp only [Act.put, zQ1, zQ2, zQ3]
   refine uNe 12 (fun K hK => ?_)
   go_simp
   refine hK.out _ _ (fun h => by cases h) ?_
   clear hK K
   try simp only [Act.put, zQ1, zQ2, zQ3]
   refine until_done (by kernel_rfl) ?_ _
   go_wp2_with fail
   go_roundw
   case rel => exact ⟨k + 1, by omega, by go_num, O5.out, B5.out⟩
   case measure => simp [intOf]; omega
  ·obtain rfl : k = N := by omega
   have hF := HO.out
   rw [List.take_of_length_le (by rw [HZL.out]; exact Nat.le_refl _)] at hF
   have HF : Hid (Owns wr w.heap.size 174 2 u5 (ptR (zipP t v))) := hF
   clear hF HO
   go_wp2_with fail
   go_ret
   exact ⟨⟨_, rfl, HF.out⟩, HB1.out⟩
theorem unf_body (s : ByteArray) : ∃ k c : Nat, unf s = #[.string (bodyR s), .int .i64 (k : Int), .int .i64 (c : Int)] ∧ ((code s = 0 ∧ k = 8 + rdv s 4) ∨ (code s ≠ 0 ∧ k = 0 ∧ bodyR s = ⟨#[]⟩)) := by
 by_cases h : code s = 0
 ·refine ⟨8 + rdv s 4, 0, ?_, .inl ⟨h, rfl⟩⟩
  rw [unf, if_pos h, bodyR, if_pos h]
  rfl
 ·refine ⟨0, code s, ?_, .inr ⟨h, rfl, by rw [bodyR, if_neg h]⟩⟩
  rw [unf, if_neg h, bodyR, if_neg h]
  rfl
set_option maxHeartbeats 4000000 in
theorem implReadBlock (s : ByteArray) (w : World) (hs : s.size ≤ 1048576) (hst : SumTab w) (a0 a1 a2 : Addr) (he : Errs w a0 a1 a2) : Calls Tryz.prog 127 #[.string s] w fun e w' => (∃ u l ok, RbAns s l ok ∧ e = .returned (.tuple #[u, .bool ok]) ∧ Owns w' w.heap.size 174 2 u (ptR l)) ∧ Below w.heap.size w w' := by
 have ST : Hid (SumTab w) := hst
 have cU := impl_unframe s w hs hst a0 a1 a2 he
 obtain ⟨k0, c0, hu, _⟩ := unf_body s
 rw [hu] at cU
 have hbz := bodyR_size s
 have qs : (s.size : Int) ≤ 1048576 := by omega
 clear hst he hu
 go_enter Tryz.func127, Tryz.ntmps127
 go_wp2_with fail
 refine cU.mono ?_
 rintro e w1 ⟨rfl, hb⟩
 have B1 : Hid (Below w.heap.size w w1) := hb
 clear hb cU
 have cV := impl_readVar (bodyR s) w1 (by omega)
 go_wp2_with fail
 refine cV.mono ?_
 rintro e w1' ⟨hRV, rfl⟩
 obtain ⟨n, k, hRd, rfl⟩ := hRV.rd
 have hle := hRd.le
 have HR : Hid (RdV (bodyR s) n k) := hRd
 have hsz : ((bodyR s).extract k (bodyR s).size).size ≤ 2000 := by rw [ByteArray.size_extract]; omega
 have cT := implReadTimesA ((bodyR s).extract k (bodyR s).size) n w1 (by omega)
 have qk : (k : Int) ≤ 7 := by omega
 have qb : ((bodyR s).size : Int) ≤ 2000 := by omega
 have qkb : (k : Int) ≤ ((bodyR s).size : Int) := by omega
 have hkb : k ≤ (bodyR s).size := hle.1
 clear hRd hRV cV hle
 go_wp2_with fail
 refine cT.mono ?_
 rintro e w2 ⟨⟨t, a, ut, hAT, rfl, hNT⟩, hb⟩
 have HAT : Hid (RdAns showT rowT ((bodyR s).extract k (bodyR s).size) n t a) := hAT
 have hsh := hAT.short rowT_length
 have LT : Hid (t.length ≤ 60) := hsh.1
 have hak : k + a ≤ (bodyR s).size := by have h2 := hsh.2; rw [ByteArray.size_extract] at h2; omega
 have B2 : Hid (Below w.heap.size w w2) := B1.out.trans (hb.mono B1.out.size)
 have NT : Hid (Nums w2 w1.heap.size ut t) := hNT
 have cW := implReadValuesA ((bodyR s).extract (k + a) (bodyR s).size) n w2 (by rw [ByteArray.size_extract]; omega)
 have qa : (k : Int) + (a : Int) ≤ ((bodyR s).size : Int) := by omega
 have qa1 : (a : Int) ≤ 2000 := by omega
 have ena : ((k : Int) + (a : Int)).toNat = k + a := by omega
 clear hAT hNT hb cT hsh hsz
 go_wp2_with fail
 refine cW.mono ?_
 rintro e w3 ⟨⟨v, b, uv, hAV, rfl, hNV⟩, hb⟩
 have HST : Hid (Steps s n k t a v b) := ⟨HR.out, HAT.out, hAV⟩
 have LV : Hid (v.length ≤ 60) := (hAV.short rowV_length).1
 have B3 : Hid (Below w.heap.size w w3) := B2.out.trans (hb.mono B2.out.size)
 have NT3 : Hid (Nums w3 w1.heap.size ut t) := NT.out.on hb
 have NV3 : Hid (Nums w3 w2.heap.size uv v) := hNV
 clear hAV hNV hb cW NT
 have cP := implPointsOf t v ut uv w3 NT3.out.lies NV3.out.lies (by have := LT.out; omega) (by have := LV.out; omega)
 go_wp2_with fail
 refine cP.mono ?_
 rintro e w4 ⟨⟨up, rfl, hO⟩, hb⟩
 have B4 : Hid (Below w.heap.size w w4) := B3.out.trans (hb.mono B3.out.size)
 have OP : Hid (Owns w4 w3.heap.size 174 2 up (ptR (zipP t v))) := hO
 have LZ : Hid ((zipP t v).length ≤ 60) := by unfold Hid; rw [zipP_length]; have := LT.out; omega
 clear hO hb cP
 have cS := implShowBlock (zipP t v) up w4 w4.heap.size OP.out.lies (by have := LZ.out; omega) (Nat.le_refl _) (ST.out.on B4.out)
 obtain ⟨Ap, cp, rfl, _⟩ := pt_look OP.out.lies
 have HG1 : Hid (∀ m, Good s m → zipP t v = m) := fun m hm => (HST.out.good hm).1
 have HG2 : Hid (1 ≤ (zipP t v).length → showB (zipP t v) = s → Good s (zipP t v)) := fun h1 h2 => HST.out.shown h1 h2
 have qz : ((zipP t v).length : Int) ≤ 60 := by have := LZ.out; omega
 generalize zipP t v = l at *
 by_cases h0 : l.length = 0
 ·have HNO : Hid (∀ m, ¬ Good s m) := fun m hm => by have e := HG1.out m hm; subst e; have := hm.1; omega
  rw [h0]
  clear h0 qz
  go_wp2_with fail
  go_ret2
  exact ⟨⟨_, [], false, .inr ⟨rfl, rfl, HNO.out⟩, rfl, Owns.nil _ _ _ _⟩, B4.out⟩
 have d0 : decide (l.length = 0) = false := decide_eq_false h0
 have d1 : ((l.length : Int) == 0) = false := by rw [beq_eq_false_iff_ne]; omega
 have H1 : Hid (1 ≤ l.length) := by unfold Hid; omega
 have HLL : Hid (Owns w4 w3.heap.size 174 2 (.slice Ap l.length cp) (ptR l)) := OP.out
 generalize hln : l.length = ln at *
 by_cases hsh : showB l = s
 ·have HG : Hid (Good s l) := HG2.out (by have := H1.out; omega) hsh
  have db := bytes_eq hsh
  go_wp2_with fail
  refine cS.mono ?_
  rintro e w5 ⟨rfl, hb5⟩
  have B5 : Hid (Below w.heap.size w w5) := B4.out.trans (hb5.mono B4.out.size)
  have O5 : Hid (Owns w5 w.heap.size 174 2 (.slice Ap ln cp) (ptR l)) := (HLL.out.on hb5).mono B3.out.size
  clear hb5 cS
  rw [hsh]
  go_wp2_with fail
  go_ret2
  exact ⟨⟨_, l, true, .inl ⟨rfl, HG.out⟩, rfl, O5.out⟩, B5.out⟩
 ·have HNO : Hid (∀ m, ¬ Good s m) := fun m hm => by have e := HG1.out m hm; subst e; exact hsh hm.2.2
  have db := bytes_ne hsh
  go_wp2_with fail
  refine cS.mono ?_
  rintro e w5 ⟨rfl, hb5⟩
  have B5 : Hid (Below w.heap.size w w5) := B4.out.trans (hb5.mono B4.out.size)
  clear hb5 cS hsh
  go_wp2_with fail
  go_ret2
  exact ⟨⟨_, [], false, .inr ⟨rfl, rfl, HNO.out⟩, rfl, Owns.nil _ _ _ _⟩, B5.out⟩
end Go.Proofs.YtifmjdakefkbiaaGreatDoor
namespace Go.Proofs.YtifmjdakefkbiaaGreatDoor
open Go.ChangeShapes Go.WideShapes Go.ChangeAt Go.RowKit Go.PlainAid
set_option linter.unusedVariables false
def wtS1 (x : Ser) : Nat := x.key.size + x.pts.length
def wtS (l : List Ser) : Nat := (l.map wtS1).sum
theorem wtS_mem (l : List Ser) (x : Ser) (h : x ∈ l) : wtS1 x ≤ wtS l := by
 induction l with
 | nil => cases h
 | cons y l ih =>
  unfold wtS at ih ⊢
  rw [List.map_cons, List.sum_cons]
  rcases List.mem_cons.1 h with rfl | h
  ·omega
  ·have := ih h
   omega
def SShort (l : List Ser) : Prop := l.length ≤ 1048576 ∧ ∀ x ∈ l, x.pts.length ≤ 1048576
theorem SShort.of {l : List Ser} {n : Nat} (h : l.length + wtS l ≤ n) (hn : n ≤ 1048576) : SShort l := by
 refine ⟨by omega, fun x hx => ?_⟩
 have := wtS_mem l x hx
 unfold wtS1 at this
 omega
theorem SShort.at {l : List Ser} (h : SShort l) (k : Nat) (hk : k < l.length) : (l.getD k default).pts.length ≤ 1048576 := h.2 _ (getD_mem l k hk)
end Go.Proofs.YtifmjdakefkbiaaGreatDoor
namespace Go.Proofs.YtifmjdakefkbiaaGreatDoor
open Go.ChangeShapes Go.WideShapes Go.ChangeAt Go.RowKit Go.PlainAid
set_option linter.unusedVariables false
set_option maxHeartbeats 1000000 in
theorem implIsKey (s : ByteArray) (w : World) (hs : s.size ≤ maxLen) : Calls Tryz.prog 128 #[.string s] w fun e w' => e = .returned (.bool (decide (KOk s))) ∧ w = w' := by
 have hbt := get_bn s
 have q0 : (s.size : Int) ≤ 9223372036854775807 := by unfold maxLen at hs; omega
 have HD : Hid (∀ b, (b = true ↔ KOk s) → decide (KOk s) = b) := fun b hb => dec_of b hb
 have HV : Hid (KOk s ↔ 1 ≤ s.size ∧ s.size ≤ 8 ∧ ∀ j, j < s.size → 97 ≤ bn s j ∧ bn s j ≤ 122) := Iff.rfl
 clear hs
 by_cases h0 : s.size = 0
 ·obtain rfl : s = ⟨#[]⟩ := by
   have e : s.data.toList = [] := List.eq_nil_of_length_eq_zero (by rw [Array.length_toList]; exact h0)
   rw [← txt_toList s, e]
   rfl
  clear HV hbt q0 h0
  have he : decide (KOk ⟨#[]⟩) = false := HD.out false ⟨fun h => (by cases h), fun h => absurd h.1 (by simp [ByteArray.size])⟩
  rw [he]
  go_enter Tryz.func128, Tryz.ntmps128
  go_wp2
  go_ret
  exact ⟨rfl, rfl⟩
 have hne : s.toList.isEmpty = false := by
  rw [Lib.toList_data]
  cases e : s.data.toList with
  | nil => exact absurd (by rw [ByteArray.size, ← Array.length_toList, e]; rfl) h0
  | cons a l => rfl
 have H1 : Hid (1 ≤ s.size) := by unfold Hid; omega
 by_cases h2 : (8 : Int) < (s.size : Int)
 ·go_enter Tryz.func128, Tryz.ntmps128
  go_wp2
  go_ret
  refine ⟨?_, rfl⟩
  rw [HD.out false]
  ·rfl
  rw [HV.out]
  exact ⟨fun h => (by cases h), fun h => by omega⟩
 have q1 : (s.size : Int) ≤ 8 := by omega
 have q2 : decide ((8 : Int) < (s.size : Int)) = false := decide_eq_false h2
 clear h2 h0
 go_enter Tryz.func128, Tryz.ntmps128
 go_wp2_with fail
 go_loop [13] (fun v => ∃ k : Nat, k ≤ s.size ∧ v = .int .i64 (k : Int) ∧ Hid (∀ j, j < k → 97 ≤ bn s j ∧ bn s j ≤ 122)) (fun i => s.size - (intOf i).toNat)
 case atStart => exact ⟨0, by omega, rfl, fun j hj => by omega⟩
 case round =>
  obtain ⟨k, hk, rfl, HJ⟩ := hrel
  by_cases hlt : k < s.size
  ·have q4 : (k : Int) < (s.size : Int) := by omega
   have r2 := bn_lt s k
   have HNo : Hid ((bn s k < 97 ∨ 122 < bn s k) → decide (KOk s) = false) := fun h => by
    apply HD.out
    rw [HV.out]
    refine ⟨fun h => (by cases h), fun h2 => ?_⟩
    have := h2.2.2 k hlt
    omega
   by_cases c2 : (bn s k : Int) < 97
   ·go_wp2_with fail
    go_ret
    exact ⟨by rw [HNo.out (.inl (by omega))]; rfl, rfl⟩
   have d2 : decide ((bn s k : Int) < 97) = false := decide_eq_false c2
   by_cases c3 : (122 : Int) < (bn s k : Int)
   ·go_wp2_with fail
    go_ret
    exact ⟨by rw [HNo.out (.inr (by omega))]; rfl, rfl⟩
   have d3 : decide ((122 : Int) < (bn s k : Int)) = false := decide_eq_false c3
   go_wp2_with fail
   go_round
   case rel =>
    refine ⟨k + 1, by omega, by go_num, fun j hj => ?_⟩
    by_cases e : j = k
    ·rw [e]
     omega
    ·exact HJ.out j (by omega)
   case measure => simp [intOf]; omega
  ·obtain rfl : k = s.size := by omega
   go_wp2_with fail
   go_ret
   refine ⟨?_, rfl⟩
   rw [HD.out true]
   ·rfl
   rw [HV.out]
   exact ⟨fun _ => ⟨H1.out, by omega, HJ.out⟩, fun _ => rfl⟩
set_option maxHeartbeats 1000000 in
theorem specKey (s : ByteArray) (w : World) (hs : s.size ≤ maxLen) : Calls Tryz.prog 135 #[.string s] w fun e w' => e = .returned (.bool (decide (KOk s))) ∧ w = w' := by
 have hbt := get_bn s
 have q0 : (s.size : Int) ≤ 9223372036854775807 := by unfold maxLen at hs; omega
 have HD : Hid (∀ b, (b = true ↔ KOk s) → decide (KOk s) = b) := fun b hb => dec_of b hb
 have HV : Hid (KOk s ↔ 1 ≤ s.size ∧ s.size ≤ 8 ∧ ∀ j, j < s.size → 97 ≤ bn s j ∧ bn s j ≤ 122) := Iff.rfl
 clear hs
 by_cases h2 : (s.size : Int) < 1 ∨ (8 : Int) < (s.size : Int)
 ·have c1 := fun wx => in_no (s.size : Int) 1 8 wx h2
  have H2 : Hid ((s.size : Int) < 1 ∨ (8 : Int) < (s.size : Int)) := h2
  clear h2
  go_enter Tryz.func135, Tryz.ntmps135
  go_wp2_with fail
  refine (c1 _).mono ?_
  rintro e w' ⟨rfl, rfl⟩
  go_wp2_with fail
  go_ret
  refine ⟨?_, rfl⟩
  rw [HD.out false]
  ·rfl
  rw [HV.out]
  have := H2.out
  exact ⟨fun h => (by cases h), fun h => by omega⟩
 have c1 := fun wx => in_yes (s.size : Int) 1 8 wx (by omega) (by omega)
 have q1 : (s.size : Int) ≤ 8 := by omega
 have H1 : Hid (1 ≤ s.size) := by unfold Hid; omega
 clear h2
 go_enter Tryz.func135, Tryz.ntmps135
 go_wp2_with fail
 refine (c1 _).mono ?_
 rintro e w' ⟨rfl, rfl⟩
 go_wp2_with fail
 go_loop [3] (fun v => ∃ k : Nat, k ≤ s.size ∧ v = .int .i64 (k : Int) ∧ Hid (∀ j, j < k → 97 ≤ bn s j ∧ bn s j ≤ 122)) (fun i => s.size - (intOf i).toNat)
 case atStart => exact ⟨0, by omega, rfl, fun j hj => by omega⟩
 case round =>
  obtain ⟨k, hk, rfl, HJ⟩ := hrel
  by_cases hlt : k < s.size
  ·have q4 : (k : Int) < (s.size : Int) := by omega
   have r2 := bn_lt s k
   have HNo : Hid ((bn s k < 97 ∨ 122 < bn s k) → decide (KOk s) = false) := fun h => by
    apply HD.out
    rw [HV.out]
    refine ⟨fun h => (by cases h), fun h2 => ?_⟩
    have := h2.2.2 k hlt
    omega
   by_cases c2 : (bn s k : Int) < 97
   ·go_wp2_with fail
    go_ret
    exact ⟨by rw [HNo.out (.inl (by omega))]; rfl, rfl⟩
   have d2 : decide ((bn s k : Int) < 97) = false := decide_eq_false c2
   by_cases c3 : (122 : Int) < (bn s k : Int)
   ·go_wp2_with fail
    go_ret
    exact ⟨by rw [HNo.out (.inr (by omega))]; rfl, rfl⟩
   have d3 : decide ((122 : Int) < (bn s k : Int)) = false := decide_eq_false c3
   go_wp2_with fail
   go_round
   case rel =>
    refine ⟨k + 1, by omega, by go_num, fun j hj => ?_⟩
    by_cases e : j = k
    ·rw [e]
     omega
    ·exact HJ.out j (by omega)
   case measure => simp [intOf]; omega
  ·obtain rfl : k = s.size := by omega
   go_wp2_with fail
   go_ret
   refine ⟨?_, rfl⟩
   rw [HD.out true]
   ·rfl
   rw [HV.out]
   exact ⟨fun _ => ⟨H1.out, by omega, HJ.out⟩, fun _ => rfl⟩
end Go.Proofs.YtifmjdakefkbiaaGreatDoor
namespace Go.Proofs.YtifmjdakefkbiaaGreatDoor
open Go.ChangeShapes Go.WideShapes Go.ChangeAt Go.RowKit Go.PlainAid
set_option linter.unusedVariables false
set_option maxHeartbeats 4000000 in
theorem implOpOk_1 (k : ByteArray) (f t : Int) (d : ByteArray) (w : World) (hk : k.size ≤ maxLen) : Calls Tryz.prog 97 #[vOp ⟨1, k, f, t, d⟩] w fun e w' => e = .returned (.bool (opOk ⟨1, k, f, t, d⟩)) ∧ Below w.heap.size w w' := by
 have HE : Hid (opOk ⟨1, k, f, t, d⟩ = (spanB f t && emB k && emB d)) := by unfold Hid opOk; simp
 have HB : Hid (Below w.heap.size w (w.alloc (.cells #[.int .i64 1, .string k, .int .i64 f, .int .i64 t, .string d] 38))) := below_a1 _ _
 have cS := implSpanOk f t
 have cI := inI f 0 1099511627776
 have cH := inI f 0 100000
 have cK := fun wx => implIsKey k wx hk
 clear hk
 rw [show decide (KOk k) = keyB k from by unfold keyB; first | rfl | congr] at cK
 unfold vOp
 simp only
 by_cases hk : k = ⟨#[]⟩
 ·subst hk
  rw [em_nil] at HE
  by_cases hd : d = ⟨#[]⟩
  ·subst hd
   rw [em_nil] at HE
   go_enter Tryz.func97, Tryz.ntmps97
   go_wp2_with fail
   refine (cS _).mono ?_
   rintro e w' ⟨rfl, rfl⟩
   go_wp2_with fail
   go_ret
   exact ⟨by rw [HE.out]; first | rfl | simp, HB.out⟩
  ·obtain ⟨ed1, ed2, ed3, ed4⟩ := em_facts hd
   rw [ed4] at HE
   clear ed4 hd
   go_enter Tryz.func97, Tryz.ntmps97
   go_wp2_with fail
   go_ret
   exact ⟨by rw [HE.out]; first | rfl | simp, HB.out⟩
 ·obtain ⟨ek1, ek2, ek3, ek4⟩ := em_facts hk
  rw [ek4] at HE
  clear ek4 hk
  by_cases hd : d = ⟨#[]⟩
  ·subst hd
   rw [em_nil] at HE
   go_enter Tryz.func97, Tryz.ntmps97
   go_wp2_with fail
   go_ret
   exact ⟨by rw [HE.out]; first | rfl | simp, HB.out⟩
  ·obtain ⟨ed1, ed2, ed3, ed4⟩ := em_facts hd
   rw [ed4] at HE
   clear ed4 hd
   go_enter Tryz.func97, Tryz.ntmps97
   go_wp2_with fail
   go_ret
   exact ⟨by rw [HE.out]; first | rfl | simp, HB.out⟩
set_option maxHeartbeats 4000000 in
theorem implOpOk_2 (k : ByteArray) (f t : Int) (d : ByteArray) (w : World) (hk : k.size ≤ maxLen) : Calls Tryz.prog 97 #[vOp ⟨2, k, f, t, d⟩] w fun e w' => e = .returned (.bool (opOk ⟨2, k, f, t, d⟩)) ∧ Below w.heap.size w w' := by
 have HE : Hid (opOk ⟨2, k, f, t, d⟩ = (inRg f 0 1099511627776 && emB k && zB t && emB d)) := by unfold Hid opOk; simp
 have HB : Hid (Below w.heap.size w (w.alloc (.cells #[.int .i64 2, .string k, .int .i64 f, .int .i64 t, .string d] 38))) := below_a1 _ _
 have cS := implSpanOk f t
 have cI := inI f 0 1099511627776
 have cH := inI f 0 100000
 have cK := fun wx => implIsKey k wx hk
 clear hk
 rw [show decide (KOk k) = keyB k from by unfold keyB; first | rfl | congr] at cK
 unfold vOp
 simp only
 by_cases hk : k = ⟨#[]⟩
 ·subst hk
  rw [em_nil] at HE
  by_cases ht : t = 0
  ·subst ht
   rw [z_nil] at HE
   by_cases hd : d = ⟨#[]⟩
   ·subst hd
    rw [em_nil] at HE
    go_enter Tryz.func97, Tryz.ntmps97
    go_wp2_with fail
    refine (cI _).mono ?_
    rintro e w' ⟨rfl, rfl⟩
    go_wp2_with fail
    go_ret
    exact ⟨by rw [HE.out]; first | rfl | simp, HB.out⟩
   ·obtain ⟨ed1, ed2, ed3, ed4⟩ := em_facts hd
    rw [ed4] at HE
    clear ed4 hd
    go_enter Tryz.func97, Tryz.ntmps97
    go_wp2_with fail
    go_ret
    exact ⟨by rw [HE.out]; first | rfl | simp, HB.out⟩
  ·obtain ⟨et1, et2, et4⟩ := z_facts ht
   rw [et4] at HE
   clear et4 ht
   by_cases hd : d = ⟨#[]⟩
   ·subst hd
    rw [em_nil] at HE
    go_enter Tryz.func97, Tryz.ntmps97
    go_wp2_with fail
    go_ret
    exact ⟨by rw [HE.out]; first | rfl | simp, HB.out⟩
   ·obtain ⟨ed1, ed2, ed3, ed4⟩ := em_facts hd
    rw [ed4] at HE
    clear ed4 hd
    go_enter Tryz.func97, Tryz.ntmps97
    go_wp2_with fail
    go_ret
    exact ⟨by rw [HE.out]; first | rfl | simp, HB.out⟩
 ·obtain ⟨ek1, ek2, ek3, ek4⟩ := em_facts hk
  rw [ek4] at HE
  clear ek4 hk
  by_cases ht : t = 0
  ·subst ht
   rw [z_nil] at HE
   by_cases hd : d = ⟨#[]⟩
   ·subst hd
    rw [em_nil] at HE
    go_enter Tryz.func97, Tryz.ntmps97
    go_wp2_with fail
    go_ret
    exact ⟨by rw [HE.out]; first | rfl | simp, HB.out⟩
   ·obtain ⟨ed1, ed2, ed3, ed4⟩ := em_facts hd
    rw [ed4] at HE
    clear ed4 hd
    go_enter Tryz.func97, Tryz.ntmps97
    go_wp2_with fail
    go_ret
    exact ⟨by rw [HE.out]; first | rfl | simp, HB.out⟩
  ·obtain ⟨et1, et2, et4⟩ := z_facts ht
   rw [et4] at HE
   clear et4 ht
   by_cases hd : d = ⟨#[]⟩
   ·subst hd
    rw [em_nil] at HE
    go_enter Tryz.func97, Tryz.ntmps97
    go_wp2_with fail
    go_ret
    exact ⟨by rw [HE.out]; first | rfl | simp, HB.out⟩
   ·obtain ⟨ed1, ed2, ed3, ed4⟩ := em_facts hd
    rw [ed4] at HE
    clear ed4 hd
    go_enter Tryz.func97, Tryz.ntmps97
    go_wp2_with fail
    go_ret
    exact ⟨by rw [HE.out]; first | rfl | simp, HB.out⟩
set_option maxHeartbeats 4000000 in
theorem implOpOk_3 (k : ByteArray) (f t : Int) (d : ByteArray) (w : World) (hk : k.size ≤ maxLen) : Calls Tryz.prog 97 #[vOp ⟨3, k, f, t, d⟩] w fun e w' => e = .returned (.bool (opOk ⟨3, k, f, t, d⟩)) ∧ Below w.heap.size w w' := by
 have HE : Hid (opOk ⟨3, k, f, t, d⟩ = (inRg f 0 100000 && emB k && zB t && emB d)) := by unfold Hid opOk; simp
 have HB : Hid (Below w.heap.size w (w.alloc (.cells #[.int .i64 3, .string k, .int .i64 f, .int .i64 t, .string d] 38))) := below_a1 _ _
 have cS := implSpanOk f t
 have cI := inI f 0 1099511627776
 have cH := inI f 0 100000
 have cK := fun wx => implIsKey k wx hk
 clear hk
 rw [show decide (KOk k) = keyB k from by unfold keyB; first | rfl | congr] at cK
 unfold vOp
 simp only
 by_cases hk : k = ⟨#[]⟩
 ·subst hk
  rw [em_nil] at HE
  by_cases ht : t = 0
  ·subst ht
   rw [z_nil] at HE
   by_cases hd : d = ⟨#[]⟩
   ·subst hd
    rw [em_nil] at HE
    go_enter Tryz.func97, Tryz.ntmps97
    go_wp2_with fail
    refine (cH _).mono ?_
    rintro e w' ⟨rfl, rfl⟩
    go_wp2_with fail
    go_ret
    exact ⟨by rw [HE.out]; first | rfl | simp, HB.out⟩
   ·obtain ⟨ed1, ed2, ed3, ed4⟩ := em_facts hd
    rw [ed4] at HE
    clear ed4 hd
    go_enter Tryz.func97, Tryz.ntmps97
    go_wp2_with fail
    go_ret
    exact ⟨by rw [HE.out]; first | rfl | simp, HB.out⟩
  ·obtain ⟨et1, et2, et4⟩ := z_facts ht
   rw [et4] at HE
   clear et4 ht
   by_cases hd : d = ⟨#[]⟩
   ·subst hd
    rw [em_nil] at HE
    go_enter Tryz.func97, Tryz.ntmps97
    go_wp2_with fail
    go_ret
    exact ⟨by rw [HE.out]; first | rfl | simp, HB.out⟩
   ·obtain ⟨ed1, ed2, ed3, ed4⟩ := em_facts hd
    rw [ed4] at HE
    clear ed4 hd
    go_enter Tryz.func97, Tryz.ntmps97
    go_wp2_with fail
    go_ret
    exact ⟨by rw [HE.out]; first | rfl | simp, HB.out⟩
 ·obtain ⟨ek1, ek2, ek3, ek4⟩ := em_facts hk
  rw [ek4] at HE
  clear ek4 hk
  by_cases ht : t = 0
  ·subst ht
   rw [z_nil] at HE
   by_cases hd : d = ⟨#[]⟩
   ·subst hd
    rw [em_nil] at HE
    go_enter Tryz.func97, Tryz.ntmps97
    go_wp2_with fail
    go_ret
    exact ⟨by rw [HE.out]; first | rfl | simp, HB.out⟩
   ·obtain ⟨ed1, ed2, ed3, ed4⟩ := em_facts hd
    rw [ed4] at HE
    clear ed4 hd
    go_enter Tryz.func97, Tryz.ntmps97
    go_wp2_with fail
    go_ret
    exact ⟨by rw [HE.out]; first | rfl | simp, HB.out⟩
  ·obtain ⟨et1, et2, et4⟩ := z_facts ht
   rw [et4] at HE
   clear et4 ht
   by_cases hd : d = ⟨#[]⟩
   ·subst hd
    rw [em_nil] at HE
    go_enter Tryz.func97, Tryz.ntmps97
    go_wp2_with fail
    go_ret
    exact ⟨by rw [HE.out]; first | rfl | simp, HB.out⟩
   ·obtain ⟨ed1, ed2, ed3, ed4⟩ := em_facts hd
    rw [ed4] at HE
    clear ed4 hd
    go_enter Tryz.func97, Tryz.ntmps97
    go_wp2_with fail
    go_ret
    exact ⟨by rw [HE.out]; first | rfl | simp, HB.out⟩
set_option maxHeartbeats 4000000 in
theorem implOpOk_6 (k : ByteArray) (f t : Int) (d : ByteArray) (w : World) (hk : k.size ≤ maxLen) : Calls Tryz.prog 97 #[vOp ⟨6, k, f, t, d⟩] w fun e w' => e = .returned (.bool (opOk ⟨6, k, f, t, d⟩)) ∧ Below w.heap.size w w' := by
 have HE : Hid (opOk ⟨6, k, f, t, d⟩ = (inRg f 0 1099511627776 && emB k && zB t && emB d)) := by unfold Hid opOk; simp
 have HB : Hid (Below w.heap.size w (w.alloc (.cells #[.int .i64 6, .string k, .int .i64 f, .int .i64 t, .string d] 38))) := below_a1 _ _
 have cS := implSpanOk f t
 have cI := inI f 0 1099511627776
 have cH := inI f 0 100000
 have cK := fun wx => implIsKey k wx hk
 clear hk
 rw [show decide (KOk k) = keyB k from by unfold keyB; first | rfl | congr] at cK
 unfold vOp
 simp only
 by_cases hk : k = ⟨#[]⟩
 ·subst hk
  rw [em_nil] at HE
  by_cases ht : t = 0
  ·subst ht
   rw [z_nil] at HE
   by_cases hd : d = ⟨#[]⟩
   ·subst hd
    rw [em_nil] at HE
    go_enter Tryz.func97, Tryz.ntmps97
    go_wp2_with fail
    refine (cI _).mono ?_
    rintro e w' ⟨rfl, rfl⟩
    go_wp2_with fail
    go_ret
    exact ⟨by rw [HE.out]; first | rfl | simp, HB.out⟩
   ·obtain ⟨ed1, ed2, ed3, ed4⟩ := em_facts hd
    rw [ed4] at HE
    clear ed4 hd
    go_enter Tryz.func97, Tryz.ntmps97
    go_wp2_with fail
    go_ret
    exact ⟨by rw [HE.out]; first | rfl | simp, HB.out⟩
  ·obtain ⟨et1, et2, et4⟩ := z_facts ht
   rw [et4] at HE
   clear et4 ht
   by_cases hd : d = ⟨#[]⟩
   ·subst hd
    rw [em_nil] at HE
    go_enter Tryz.func97, Tryz.ntmps97
    go_wp2_with fail
    go_ret
    exact ⟨by rw [HE.out]; first | rfl | simp, HB.out⟩
   ·obtain ⟨ed1, ed2, ed3, ed4⟩ := em_facts hd
    rw [ed4] at HE
    clear ed4 hd
    go_enter Tryz.func97, Tryz.ntmps97
    go_wp2_with fail
    go_ret
    exact ⟨by rw [HE.out]; first | rfl | simp, HB.out⟩
 ·obtain ⟨ek1, ek2, ek3, ek4⟩ := em_facts hk
  rw [ek4] at HE
  clear ek4 hk
  by_cases ht : t = 0
  ·subst ht
   rw [z_nil] at HE
   by_cases hd : d = ⟨#[]⟩
   ·subst hd
    rw [em_nil] at HE
    go_enter Tryz.func97, Tryz.ntmps97
    go_wp2_with fail
    go_ret
    exact ⟨by rw [HE.out]; first | rfl | simp, HB.out⟩
   ·obtain ⟨ed1, ed2, ed3, ed4⟩ := em_facts hd
    rw [ed4] at HE
    clear ed4 hd
    go_enter Tryz.func97, Tryz.ntmps97
    go_wp2_with fail
    go_ret
    exact ⟨by rw [HE.out]; first | rfl | simp, HB.out⟩
  ·obtain ⟨et1, et2, et4⟩ := z_facts ht
   rw [et4] at HE
   clear et4 ht
   by_cases hd : d = ⟨#[]⟩
   ·subst hd
    rw [em_nil] at HE
    go_enter Tryz.func97, Tryz.ntmps97
    go_wp2_with fail
    go_ret
    exact ⟨by rw [HE.out]; first | rfl | simp, HB.out⟩
   ·obtain ⟨ed1, ed2, ed3, ed4⟩ := em_facts hd
    rw [ed4] at HE
    clear ed4 hd
    go_enter Tryz.func97, Tryz.ntmps97
    go_wp2_with fail
    go_ret
    exact ⟨by rw [HE.out]; first | rfl | simp, HB.out⟩
set_option maxHeartbeats 4000000 in
theorem implOpOk_7 (k : ByteArray) (f t : Int) (d : ByteArray) (w : World) (hk : k.size ≤ maxLen) : Calls Tryz.prog 97 #[vOp ⟨7, k, f, t, d⟩] w fun e w' => e = .returned (.bool (opOk ⟨7, k, f, t, d⟩)) ∧ Below w.heap.size w w' := by
 have HE : Hid (opOk ⟨7, k, f, t, d⟩ = (emB k && zB f && zB t && emB d)) := by unfold Hid opOk; simp
 have HB : Hid (Below w.heap.size w (w.alloc (.cells #[.int .i64 7, .string k, .int .i64 f, .int .i64 t, .string d] 38))) := below_a1 _ _
 have cS := implSpanOk f t
 have cI := inI f 0 1099511627776
 have cH := inI f 0 100000
 have cK := fun wx => implIsKey k wx hk
 clear hk
 rw [show decide (KOk k) = keyB k from by unfold keyB; first | rfl | congr] at cK
 unfold vOp
 simp only
 by_cases hk : k = ⟨#[]⟩
 ·subst hk
  rw [em_nil] at HE
  by_cases hf : f = 0
  ·subst hf
   rw [z_nil] at HE
   by_cases ht : t = 0
   ·subst ht
    rw [z_nil] at HE
    by_cases hd : d = ⟨#[]⟩
    ·subst hd
     rw [em_nil] at HE
     go_enter Tryz.func97, Tryz.ntmps97
     go_wp2_with fail
     go_ret
     exact ⟨by rw [HE.out]; first | rfl | simp, HB.out⟩
    ·obtain ⟨ed1, ed2, ed3, ed4⟩ := em_facts hd
     rw [ed4] at HE
     clear ed4 hd
     go_enter Tryz.func97, Tryz.ntmps97
     go_wp2_with fail
     go_ret
     exact ⟨by rw [HE.out]; first | rfl | simp, HB.out⟩
   ·obtain ⟨et1, et2, et4⟩ := z_facts ht
    rw [et4] at HE
    clear et4 ht
    by_cases hd : d = ⟨#[]⟩
    ·subst hd
     rw [em_nil] at HE
     go_enter Tryz.func97, Tryz.ntmps97
     go_wp2_with fail
     go_ret
     exact ⟨by rw [HE.out]; first | rfl | simp, HB.out⟩
    ·obtain ⟨ed1, ed2, ed3, ed4⟩ := em_facts hd
     rw [ed4] at HE
     clear ed4 hd
     go_enter Tryz.func97, Tryz.ntmps97
     go_wp2_with fail
     go_ret
     exact ⟨by rw [HE.out]; first | rfl | simp, HB.out⟩
  ·obtain ⟨ef1, ef2, ef4⟩ := z_facts hf
   rw [ef4] at HE
   clear ef4 hf
   by_cases ht : t = 0
   ·subst ht
    rw [z_nil] at HE
    by_cases hd : d = ⟨#[]⟩
    ·subst hd
     rw [em_nil] at HE
     go_enter Tryz.func97, Tryz.ntmps97
     go_wp2_with fail
     go_ret
     exact ⟨by rw [HE.out]; first | rfl | simp, HB.out⟩
    ·obtain ⟨ed1, ed2, ed3, ed4⟩ := em_facts hd
     rw [ed4] at HE
     clear ed4 hd
     go_enter Tryz.func97, Tryz.ntmps97
     go_wp2_with fail
     go_ret
     exact ⟨by rw [HE.out]; first | rfl | simp, HB.out⟩
   ·obtain ⟨et1, et2, et4⟩ := z_facts ht
    rw [et4] at HE
    clear et4 ht
    by_cases hd : d = ⟨#[]⟩
    ·subst hd
     rw [em_nil] at HE
     go_enter Tryz.func97, Tryz.ntmps97
     go_wp2_with fail
     go_ret
     exact ⟨by rw [HE.out]; first | rfl | simp, HB.out⟩
    ·obtain ⟨ed1, ed2, ed3, ed4⟩ := em_facts hd
     rw [ed4] at HE
     clear ed4 hd
     go_enter Tryz.func97, Tryz.ntmps97
     go_wp2_with fail
     go_ret
     exact ⟨by rw [HE.out]; first | rfl | simp, HB.out⟩
 ·obtain ⟨ek1, ek2, ek3, ek4⟩ := em_facts hk
  rw [ek4] at HE
  clear ek4 hk
  by_cases hf : f = 0
  ·subst hf
   rw [z_nil] at HE
   by_cases ht : t = 0
   ·subst ht
    rw [z_nil] at HE
    by_cases hd : d = ⟨#[]⟩
    ·subst hd
     rw [em_nil] at HE
     go_enter Tryz.func97, Tryz.ntmps97
     go_wp2_with fail
     go_ret
     exact ⟨by rw [HE.out]; first | rfl | simp, HB.out⟩
    ·obtain ⟨ed1, ed2, ed3, ed4⟩ := em_facts hd
     rw [ed4] at HE
     clear ed4 hd
     go_enter Tryz.func97, Tryz.ntmps97
     go_wp2_with fail
     go_ret
     exact ⟨by rw [HE.out]; first | rfl | simp, HB.out⟩
   ·obtain ⟨et1, et2, et4⟩ := z_facts ht
    rw [et4] at HE
    clear et4 ht
    by_cases hd : d = ⟨#[]⟩
    ·subst hd
     rw [em_nil] at HE
     go_enter Tryz.func97, Tryz.ntmps97
     go_wp2_with fail
     go_ret
     exact ⟨by rw [HE.out]; first | rfl | simp, HB.out⟩
    ·obtain ⟨ed1, ed2, ed3, ed4⟩ := em_facts hd
     rw [ed4] at HE
     clear ed4 hd
     go_enter Tryz.func97, Tryz.ntmps97
     go_wp2_with fail
     go_ret
     exact ⟨by rw [HE.out]; first | rfl | simp, HB.out⟩
  ·obtain ⟨ef1, ef2, ef4⟩ := z_facts hf
   rw [ef4] at HE
   clear ef4 hf
   by_cases ht : t = 0
   ·subst ht
    rw [z_nil] at HE
    by_cases hd : d = ⟨#[]⟩
    ·subst hd
     rw [em_nil] at HE
     go_enter Tryz.func97, Tryz.ntmps97
     go_wp2_with fail
     go_ret
     exact ⟨by rw [HE.out]; first | rfl | simp, HB.out⟩
    ·obtain ⟨ed1, ed2, ed3, ed4⟩ := em_facts hd
     rw [ed4] at HE
     clear ed4 hd
     go_enter Tryz.func97, Tryz.ntmps97
     go_wp2_with fail
     go_ret
     exact ⟨by rw [HE.out]; first | rfl | simp, HB.out⟩
   ·obtain ⟨et1, et2, et4⟩ := z_facts ht
    rw [et4] at HE
    clear et4 ht
    by_cases hd : d = ⟨#[]⟩
    ·subst hd
     rw [em_nil] at HE
     go_enter Tryz.func97, Tryz.ntmps97
     go_wp2_with fail
     go_ret
     exact ⟨by rw [HE.out]; first | rfl | simp, HB.out⟩
    ·obtain ⟨ed1, ed2, ed3, ed4⟩ := em_facts hd
     rw [ed4] at HE
     clear ed4 hd
     go_enter Tryz.func97, Tryz.ntmps97
     go_wp2_with fail
     go_ret
     exact ⟨by rw [HE.out]; first | rfl | simp, HB.out⟩
set_option maxHeartbeats 4000000 in
theorem implOpOk_5 (k : ByteArray) (f t : Int) (d : ByteArray) (w : World) (hk : k.size ≤ maxLen) : Calls Tryz.prog 97 #[vOp ⟨5, k, f, t, d⟩] w fun e w' => e = .returned (.bool (opOk ⟨5, k, f, t, d⟩)) ∧ Below w.heap.size w w' := by
 have HE : Hid (opOk ⟨5, k, f, t, d⟩ = (keyB k && spanB f t && emB d)) := by unfold Hid opOk; simp
 have HB : Hid (Below w.heap.size w (w.alloc (.cells #[.int .i64 5, .string k, .int .i64 f, .int .i64 t, .string d] 38))) := below_a1 _ _
 have cS := implSpanOk f t
 have cI := inI f 0 1099511627776
 have cH := inI f 0 100000
 have cK := fun wx => implIsKey k wx hk
 clear hk
 rw [show decide (KOk k) = keyB k from by unfold keyB; first | rfl | congr] at cK
 unfold vOp
 simp only
 by_cases hd : d = ⟨#[]⟩
 ·subst hd
  rw [em_nil] at HE
  go_enter Tryz.func97, Tryz.ntmps97
  go_wp2_with fail
  refine (cK _).mono ?_
  rintro e w1 ⟨rfl, rfl⟩
  cases hc : keyB k <;> rw [hc] at HE
  ·go_wp2_with fail
   go_ret
   exact ⟨by rw [HE.out]; first | rfl | simp, HB.out⟩
  ·go_wp2_with fail
   refine (cS _).mono ?_
   rintro e w' ⟨rfl, rfl⟩
   go_wp2_with fail
   go_ret
   exact ⟨by rw [HE.out]; first | rfl | simp, HB.out⟩
 ·obtain ⟨ed1, ed2, ed3, ed4⟩ := em_facts hd
  rw [ed4] at HE
  clear ed4 hd
  go_enter Tryz.func97, Tryz.ntmps97
  go_wp2_with fail
  go_ret
  exact ⟨by rw [HE.out]; first | rfl | simp, HB.out⟩
set_option maxHeartbeats 4000000 in
theorem implOpOk_4 (k : ByteArray) (f t : Int) (d : ByteArray) (w : World) (hk : k.size ≤ maxLen) (hd : d.size ≤ 1048576) (hst : SumTab w) (a0 a1 a2 : Addr) (he : Errs w a0 a1 a2) : Calls Tryz.prog 97 #[vOp ⟨4, k, f, t, d⟩] w fun e w' => e = .returned (.bool (opOk ⟨4, k, f, t, d⟩)) ∧ Below w.heap.size w w' := by
 have HE : Hid (opOk ⟨4, k, f, t, d⟩ = (keyB k && rdB d && zB f && zB t)) := by unfold Hid opOk; simp
 obtain ⟨X, hX⟩ : ∃ X, X = w.alloc (.cells #[.int .i64 4, .string k, .int .i64 f, .int .i64 t, .string d] 38) := ⟨_, rfl⟩
 have HBX : Hid (Below w.heap.size w X) := by rw [hX]; exact below_a1 _ _
 have KX : Hid (CellO X w.heap.size ⟨4, k, f, t, d⟩) := by rw [hX]; exact CellO.new w ⟨4, k, f, t, d⟩ _
 have cR := implReadBlock d X hd (hst.on HBX.out) a0 a1 a2 (he.on HBX.out)
 have cK := fun wx => implIsKey k wx hk
 clear hk hd hst he
 rw [show decide (KOk k) = keyB k from by unfold keyB; first | rfl | congr] at cK
 unfold vOp
 simp only
 go_enter Tryz.func97, Tryz.ntmps97
 go_wp2_with fail
 rw [← hX]
 clear hX
 refine cR.mono ?_
 rintro e w1 ⟨⟨u, l, ok, hA, rfl, hO⟩, hb⟩
 have hr := rdB_is hA
 rw [hr] at HE
 have HB : Hid (Below w.heap.size w w1) := HBX.out.trans (hb.mono HBX.out.size)
 obtain ⟨⟨g0, g1, g2, g3, g4⟩, _⟩ := KX.out.on hb KX.out.2
 simp only at g0 g1 g2 g3 g4
 obtain ⟨Au, mu, cu, rfl⟩ := hO.shape
 clear hA hO hb hr cR KX
 by_cases hf : f = 0
 ·subst hf
  rw [z_nil] at HE
  by_cases ht : t = 0
  ·subst ht
   rw [z_nil] at HE
   go_wp2_with fail
   refine (cK _).mono ?_
   rintro e w' ⟨rfl, rfl⟩
   cases hc : keyB k <;> rw [hc] at HE
   ·go_wp2_with fail
    go_ret
    exact ⟨by rw [HE.out]; first | rfl | simp, HB.out⟩
   ·go_wp2_with fail
    go_ret
    exact ⟨by rw [HE.out]; first | rfl | simp, HB.out⟩
  ·obtain ⟨et1, et2, et4⟩ := z_facts ht
   rw [et4] at HE
   clear et4 ht
   go_wp2_with fail
   go_ret
   exact ⟨by rw [HE.out]; first | rfl | simp, HB.out⟩
 ·obtain ⟨ef1, ef2, ef4⟩ := z_facts hf
  rw [ef4] at HE
  clear ef4 hf
  by_cases ht : t = 0
  ·subst ht
   rw [z_nil] at HE
   go_wp2_with fail
   go_ret
   exact ⟨by rw [HE.out]; first | rfl | simp, HB.out⟩
  ·obtain ⟨et1, et2, et4⟩ := z_facts ht
   rw [et4] at HE
   clear et4 ht
   go_wp2_with fail
   go_ret
   exact ⟨by rw [HE.out]; first | rfl | simp, HB.out⟩
set_option maxHeartbeats 4000000 in
theorem implOpOk_no (x : Opx) (w : World) (h : x.kind ≠ 1 ∧ x.kind ≠ 2 ∧ x.kind ≠ 3 ∧ x.kind ≠ 4 ∧ x.kind ≠ 5 ∧ x.kind ≠ 6 ∧ x.kind ≠ 7) : Calls Tryz.prog 97 #[vOp x] w fun e w' => e = .returned (.bool (opOk x)) ∧ Below w.heap.size w w' := by
 obtain ⟨n, k, f, t, d⟩ := x
 simp only at h
 obtain ⟨h1, h2, h3, h4, h5, h6, h7⟩ := h
 have HE : Hid (opOk ⟨n, k, f, t, d⟩ = false) := by unfold Hid opOk; simp [h1, h2, h3, h4, h5, h6, h7]
 have HB : Hid (Below w.heap.size w (w.alloc (.cells #[.int .i64 n, .string k, .int .i64 f, .int .i64 t, .string d] 38))) := below_a1 _ _
 have z1 : (n == 1) = false := by simpa using h1
 have z2 : (n == 2) = false := by simpa using h2
 have z3 : (n == 3) = false := by simpa using h3
 have z4 : (n == 4) = false := by simpa using h4
 have z5 : (n == 5) = false := by simpa using h5
 have z6 : (n == 6) = false := by simpa using h6
 have z7 : (n == 7) = false := by simpa using h7
 clear h1 h2 h3 h4 h5 h6 h7
 unfold vOp
 simp only
 go_enter Tryz.func97, Tryz.ntmps97
 go_wp2_with fail
 go_ret
 exact ⟨by rw [HE.out]; rfl, HB.out⟩
theorem implOpOk (x : Opx) (w : World) (hk : x.key.size ≤ maxLen) (hd : x.data.size ≤ 1048576) (hst : SumTab w) (a0 a1 a2 : Addr) (he : Errs w a0 a1 a2) : Calls Tryz.prog 97 #[vOp x] w fun e w' => e = .returned (.bool (opOk x)) ∧ Below w.heap.size w w' := by
 by_cases h : x.kind ≠ 1 ∧ x.kind ≠ 2 ∧ x.kind ≠ 3 ∧ x.kind ≠ 4 ∧ x.kind ≠ 5 ∧ x.kind ≠ 6 ∧ x.kind ≠ 7
 ·exact implOpOk_no x w h
 ·obtain ⟨n, k, f, t, d⟩ := x
  simp only at h hk hd
  have : n = 1 ∨ n = 2 ∨ n = 3 ∨ n = 4 ∨ n = 5 ∨ n = 6 ∨ n = 7 := by omega
  rcases this with rfl | rfl | rfl | rfl | rfl | rfl | rfl
  ·exact implOpOk_1 k f t d w hk
  ·exact implOpOk_2 k f t d w hk
  ·exact implOpOk_3 k f t d w hk
  ·exact implOpOk_4 k f t d w hk hd hst a0 a1 a2 he
  ·exact implOpOk_5 k f t d w hk
  ·exact implOpOk_6 k f t d w hk
  ·exact implOpOk_7 k f t d w hk
end Go.Proofs.YtifmjdakefkbiaaGreatDoor
namespace Go.Proofs.YtifmjdakefkbiaaGreatDoor
open Go.ChangeShapes Go.WideShapes Go.ChangeAt Go.RowKit Go.PlainAid
set_option linter.unusedVariables false
def lf (s : ByteArray) (i : Nat) : ByteArray := s.extract i s.size
theorem lf_size (s : ByteArray) (i : Nat) : (lf s i).size = s.size - i := by rw [lf, ByteArray.size_extract]; omega
theorem lf_zero (s : ByteArray) : lf s 0 = s := ByteArray.extract_zero_size
theorem lf_lf (s : ByteArray) (i j : Nat) : (lf s i).extract j (lf s i).size = lf s (i + j) := by
 rw [lf_size]
 unfold lf
 rw [ByteArray.extract_extract]
 by_cases h : i ≤ s.size
 ·congr 1 <;> omega
 ·have e1 : (s.extract (i + j) (min (i + (s.size - i)) s.size)).size = 0 := by rw [ByteArray.size_extract]; omega
  have e2 : (s.extract (i + j) s.size).size = 0 := by rw [ByteArray.size_extract]; omega
  rw [ByteArray.size_eq_zero_iff] at e1 e2
  rw [e1, e2]
def RdF (s : ByteArray) (a : Nat) : Nat → List Int → Nat → Prop
 | 0, l, n => l = [] ∧ n = a
 | k + 1, l, n => ∃ l' n' m, RdF s a k l' n' ∧ FindV (lf s n') m ∧ l = l' ++ [(vvS (lf s n') 0 m : Int)] ∧ n = n' + m
theorem RdF.one {s : ByteArray} {a : Nat} : ∀ {k : Nat} {l l' : List Int} {n n' : Nat}, RdF s a k l n → RdF s a k l' n' → l = l' ∧ n = n'
 | 0, _, _, _, _, h, h' => ⟨h.1.trans h'.1.symm, h.2.trans h'.2.symm⟩
 | k + 1, _, _, _, _, ⟨a, b, m, h1, h2, h3, h4⟩, ⟨a', b', m', h1', h2', h3', h4'⟩ => by
  obtain ⟨rfl, rfl⟩ := RdF.one h1 h1'
  have := h2.one h2'
  subst this
  exact ⟨h3.trans h3'.symm, h4.trans h4'.symm⟩
theorem RdF.before {s : ByteArray} {a : Nat} : ∀ {k : Nat} {l : List Int} {n : Nat}, RdF s a k l n → ∀ j, j < k → ∃ l' n' m, RdF s a j l' n' ∧ FindV (lf s n') m
 | 0, _, _, _, j, hj => by omega
 | k + 1, _, _, ⟨a, b, m, h1, h2, h3, h4⟩, j, hj => by
  by_cases e : j = k
  ·subst e; exact ⟨a, b, m, h1, h2⟩
  ·exact RdF.before h1 j (by omega)
theorem RdF.no {s : ByteArray} {a k j : Nat} {l : List Int} {n : Nat} (h1 : RdF s a j l n) (hj : j < k) (h2 : ∀ m, ¬ FindV (lf s n) m) : ∀ l' n', ¬ RdF s a k l' n' := by
 intro l' n' h
 obtain ⟨l2, n2, m, h3, h4⟩ := h.before j hj
 obtain ⟨rfl, rfl⟩ := h1.one h3
 exact h2 m h4
theorem RdF.length {s : ByteArray} {a : Nat} : ∀ {k : Nat} {l : List Int} {n : Nat}, RdF s a k l n → l.length = k
 | 0, _, _, h => by rw [h.1]; rfl
 | k + 1, _, _, ⟨a, b, m, h1, h2, h3, h4⟩ => by rw [h3, List.length_append, RdF.length h1]; rfl
theorem RdF.ge {s : ByteArray} {a : Nat} : ∀ {k : Nat} {l : List Int} {n : Nat}, RdF s a k l n → a + k ≤ n ∧ (1 ≤ k → n ≤ s.size)
 | 0, _, _, h => ⟨by rw [h.2]; omega, by omega⟩
 | k + 1, _, _, ⟨a, b, m, h1, h2, h3, h4⟩ => by
  have h5 := RdF.ge h1
  obtain ⟨h6, h7, h8, _⟩ := h2
  rw [lf_size] at h8
  exact ⟨by omega, by omega⟩
theorem RdF.le {s : ByteArray} {a : Nat} : ∀ {k : Nat} {l : List Int} {n : Nat}, RdF s a k l n → n ≤ a + 7 * k
 | 0, _, _, h => by rw [h.2]; omega
 | k + 1, _, _, ⟨a, b, m, h1, h2, h3, h4⟩ => by
  have h5 := RdF.le h1
  obtain ⟨h6, h7, h8, _⟩ := h2
  omega
theorem RdF.bound {s : ByteArray} {a : Nat} : ∀ {k : Nat} {l : List Int} {n : Nat}, RdF s a k l n → ∀ z ∈ l, 0 ≤ z ∧ z ≤ 562949953421311
 | 0, _, _, h, z, hz => by rw [h.1] at hz; cases hz
 | k + 1, _, _, ⟨a, b, m, h1, h2, h3, h4⟩, z, hz => by
  rw [h3] at hz
  rcases List.mem_append.1 hz with hz | hz
  ·exact RdF.bound h1 z hz
  ·simp at hz
   have := vvS_le (lf s b) m h2.2.1 0
   omega
theorem find_text {t : ByteArray} {m : Nat} (h : FindV t m) : txt (vF 6 (vvS t 0 m)) = t.extract 0 m := by
 obtain ⟨h1, h7, h8, h9⟩ := h
 obtain ⟨d, rfl⟩ : ∃ d, m = d + 1 := ⟨m - 1, by omega⟩
 rw [sg_extract t _ h8, (canonS_iff t d 0 6 (by omega)).2 h9]
def varsT : List Int → ByteArray
 | [] => ByteArray.empty
 | z :: l => txt (vF 6 z.toNat) ++ varsT l
theorem varsT_append (l m : List Int) : varsT (l ++ m) = varsT l ++ varsT m := by
 induction l with
 | nil => simp [varsT]
 | cons z l ih => simp [varsT, ih, ByteArray.append_assoc]
theorem RdF.text {s : ByteArray} {a : Nat} : ∀ {k : Nat} {l : List Int} {n : Nat}, RdF s a k l n → s.extract a n = varsT l
 | 0, _, _, h => by rw [h.1, h.2]; apply ByteArray.ext; simp [varsT]
 | k + 1, _, _, ⟨l, b, m, h1, h2, h3, h4⟩ => by
  have h5 := RdF.text h1
  have hge := RdF.ge h1
  have h8 := h2.2.2.1
  have h61 := h2.1
  rw [lf_size] at h8
  have e : s.extract a (b + m) = s.extract a b ++ s.extract b (b + m) := by
   rw [ByteArray.extract_append_extract]
   congr 1 <;> omega
  have e2 : (lf s b).extract 0 m = s.extract b (b + m) := by
   unfold lf
   rw [ByteArray.extract_extract]
   congr 1
   omega
  rw [h3, h4, e, h5, varsT_append, ← e2, ← find_text h2]
  simp [varsT]
theorem cut_in_two (s : ByteArray) (n : Nat) (h : n ≤ s.size) : s = s.extract 0 n ++ lf s n := by
 unfold lf
 rw [ByteArray.extract_append_extract]
 have e1 : min 0 n = 0 := by omega
 have e2 : max n s.size = s.size := by omega
 rw [e1, e2]
 exact ByteArray.extract_zero_size.symm
end Go.Proofs.YtifmjdakefkbiaaGreatDoor
namespace Go.Proofs.YtifmjdakefkbiaaGreatDoor
open Go.ChangeShapes Go.WideShapes Go.ChangeAt Go.RowKit Go.PlainAid
set_option linter.unusedVariables false
theorem resC4 {w : World} {g : Nat} {a0 a1 a2 a3 x0 x1 x2 x3 : Value} {t : TypeId} (h : Blk w g #[a0, a1, a2, a3] t) :
  (w.cell? ⟨g, 0, none⟩ = some a0 ∧ w.frozen? ⟨g, 0, none⟩ = false) ∧ ((w.setCell ⟨g, 0, none⟩ x0).cell? ⟨g, 1, none⟩ = some a1 ∧ (w.setCell ⟨g, 0, none⟩ x0).frozen? ⟨g, 1, none⟩ = false) ∧ (((w.setCell ⟨g, 0, none⟩ x0).setCell ⟨g, 1, none⟩ x1).cell? ⟨g, 2, none⟩ = some a2 ∧ ((w.setCell ⟨g, 0, none⟩ x0).setCell ⟨g, 1, none⟩ x1).frozen? ⟨g, 2, none⟩ = false) ∧ ((((w.setCell ⟨g, 0, none⟩ x0).setCell ⟨g, 1, none⟩ x1).setCell ⟨g, 2, none⟩ x2).cell? ⟨g, 3, none⟩ = some a3 ∧ (((w.setCell ⟨g, 0, none⟩ x0).setCell ⟨g, 1, none⟩ x1).setCell ⟨g, 2, none⟩ x2).frozen? ⟨g, 3, none⟩ = false) ∧
  ((((w.setCell ⟨g, 0, none⟩ x0).setCell ⟨g, 1, none⟩ x1).setCell ⟨g, 2, none⟩ x2).setCell ⟨g, 3, none⟩ x3).cell? ⟨g, 0, none⟩ = some x0 ∧ ((((w.setCell ⟨g, 0, none⟩ x0).setCell ⟨g, 1, none⟩ x1).setCell ⟨g, 2, none⟩ x2).setCell ⟨g, 3, none⟩ x3).cell? ⟨g, 1, none⟩ = some x1 ∧ ((((w.setCell ⟨g, 0, none⟩ x0).setCell ⟨g, 1, none⟩ x1).setCell ⟨g, 2, none⟩ x2).setCell ⟨g, 3, none⟩ x3).cell? ⟨g, 2, none⟩ = some x2 ∧ ((((w.setCell ⟨g, 0, none⟩ x0).setCell ⟨g, 1, none⟩ x1).setCell ⟨g, 2, none⟩ x2).setCell ⟨g, 3, none⟩ x3).cell? ⟨g, 3, none⟩ = some x3 := by
 have h1 : Blk (w.setCell ⟨g, 0, none⟩ x0) g #[x0, a1, a2, a3] t := h.set 0 x0
 have h2 : Blk ((w.setCell ⟨g, 0, none⟩ x0).setCell ⟨g, 1, none⟩ x1) g #[x0, x1, a2, a3] t := h1.set 1 x1
 have h3 : Blk (((w.setCell ⟨g, 0, none⟩ x0).setCell ⟨g, 1, none⟩ x1).setCell ⟨g, 2, none⟩ x2) g #[x0, x1, x2, a3] t := h2.set 2 x2
 have h4 : Blk ((((w.setCell ⟨g, 0, none⟩ x0).setCell ⟨g, 1, none⟩ x1).setCell ⟨g, 2, none⟩ x2).setCell ⟨g, 3, none⟩ x3) g #[x0, x1, x2, x3] t := h3.set 3 x3
 exact ⟨⟨h.cell 0 _ rfl, h.free 0⟩, ⟨h1.cell 1 _ rfl, h1.free 1⟩, ⟨h2.cell 2 _ rfl, h2.free 2⟩, ⟨h3.cell 3 _ rfl, h3.free 3⟩, h4.cell 0 _ rfl, h4.cell 1 _ rfl, h4.cell 2 _ rfl, h4.cell 3 _ rfl⟩
theorem belowC4 {w w' : World} {B g : Nat} (h : Below B w w') (hg : B ≤ g) (x0 x1 x2 x3 : Value) : Below B w ((((w'.setCell ⟨g, 0, none⟩ x0).setCell ⟨g, 1, none⟩ x1).setCell ⟨g, 2, none⟩ x2).setCell ⟨g, 3, none⟩ x3) := ((((h.setCell hg _).setCell hg _).setCell hg _).setCell hg _)
theorem cellsC4 {w : World} {g : Nat} {a0 a1 a2 a3 : Value} {t : TypeId} (h : Blk w g #[a0, a1, a2, a3] t) : w.cell? ⟨g, 0, none⟩ = some a0 ∧ w.cell? ⟨g, 1, none⟩ = some a1 ∧ w.cell? ⟨g, 2, none⟩ = some a2 ∧ w.cell? ⟨g, 3, none⟩ = some a3 := ⟨h.cell 0 _ rfl, h.cell 1 _ rfl, h.cell 2 _ rfl, h.cell 3 _ rfl⟩
theorem resC5 {w : World} {g : Nat} {a0 a1 a2 a3 a4 x0 x1 x2 x3 x4 : Value} {t : TypeId} (h : Blk w g #[a0, a1, a2, a3, a4] t) :
  (w.cell? ⟨g, 0, none⟩ = some a0 ∧ w.frozen? ⟨g, 0, none⟩ = false) ∧ ((w.setCell ⟨g, 0, none⟩ x0).cell? ⟨g, 1, none⟩ = some a1 ∧ (w.setCell ⟨g, 0, none⟩ x0).frozen? ⟨g, 1, none⟩ = false) ∧ (((w.setCell ⟨g, 0, none⟩ x0).setCell ⟨g, 1, none⟩ x1).cell? ⟨g, 2, none⟩ = some a2 ∧ ((w.setCell ⟨g, 0, none⟩ x0).setCell ⟨g, 1, none⟩ x1).frozen? ⟨g, 2, none⟩ = false) ∧ ((((w.setCell ⟨g, 0, none⟩ x0).setCell ⟨g, 1, none⟩ x1).setCell ⟨g, 2, none⟩ x2).cell? ⟨g, 3, none⟩ = some a3 ∧ (((w.setCell ⟨g, 0, none⟩ x0).setCell ⟨g, 1, none⟩ x1).setCell ⟨g, 2, none⟩ x2).frozen? ⟨g, 3, none⟩ = false) ∧ (((((w.setCell ⟨g, 0, none⟩ x0).setCell ⟨g, 1, none⟩ x1).setCell ⟨g, 2, none⟩ x2).setCell ⟨g, 3, none⟩ x3).cell? ⟨g, 4, none⟩ = some a4 ∧ ((((w.setCell ⟨g, 0, none⟩ x0).setCell ⟨g, 1, none⟩ x1).setCell ⟨g, 2, none⟩ x2).setCell ⟨g, 3, none⟩ x3).frozen? ⟨g, 4, none⟩ = false) ∧
  (((((w.setCell ⟨g, 0, none⟩ x0).setCell ⟨g, 1, none⟩ x1).setCell ⟨g, 2, none⟩ x2).setCell ⟨g, 3, none⟩ x3).setCell ⟨g, 4, none⟩ x4).cell? ⟨g, 0, none⟩ = some x0 ∧ (((((w.setCell ⟨g, 0, none⟩ x0).setCell ⟨g, 1, none⟩ x1).setCell ⟨g, 2, none⟩ x2).setCell ⟨g, 3, none⟩ x3).setCell ⟨g, 4, none⟩ x4).cell? ⟨g, 1, none⟩ = some x1 ∧ (((((w.setCell ⟨g, 0, none⟩ x0).setCell ⟨g, 1, none⟩ x1).setCell ⟨g, 2, none⟩ x2).setCell ⟨g, 3, none⟩ x3).setCell ⟨g, 4, none⟩ x4).cell? ⟨g, 2, none⟩ = some x2 ∧ (((((w.setCell ⟨g, 0, none⟩ x0).setCell ⟨g, 1, none⟩ x1).setCell ⟨g, 2, none⟩ x2).setCell ⟨g, 3, none⟩ x3).setCell ⟨g, 4, none⟩ x4).cell? ⟨g, 3, none⟩ = some x3 ∧ (((((w.setCell ⟨g, 0, none⟩ x0).setCell ⟨g, 1, none⟩ x1).setCell ⟨g, 2, none⟩ x2).setCell ⟨g, 3, none⟩ x3).setCell ⟨g, 4, none⟩ x4).cell? ⟨g, 4, none⟩ = some x4 := by
 have h1 : Blk (w.setCell ⟨g, 0, none⟩ x0) g #[x0, a1, a2, a3, a4] t := h.set 0 x0
 have h2 : Blk ((w.setCell ⟨g, 0, none⟩ x0).setCell ⟨g, 1, none⟩ x1) g #[x0, x1, a2, a3, a4] t := h1.set 1 x1
 have h3 : Blk (((w.setCell ⟨g, 0, none⟩ x0).setCell ⟨g, 1, none⟩ x1).setCell ⟨g, 2, none⟩ x2) g #[x0, x1, x2, a3, a4] t := h2.set 2 x2
 have h4 : Blk ((((w.setCell ⟨g, 0, none⟩ x0).setCell ⟨g, 1, none⟩ x1).setCell ⟨g, 2, none⟩ x2).setCell ⟨g, 3, none⟩ x3) g #[x0, x1, x2, x3, a4] t := h3.set 3 x3
 have h5 : Blk (((((w.setCell ⟨g, 0, none⟩ x0).setCell ⟨g, 1, none⟩ x1).setCell ⟨g, 2, none⟩ x2).setCell ⟨g, 3, none⟩ x3).setCell ⟨g, 4, none⟩ x4) g #[x0, x1, x2, x3, x4] t := h4.set 4 x4
 exact ⟨⟨h.cell 0 _ rfl, h.free 0⟩, ⟨h1.cell 1 _ rfl, h1.free 1⟩, ⟨h2.cell 2 _ rfl, h2.free 2⟩, ⟨h3.cell 3 _ rfl, h3.free 3⟩, ⟨h4.cell 4 _ rfl, h4.free 4⟩, h5.cell 0 _ rfl, h5.cell 1 _ rfl, h5.cell 2 _ rfl, h5.cell 3 _ rfl, h5.cell 4 _ rfl⟩
theorem belowC5 {w w' : World} {B g : Nat} (h : Below B w w') (hg : B ≤ g) (x0 x1 x2 x3 x4 : Value) : Below B w (((((w'.setCell ⟨g, 0, none⟩ x0).setCell ⟨g, 1, none⟩ x1).setCell ⟨g, 2, none⟩ x2).setCell ⟨g, 3, none⟩ x3).setCell ⟨g, 4, none⟩ x4) := (((((h.setCell hg _).setCell hg _).setCell hg _).setCell hg _).setCell hg _)
theorem cellsC5 {w : World} {g : Nat} {a0 a1 a2 a3 a4 : Value} {t : TypeId} (h : Blk w g #[a0, a1, a2, a3, a4] t) : w.cell? ⟨g, 0, none⟩ = some a0 ∧ w.cell? ⟨g, 1, none⟩ = some a1 ∧ w.cell? ⟨g, 2, none⟩ = some a2 ∧ w.cell? ⟨g, 3, none⟩ = some a3 ∧ w.cell? ⟨g, 4, none⟩ = some a4 := ⟨h.cell 0 _ rfl, h.cell 1 _ rfl, h.cell 2 _ rfl, h.cell 3 _ rfl, h.cell 4 _ rfl⟩
end Go.Proofs.YtifmjdakefkbiaaGreatDoor
namespace Go.Proofs.YtifmjdakefkbiaaGreatDoor
open Go.ChangeShapes Go.WideShapes Go.ChangeAt Go.RowKit Go.PlainAid
set_option linter.unusedVariables false
def lackP : List PanicEntry := [{ v := .iface 9 (.string ⟨#[97, 32, 112, 97, 114, 116, 32, 108, 97, 99, 107, 115]⟩), recovered := false }]
def PKeep (g : Nat) (w w' : World) : Prop := Below g w w' ∧ ∀ b, b ≠ g → b < w.heap.size → w'.heap[b]? = w.heap[b]?
theorem PKeep.of {g : Nat} {w w' : World} (h : Below w.heap.size w w') (hg : g ≤ w.heap.size) : PKeep g w w' := ⟨h.mono hg, fun b _ hb => h.block b hb⟩
theorem PKeep.refl (g : Nat) (w : World) : PKeep g w w := ⟨Below.refl _ _, fun _ _ _ => rfl⟩
theorem PKeep.trans {g : Nat} {w w' w'' : World} (h : PKeep g w w') (h' : PKeep g w' w'') : PKeep g w w'' := ⟨h.1.trans h'.1, fun b hb hl => by rw [h'.2 b hb (Nat.lt_of_lt_of_le hl h.1.size), h.2 b hb hl]⟩
theorem PKeep.set {g : Nat} {w w' : World} (h : PKeep g w w') (i : Nat) (x : Value) : PKeep g w (w'.setCell ⟨g, i, none⟩ x) := ⟨h.1.setCell (Nat.le_refl _) _, fun b hb hl => by rw [Below.heap_setCell _ _ _ _ hb]; exact h.2 b hb hl⟩
theorem PKeep.setNew {g k : Nat} {w w' : World} (h : PKeep g w w') (hk : w.heap.size ≤ k) (hg : g ≤ k) (i : Nat) (x : Value) : PKeep g w (w'.setCell ⟨k, i, none⟩ x) := ⟨h.1.setCell hg _, fun b hb hl => by rw [Below.heap_setCell _ _ _ _ (show b ≠ k by omega)]; exact h.2 b hb hl⟩
theorem PKeep.alloc {g : Nat} {w w' : World} (h : PKeep g w w') (hg : g < w.heap.size) (o : Obj) : PKeep g w (w'.alloc o) := ⟨h.1.alloc (by have := h.1.size; omega) _, fun b hb hl => by rw [Below.heap_alloc _ _ _ (by have := h.1.size; omega)]; exact h.2 b hb hl⟩
theorem PKeep.cell {g : Nat} {w w' : World} (h : PKeep g w w') {p : Addr} (hp : p.block ≠ g) (hl : p.block < w.heap.size) : w'.cell? p = w.cell? p := World.cell?_of_block (w := w) (h.2 p.block hp hl)
theorem PKeep.frozen {g : Nat} {w w' : World} (h : PKeep g w w') {p : Addr} (hp : p.block ≠ g) (hl : p.block < w.heap.size) : w'.frozen? p = w.frozen? p := World.frozen?_of_block (w := w) (h.2 p.block hp hl)
def Prt (w : World) (g : Nat) (t : ByteArray) : Prop := w.heap[g]? = some (.cells #[.string t] 121 (0, 0))
theorem Prt.lt {w : World} {g : Nat} {t : ByteArray} (h : Prt w g t) : g < w.heap.size := lt_of_block h
theorem Prt.cell {w : World} {g : Nat} {t : ByteArray} (h : Prt w g t) : w.cell? ⟨g, 0, none⟩ = some (.string t) := by
 rw [cell_of_row _ _ 0 _ _ _ h]; rfl
theorem Prt.free {w : World} {g : Nat} {t : ByteArray} (h : Prt w g t) : w.frozen? ⟨g, 0, none⟩ = false := frozen_of_row w g 0 _ _ h
theorem Prt.put {w : World} {g : Nat} {t : ByteArray} (h : Prt w g t) (u : ByteArray) : Prt (w.setCell ⟨g, 0, none⟩ (.string u)) g u := heap_setCell_same w g 0 _ _ (.string u) h
theorem Prt.on {w w' : World} {g : Nat} {t : ByteArray} (h : Prt w g t) (hb : Below w.heap.size w w') : Prt w' g t := (hb.block g h.lt).trans h
theorem Prt.alloc {w : World} {g : Nat} {t : ByteArray} (h : Prt w g t) (o : Obj) : Prt (w.alloc o) g t := (Below.heap_alloc w o g h.lt).trans h
theorem need_yes (w : World) : Calls Tryz.prog 90 #[.bool true] w fun e w' => e = .returned (.tuple #[]) ∧ w = w' := by
 go_enter Tryz.func90, Tryz.ntmps90
 go_wp2
 first | go_end0 | exact bodyPost_ret (results_none rfl _ _ _) rfl ⟨rfl, rfl⟩
 exact ⟨rfl, rfl⟩
theorem need_no (w : World) : Calls Tryz.prog 90 #[.bool false] w fun e w' => e = .panicked lackP ∧ w = w' := by
 go_enter Tryz.func90, Tryz.ntmps90
 go_wp2
 exact ⟨rfl, rfl, rfl⟩
set_option maxHeartbeats 1000000 in
theorem takeText_yes (g : Nat) (t : ByteArray) (m : Nat) (w : World) (hp : Prt w g t) (hm : m ≤ t.size) (ht : t.size ≤ 1048576) :
  Calls Tryz.prog 89 #[.pointer (some ⟨g, 0, none⟩), .int .i64 (m : Int)] w fun e w' => e = .returned (.string (t.extract 0 m)) ∧ w.setCell ⟨g, 0, none⟩ (.string (t.extract m t.size)) = w' := by
 have q1 : (m : Int) ≤ (t.size : Int) := by omega
 have q2 : (t.size : Int) ≤ 1048576 := by omega
 have hc := hp.cell
 have hf := hp.free
 clear hp hm ht
 go_enter Tryz.func89, Tryz.ntmps89
 go_wp2_with fail
 refine (need_yes _).mono ?_
 rintro e w1 ⟨rfl, rfl⟩
 go_wp2_with fail
 go_ret
 exact ⟨rfl, rfl⟩
set_option maxHeartbeats 1000000 in
theorem takeText_no (g : Nat) (t : ByteArray) (m : Int) (w : World) (hp : Prt w g t) (hm : (t.size : Int) < m) (ht : t.size ≤ 1048576) :
  Calls Tryz.prog 89 #[.pointer (some ⟨g, 0, none⟩), .int .i64 m] w fun e w' => e = .panicked lackP ∧ w = w' := by
 have q2 : (t.size : Int) ≤ 1048576 := by omega
 have q3 : decide (m ≤ (t.size : Int)) = false := decide_eq_false (by omega)
 have hc := hp.cell
 clear hp ht
 go_enter Tryz.func89, Tryz.ntmps89
 go_wp2_with fail
 refine (need_no _).mono ?_
 rintro e w1 ⟨rfl, rfl⟩
 go_wp2_with fail
 exact ⟨rfl, rfl, rfl⟩
set_option maxHeartbeats 1000000 in
theorem takeRest (g : Nat) (t : ByteArray) (w : World) (hp : Prt w g t) (ht : t.size ≤ 1048576) :
  Calls Tryz.prog 94 #[.pointer (some ⟨g, 0, none⟩)] w fun e w' => e = .returned (.string t) ∧ w.setCell ⟨g, 0, none⟩ (.string ByteArray.empty) = w' := by
 have c := takeText_yes g t t.size w hp (Nat.le_refl _) ht
 have e0 : t.extract t.size t.size = ByteArray.empty := by simp
 rw [ByteArray.extract_zero_size, e0] at c
 clear e0
 have q2 : (t.size : Int) ≤ 1048576 := by omega
 have hc := hp.cell
 clear hp ht
 go_enter Tryz.func94, Tryz.ntmps94
 go_wp2_with fail
 refine c.mono ?_
 rintro e w1 ⟨rfl, rfl⟩
 go_wp2_with fail
 go_ret
 exact ⟨rfl, rfl⟩
set_option maxHeartbeats 1000000 in
theorem takeVar (g : Nat) (t : ByteArray) (w : World) (hp : Prt w g t) (ht : t.size ≤ 1048576) :
  Calls Tryz.prog 91 #[.pointer (some ⟨g, 0, none⟩)] w fun e w' => (∃ k, FindV t k ∧ e = .returned (.int .i64 (vvS t 0 k : Int)) ∧ w.setCell ⟨g, 0, none⟩ (.string (t.extract k t.size)) = w') ∨ ((∀ k, ¬ FindV t k) ∧ e = .panicked lackP ∧ w = w') := by
 have c := impl_readVar t w ht
 have q2 : (t.size : Int) ≤ 1048576 := by omega
 have hc := hp.cell
 have hf := hp.free
 clear hp ht
 go_enter Tryz.func91, Tryz.ntmps91
 go_wp2_with fail
 refine c.mono ?_
 rintro e w1 ⟨hR, rfl⟩
 rcases hR with ⟨k, hk, rfl⟩ | ⟨hno, rfl⟩
 ·have HK : Hid (FindV t k) := hk
  have k1 := hk.1
  have k3 := hk.2.2.1
  have q3 : (0 : Int) < (k : Int) := by omega
  have q4 : (k : Int) ≤ (t.size : Int) := by omega
  have q5 : decide (0 < k) = true := decide_eq_true (by omega)
  clear hk
  generalize hz : (vvS t 0 k : Int) = z
  have HZ : Hid ((vvS t 0 k : Int) = z) := hz
  clear hz
  go_wp2_with fail
  refine (need_yes _).mono ?_
  rintro e w1 ⟨rfl, rfl⟩
  go_wp2_with fail
  go_ret
  exact .inl ⟨k, HK.out, by rw [HZ.out]; rfl, rfl⟩
 ·have HN : Hid (∀ k, ¬ FindV t k) := hno
  clear hno
  go_wp2_with fail
  refine (need_no _).mono ?_
  rintro e w1 ⟨rfl, rfl⟩
  go_wp2_with fail
  exact ⟨rfl, .inr ⟨HN.out, rfl, rfl⟩⟩
theorem PKeep.blk {g b : Nat} {w w' : World} {cs : Array Value} {t : TypeId} (h : PKeep g w w') (hb : Blk w b cs t) (hne : b ≠ g) : Blk w' b cs t := (h.2 b hne hb.lt).trans hb
theorem PKeep.below {g : Nat} {w w' w'' : World} (h : PKeep g w w') (hg : g < w.heap.size) (hb : Below w'.heap.size w' w'') : PKeep g w w'' := h.trans (PKeep.of hb (by have := h.1.size; omega))
theorem takeVarF (g : Nat) (s : ByteArray) (n : Nat) (w : World) (hp : Prt w g (lf s n)) (hs : s.size ≤ 1048576) :
  Calls Tryz.prog 91 #[.pointer (some ⟨g, 0, none⟩)] w fun e w' => ((∃ k, FindV (lf s n) k ∧ e = .returned (.int .i64 (vvS (lf s n) 0 k : Int)) ∧ Prt w' g (lf s (n + k))) ∨ ((∀ k, ¬ FindV (lf s n) k) ∧ e = .panicked lackP)) ∧ PKeep g w w' := by
 refine (takeVar g (lf s n) w hp (by rw [lf_size]; omega)).mono ?_
 rintro e w' (⟨k, hk, rfl, rfl⟩ | ⟨hn, rfl, rfl⟩)
 ·refine ⟨.inl ⟨k, hk, rfl, ?_⟩, (PKeep.refl g w).set 0 _⟩
  rw [lf_lf]
  exact hp.put _
 ·exact ⟨.inr ⟨hn, rfl⟩, PKeep.refl g w⟩
theorem takeRestF (g : Nat) (s : ByteArray) (n : Nat) (w : World) (hp : Prt w g (lf s n)) (hs : s.size ≤ 1048576) :
  Calls Tryz.prog 94 #[.pointer (some ⟨g, 0, none⟩)] w fun e w' => e = .returned (.string (lf s n)) ∧ PKeep g w w' := by
 refine (takeRest g (lf s n) w hp (by rw [lf_size]; omega)).mono ?_
 rintro e w' ⟨rfl, rfl⟩
 exact ⟨rfl, (PKeep.refl g w).set 0 _⟩
theorem RdF.snoc {s : ByteArray} {a k n m : Nat} {l : List Int} (h : RdF s a k l n) (hf : FindV (lf s n) m) : RdF s a (k + 1) (l ++ [(vvS (lf s n) 0 m : Int)]) (n + m) := ⟨l, n, m, h, hf, rfl, rfl⟩
end Go.Proofs.YtifmjdakefkbiaaGreatDoor
namespace Go.Proofs.YtifmjdakefkbiaaGreatDoor
open Go.ChangeShapes Go.WideShapes Go.ChangeAt Go.RowKit Go.PlainAid
set_option linter.unusedVariables false
theorem Hid.mk {p : Prop} (h : p) : Hid p := h
theorem below_c1 (w : World) (a : Obj) : Below w.heap.size w (w.alloc a) := (Below.refl _ w).alloc (Nat.le_refl _) a
theorem below_c2 (w : World) (a b : Obj) : Below w.heap.size w ((w.alloc a).alloc b) := ((Below.refl _ w).alloc (Nat.le_refl _) a).alloc (by simp) b
noncomputable def opT (x : Opx) : ByteArray := if opOk x = true then txt [byt x.kind.toNat] ++ txt (vF 6 x.key.size) ++ x.key ++ txt (vF 6 x.frm.toNat) ++ txt (vF 6 x.til.toNat) ++ x.data else ⟨#[]⟩
def OpRd (s : ByteArray) (x : Opx) : Prop := ∃ k n1 f t m, 1 ≤ s.size ∧ RdF s 1 1 [((k : Nat) : Int)] n1 ∧ n1 + k ≤ s.size ∧ RdF s (n1 + k) 2 [f, t] m ∧ x = ⟨(bn s 0 : Int), s.extract n1 (n1 + k), f, t, lf s m⟩ ∧ opOk x = true
theorem OpRd.one {s : ByteArray} {x y : Opx} (h : OpRd s x) (h' : OpRd s y) : x = y := by
 obtain ⟨k, n1, f, t, m, _, h1, _, h2, rfl, _⟩ := h
 obtain ⟨k', n1', f', t', m', _, h1', _, h2', rfl, _⟩ := h'
 obtain ⟨e, rfl⟩ := h1.one h1'
 simp only [List.cons.injEq, and_true] at e
 obtain rfl : k = k' := by omega
 obtain ⟨e, rfl⟩ := h2.one h2'
 simp only [List.cons.injEq, and_true] at e
 obtain ⟨rfl, rfl⟩ := e
 rfl
def OpA (s : ByteArray) (e : Ending) : Prop := (∃ x, OpRd s x ∧ e = .returned (.tuple #[vOp x, .bool true])) ∨ ((∀ x, ¬ OpRd s x) ∧ e = .returned (.tuple #[vOp ⟨0, ⟨#[]⟩, 0, 0, ⟨#[]⟩⟩, .bool false]))
theorem OpA.one {s : ByteArray} {e e' : Ending} (h : OpA s e) (h' : OpA s e') : e = e' := by
 rcases h with ⟨x, hx, rfl⟩ | ⟨hn, rfl⟩ <;> rcases h' with ⟨y, hy, rfl⟩ | ⟨hn', rfl⟩
 ·rw [hx.one hy]
 ·exact absurd hx (hn' x)
 ·exact absurd hy (hn y)
 ·rfl
theorem OpA.form {s : ByteArray} {e : Ending} (h : OpA s e) : ∃ x b, e = .returned (.tuple #[vOp x, .bool b]) := by
 rcases h with ⟨x, hx, rfl⟩ | ⟨hn, rfl⟩
 ·exact ⟨_, _, rfl⟩
 ·exact ⟨_, _, rfl⟩
theorem emB_size {s : ByteArray} (h : emB s = true) : s.size = 0 := by
 unfold emB at h
 rw [List.isEmpty_iff, Lib.toList_data] at h
 have h2 : s.data.size = 0 := by rw [← Array.length_toList, h]; rfl
 exact h2
theorem keyB_size {s : ByteArray} (h : keyB s = true) : s.size ≤ 8 := (of_decide_eq_true h).2.1
theorem opOk_in {x : Opx} (h : opOk x = true) : (1 ≤ x.kind ∧ x.kind ≤ 7) ∧ x.key.size ≤ 8 ∧ (0 ≤ x.frm ∧ x.frm ≤ 1099511627776) ∧ (0 ≤ x.til ∧ x.til ≤ 1099511627776) := by
 unfold opOk at h
 split at h
 ·simp only [spanB, Bool.and_eq_true, decide_eq_true_eq] at h
  have := emB_size h.1.2
  omega
 ·split at h
  ·simp only [inRg, zB, Bool.and_eq_true, decide_eq_true_eq] at h
   have := emB_size h.1.1.2
   omega
  ·split at h
   ·simp only [inRg, zB, Bool.and_eq_true, decide_eq_true_eq] at h
    have := emB_size h.1.1.2
    omega
   ·split at h
    ·simp only [zB, Bool.and_eq_true, decide_eq_true_eq] at h
     have := keyB_size h.1.1.1
     omega
    ·split at h
     ·simp only [spanB, Bool.and_eq_true, decide_eq_true_eq] at h
      have := keyB_size h.1.1
      omega
     ·split at h
      ·simp only [zB, Bool.and_eq_true, decide_eq_true_eq] at h
       have := emB_size h.1.1.1
       omega
      ·cases h
theorem extract_more (s : ByteArray) (a b c : Nat) (h1 : a ≤ b) (h2 : b ≤ c) : s.extract a c = s.extract a b ++ s.extract b c := by
 rw [ByteArray.extract_append_extract]
 congr 1 <;> omega
theorem opT_back {s : ByteArray} {k n1 m : Nat} {f t : Int} (h0 : 1 ≤ s.size) (h1 : RdF s 1 1 [(k : Int)] n1) (h2 : n1 + k ≤ s.size) (h3 : RdF s (n1 + k) 2 [f, t] m) (ho : opOk ⟨(bn s 0 : Int), s.extract n1 (n1 + k), f, t, lf s m⟩ = true) :
  opT ⟨(bn s 0 : Int), s.extract n1 (n1 + k), f, t, lf s m⟩ = s := by
 have e1 := h1.text
 have e3 := h3.text
 have g1 := h1.ge
 have g3 := h3.ge
 have hc := cut_in_two s m (g3.2 (by omega))
 have e0 : s.extract 0 1 = txt [byt (bn s 0)] := sg_extract s 1 h0
 have hk : (s.extract n1 (n1 + k)).size = k := by rw [ByteArray.size_extract]; omega
 have hm : s.extract 0 m = s.extract 0 1 ++ s.extract 1 n1 ++ s.extract n1 (n1 + k) ++ s.extract (n1 + k) m := by
  rw [← extract_more s 0 1 n1 (by omega) (by omega), ← extract_more s 0 n1 (n1 + k) (by omega) (by omega), ← extract_more s 0 (n1 + k) m (by omega) (by omega)]
 unfold opT
 rw [if_pos ho]
 simp only [hk, Int.toNat_natCast]
 conv => rhs; rw [hc, hm, e0, e1, e3]
 simp [varsT, ByteArray.append_assoc]
set_option maxHeartbeats 1000000 in
theorem takeByteF (g : Nat) (s : ByteArray) (w : World) (hp : Prt w g s) (hs : s.size ≤ 1048576) :
  Calls Tryz.prog 129 #[.pointer (some ⟨g, 0, none⟩)] w fun e w' => ((1 ≤ s.size ∧ e = .returned (.int .i64 (bn s 0 : Int)) ∧ Prt w' g (lf s 1)) ∨ (¬ 1 ≤ s.size ∧ e = .panicked lackP)) ∧ PKeep g w w' := by
 by_cases h1 : 1 ≤ s.size
 ·have c := takeText_yes g s 1 w hp h1 hs
  have HP : Hid (Prt (w.setCell ⟨g, 0, none⟩ (.string (s.extract 1 s.size))) g (lf s 1)) := hp.put _
  have HK : Hid (PKeep g w (w.setCell ⟨g, 0, none⟩ (.string (s.extract 1 s.size)))) := (PKeep.refl g w).set 0 _
  have hz : (s.extract 0 1).size = 1 := by rw [ByteArray.size_extract]; omega
  have hg : ∀ h : 0 < (s.extract 0 1).size, (((s.extract 0 1)[0]'h).toNat : Int) = (bn s 0 : Int) := by
   intro h
   rw [← get_bn s 0 (by omega), ByteArray.getElem_extract]
  have hl := bn_lt s 0
  have H1 : Hid (1 ≤ s.size) := h1
  clear hp hs h1
  generalize s.extract 0 1 = b at *
  generalize w.setCell ⟨g, 0, none⟩ (.string (s.extract 1 s.size)) = V at *
  generalize bn s 0 = n at *
  go_enter Tryz.func129, Tryz.ntmps129
  go_wp2_with fail
  refine c.mono ?_
  rintro e w1 ⟨rfl, rfl⟩
  go_wp2_with fail
  go_ret
  exact ⟨.inl ⟨H1.out, rfl, HP.out⟩, HK.out⟩
 ·have c := takeText_no g s 1 w hp (by omega) hs
  have H1 : Hid (¬ 1 ≤ s.size) := h1
  clear hp hs h1
  go_enter Tryz.func129, Tryz.ntmps129
  go_wp2_with fail
  refine c.mono ?_
  rintro e w1 ⟨rfl, rfl⟩
  go_wp2_with fail
  exact ⟨rfl, .inr ⟨H1.out, rfl⟩, PKeep.refl _ _⟩
theorem takeTextF (g : Nat) (s : ByteArray) (n m : Nat) (w : World) (hp : Prt w g (lf s n)) (hn : n ≤ s.size) (hs : s.size ≤ 1048576) :
  Calls Tryz.prog 89 #[.pointer (some ⟨g, 0, none⟩), .int .i64 (m : Int)] w fun e w' => ((n + m ≤ s.size ∧ e = .returned (.string (s.extract n (n + m))) ∧ Prt w' g (lf s (n + m))) ∨ (¬ n + m ≤ s.size ∧ e = .panicked lackP)) ∧ PKeep g w w' := by
 have hz := lf_size s n
 by_cases h : n + m ≤ s.size
 ·refine (takeText_yes g (lf s n) m w hp (by omega) (by omega)).mono ?_
  rintro e w' ⟨rfl, rfl⟩
  refine ⟨.inl ⟨h, ?_, ?_⟩, (PKeep.refl g w).set 0 _⟩
  ·unfold lf
   rw [ByteArray.extract_extract]
   congr 3
   omega
  ·rw [lf_lf]
   exact hp.put _
 ·refine (takeText_no g (lf s n) m w hp (by omega) (by omega)).mono ?_
  rintro e w' ⟨rfl, rfl⟩
  exact ⟨.inr ⟨h, rfl⟩, PKeep.refl g w⟩
set_option maxHeartbeats 1000000 in
theorem copyOpV (x : Opx) (w : World) (hk : x.key.size ≤ 1048576) (hd : x.data.size ≤ 1048576) : Calls Tryz.prog 130 #[vOp x] w fun e w' => e = .returned (vOp x) ∧ Below w.heap.size w w' := by
 obtain ⟨k, key, f, t, d⟩ := x
 unfold vOp
 simp only at hk hd ⊢
 have c1 := fun wx => clone key wx (by omega)
 have c2 := fun wx => clone d wx (by omega)
 clear hd hk
 have hb0 := below_c2 w (.cells #[.int .i64 k, .string key, .int .i64 f, .int .i64 t, .string d] 38) (.cells #[.int .i64 0, .string ⟨#[]⟩, .int .i64 0, .int .i64 0, .string ⟨#[]⟩] 38)
 have k0 := (Blk.new w #[.int .i64 k, .string key, .int .i64 f, .int .i64 t, .string d] 38).alloc (.cells #[.int .i64 0, .string ⟨#[]⟩, .int .i64 0, .int .i64 0, .string ⟨#[]⟩] 38)
 have k1 := Blk.new (w.alloc (.cells #[.int .i64 k, .string key, .int .i64 f, .int .i64 t, .string d] 38)) #[.int .i64 0, .string ⟨#[]⟩, .int .i64 0, .int .i64 0, .string ⟨#[]⟩] 38
 rw [World.size_alloc] at k1
 go_enter Tryz.func130, Tryz.ntmps130
 go_wp2_with fail
 generalize (w.alloc (.cells #[.int .i64 k, .string key, .int .i64 f, .int .i64 t, .string d] 38)).alloc (.cells #[.int .i64 0, .string ⟨#[]⟩, .int .i64 0, .int .i64 0, .string ⟨#[]⟩] 38) = X at *
 refine (c1 _).mono ?_
 rintro e w1 ⟨rfl, hb1⟩
 have m0 := k0.on hb1 k0.lt
 have m1 := k1.on hb1 k1.lt
 have B1 : Hid (Below w.heap.size w (w1.setCell ⟨w.heap.size, 1, none⟩ (.string key))) := (hb0.trans (hb1.mono hb0.size)).setCell (Nat.le_refl _) _
 have n0 : Hid (Blk (w1.setCell ⟨w.heap.size, 1, none⟩ (.string key)) w.heap.size #[.int .i64 k, .string key, .int .i64 f, .int .i64 t, .string d] 38) := m0.set 1 (.string key)
 have n1 : Hid (Blk (w1.setCell ⟨w.heap.size, 1, none⟩ (.string key)) (w.heap.size + 1) #[.int .i64 0, .string ⟨#[]⟩, .int .i64 0, .int .i64 0, .string ⟨#[]⟩] 38) := m1.other (by omega) 1 _
 have f3 := m0.free 1
 have e3 : w1.cell? ⟨w.heap.size, 1, none⟩ = some (.string key) := m0.cell 1 _ rfl
 have e4 : (w1.setCell ⟨w.heap.size, 1, none⟩ (.string key)).cell? ⟨w.heap.size, 4, none⟩ = some (.string d) := n0.out.cell 4 _ rfl
 clear hb0 hb1 c1 k0 k1 m0 m1
 go_wp2_with fail
 generalize w1.setCell ⟨w.heap.size, 1, none⟩ (.string key) = Y at *
 clear e3 f3 e4
 refine (c2 _).mono ?_
 rintro e w2 ⟨rfl, hb1⟩
 have m0 := n0.out.on hb1 n0.out.lt
 have m1 := n1.out.on hb1 n1.out.lt
 have B2 : Hid (Below w.heap.size w (w2.setCell ⟨w.heap.size, 4, none⟩ (.string d))) := (B1.out.trans (hb1.mono B1.out.size)).setCell (Nat.le_refl _) _
 have o0 : Hid (Blk (w2.setCell ⟨w.heap.size, 4, none⟩ (.string d)) w.heap.size #[.int .i64 k, .string key, .int .i64 f, .int .i64 t, .string d] 38) := m0.set 4 (.string d)
 have o1 : Hid (Blk (w2.setCell ⟨w.heap.size, 4, none⟩ (.string d)) (w.heap.size + 1) #[.int .i64 0, .string ⟨#[]⟩, .int .i64 0, .int .i64 0, .string ⟨#[]⟩] 38) := m1.other (by omega) 4 _
 have f3 := m0.free 4
 have e3 : w2.cell? ⟨w.heap.size, 4, none⟩ = some (.string d) := m0.cell 4 _ rfl
 clear hb1 c2 n0 n1 m0 m1 B1
 obtain ⟨Q, hQ⟩ : ∃ Q, Q = w2.setCell ⟨w.heap.size, 4, none⟩ (.string d) := ⟨_, rfl⟩
 rw [← hQ] at B2 o0 o1
 obtain ⟨c0, c1, c2, c3, c4⟩ := cellsC5 o0.out
 obtain ⟨⟨r0, s0⟩, ⟨r1, s1⟩, ⟨r2, s2⟩, ⟨r3, s3⟩, ⟨r4, s4⟩, z0, z1, z2, z3, z4⟩ := resC5 (x0 := .int .i64 k) (x1 := .string key) (x2 := .int .i64 f) (x3 := .int .i64 t) (x4 := .string d) o1.out
 have B3 := Hid.mk (belowC5 B2.out (show w.heap.size ≤ w.heap.size + 1 by omega) (.int .i64 k) (.string key) (.int .i64 f) (.int .i64 t) (.string d))
 rw [hQ] at c0 c1 c2 c3 c4 r0 r1 r2 r3 r4 s0 s1 s2 s3 s4 z0 z1 z2 z3 z4 B3
 clear hQ o0 o1 B2
 go_wp2_with fail
 exact bodyPost_ret (v := .agg #[.int .i64 k, .string key, .int .i64 f, .int .i64 t, .string d]) (by simp [results, go_sem, z0, z1, z2, z3, z4]) rfl ⟨rfl, B3.out⟩
set_option maxHeartbeats 4000000 in
theorem takeOp (g : Nat) (s : ByteArray) (w : World) (hp : Prt w g s) (hs : s.size ≤ 1048576) (w0 : World) (hst : SumTab w0) (a0 a1 a2 : Addr) (he : Errs w0 a0 a1 a2) (hw0 : Below w0.heap.size w0 w) (hg0 : w0.heap.size ≤ g) :
  Calls Tryz.prog 100 #[.pointer (some ⟨g, 0, none⟩)] w fun e w' => ((∃ x, OpRd s x ∧ e = .returned (vOp x)) ∨ ((∀ x, ¬ OpRd s x) ∧ e = .panicked lackP)) ∧ PKeep g w w' := by
 have HS : Hid (s.size ≤ 1048576) := hs
 have HG : Hid (g < w.heap.size) := hp.lt
 have B0 : Hid (Blk (w.alloc (.cells #[.int .i64 0, .string ⟨#[]⟩, .int .i64 0, .int .i64 0, .string ⟨#[]⟩] 38)) w.heap.size #[.int .i64 0, .string ⟨#[]⟩, .int .i64 0, .int .i64 0, .string ⟨#[]⟩] 38) := Blk.new _ _ _
 have K0 : Hid (PKeep g w (w.alloc (.cells #[.int .i64 0, .string ⟨#[]⟩, .int .i64 0, .int .i64 0, .string ⟨#[]⟩] 38))) := (PKeep.refl g w).alloc hp.lt _
 have P0 : Hid (Prt (w.alloc (.cells #[.int .i64 0, .string ⟨#[]⟩, .int .i64 0, .int .i64 0, .string ⟨#[]⟩] 38)) g s) := hp.alloc _
 have HD : Hid (∀ wx, PKeep g w wx → SumTab wx ∧ Errs wx a0 a1 a2) := fun wx hk => by
  have hb : Below w0.heap.size w0 wx := hw0.trans (hk.1.mono hg0)
  exact ⟨hst.on hb, he.on hb⟩
 clear hp hs hst he hw0 hg0
 go_enter Tryz.func100, Tryz.ntmps100
 go_wp2_with fail
 generalize w.alloc (.cells #[.int .i64 0, .string ⟨#[]⟩, .int .i64 0, .int .i64 0, .string ⟨#[]⟩] 38) = W at *
 refine (takeByteF g s _ P0.out HS.out).mono ?_
 rintro e w1 ⟨hR, hk⟩
 have K1 : Hid (PKeep g w w1) := K0.out.trans hk
 have B1 := Hid.mk (hk.blk B0.out (by have := HG.out; omega))
 clear hk B0
 rcases hR with ⟨h1, rfl, hp⟩ | ⟨hno, rfl⟩
 rotate_left
 ·have HN : Hid (∀ x, ¬ OpRd s x) := by
   rintro x ⟨k, n1, f, t, m, h0, h1, h2, h3, h4, h5⟩
   exact hno h0
  clear hno
  go_wp2_with fail
  exact ⟨rfl, .inr ⟨HN.out, rfl⟩, K1.out⟩
 have H1 : Hid (1 ≤ s.size) := h1
 have P1 : Hid (Prt w1 g (lf s 1)) := hp
 clear h1 hp P0 K0
 have R1 : Hid (RdF s 1 0 [] 1) := ⟨rfl, rfl⟩
 have HKB : Hid ((bn s 0 : Int) = (bn s 0 : Int)) := rfl
 generalize hkn : (bn s 0 : Int) = kn at HKB
 have HKN : Hid ((bn s 0 : Int) = kn) := hkn
 clear HKB hkn
 go_wp2_with fail
 refine (takeVarF g s 1 _ P1.out HS.out).mono ?_
 rintro e w2 ⟨hR, hk⟩
 have K2 : Hid (PKeep g w w2) := K1.out.trans hk
 have B2 := Hid.mk (hk.blk B1.out (by have := HG.out; omega))
 clear hk B1
 rcases hR with ⟨k1, hf, rfl, hp⟩ | ⟨hno, rfl⟩
 rotate_left
 ·have HN : Hid (∀ x, ¬ OpRd s x) := by
   rintro x ⟨k, n1, f, t, m, h0, h1, h2, h3, h4, h5⟩
   exact R1.out.no (by omega) hno _ _ h1
  clear hno
  go_wp2_with fail
  exact ⟨rfl, .inr ⟨HN.out, rfl⟩, K2.out⟩
 have P2 : Hid (Prt w2 g (lf s (1 + k1))) := hp
 have R2 := Hid.mk (R1.out.snoc hf)
 have hv := vvS_le (lf s 1) k1 hf.2.1 0
 have L2 : Hid (1 + k1 ≤ s.size) := by have := hf.2.2.1; unfold Hid; rw [lf_size] at this; have := H1.out; omega
 generalize 1 + k1 = n1 at P2 R2 L2
 generalize vvS (lf s 1) 0 k1 = kl at *
 clear hf hp P1 K1
 go_wp2_with fail
 refine (takeTextF g s n1 kl _ P2.out L2.out HS.out).mono ?_
 rintro e w3 ⟨hR, hk⟩
 have K3 : Hid (PKeep g w w3) := K2.out.trans hk
 have B3 := Hid.mk (hk.blk B2.out (by have := HG.out; omega))
 clear hk B2
 rcases hR with ⟨h3, rfl, hp⟩ | ⟨hno, rfl⟩
 rotate_left
 ·have HN : Hid (∀ x, ¬ OpRd s x) := by
   rintro x ⟨k, n1, f, t, m, h0, h1, h2, h3, h4, h5⟩
   obtain ⟨e, rfl⟩ := h1.one R2.out
   simp only [List.nil_append, List.cons.injEq, and_true] at e
   obtain rfl : k = kl := by omega
   exact hno h2
  clear hno
  go_wp2_with fail
  exact ⟨rfl, .inr ⟨HN.out, rfl⟩, K3.out⟩
 have H3 : Hid (n1 + kl ≤ s.size) := h3
 have P3 : Hid (Prt w3 g (lf s (n1 + kl))) := hp
 have R3 : Hid (RdF s (n1 + kl) 0 [] (n1 + kl)) := ⟨rfl, rfl⟩
 have HKZ : Hid ((s.extract n1 (n1 + kl)).size ≤ 1048576) := by unfold Hid; rw [ByteArray.size_extract]; have := HS.out; omega
 generalize hky : s.extract n1 (n1 + kl) = ky at HKZ
 have HKY : Hid (s.extract n1 (n1 + kl) = ky) := hky
 clear hp h3 P2 K2 hv hky
 go_wp2_with fail
 refine (takeVarF g s (n1 + kl) _ P3.out HS.out).mono ?_
 rintro e w4 ⟨hR, hk⟩
 have K4 : Hid (PKeep g w w4) := K3.out.trans hk
 have B4 := Hid.mk (hk.blk B3.out (by have := HG.out; omega))
 clear hk B3
 rcases hR with ⟨k3, hf, rfl, hp⟩ | ⟨hno, rfl⟩
 rotate_left
 ·have HN : Hid (∀ x, ¬ OpRd s x) := by
   rintro x ⟨k, n1, f, t, m, h0, h1, h2, h3, h4, h5⟩
   obtain ⟨e, rfl⟩ := h1.one R2.out
   simp only [List.nil_append, List.cons.injEq, and_true] at e
   obtain rfl : k = kl := by omega
   exact R3.out.no (by omega) hno _ _ h3
  clear hno
  go_wp2_with fail
  exact ⟨rfl, .inr ⟨HN.out, rfl⟩, K4.out⟩
 have P4 : Hid (Prt w4 g (lf s (n1 + kl + k3))) := hp
 have R4 := Hid.mk (R3.out.snoc hf)
 generalize n1 + kl + k3 = n4 at P4 R4
 generalize (vvS (lf s (n1 + kl)) 0 k3 : Int) = z1 at *
 clear hf hp P3 K3
 go_wp2_with fail
 refine (takeVarF g s n4 _ P4.out HS.out).mono ?_
 rintro e w5 ⟨hR, hk⟩
 have K5 : Hid (PKeep g w w5) := K4.out.trans hk
 have B5 := Hid.mk (hk.blk B4.out (by have := HG.out; omega))
 clear hk B4
 rcases hR with ⟨k4, hf, rfl, hp⟩ | ⟨hno, rfl⟩
 rotate_left
 ·have HN : Hid (∀ x, ¬ OpRd s x) := by
   rintro x ⟨k, n1, f, t, m, h0, h1, h2, h3, h4, h5⟩
   obtain ⟨e, rfl⟩ := h1.one R2.out
   simp only [List.nil_append, List.cons.injEq, and_true] at e
   obtain rfl : k = kl := by omega
   exact R4.out.no (by omega) hno _ _ h3
  clear hno
  go_wp2_with fail
  exact ⟨rfl, .inr ⟨HN.out, rfl⟩, K5.out⟩
 have P5 : Hid (Prt w5 g (lf s (n4 + k4))) := hp
 have R5 := Hid.mk (R4.out.snoc hf)
 generalize n4 + k4 = n5 at P5 R5
 generalize (vvS (lf s n4) 0 k4 : Int) = z2 at *
 clear hf hp P4 K4
 go_wp2_with fail
 refine (takeRestF g s n5 _ P5.out HS.out).mono ?_
 rintro e w6 ⟨rfl, hk⟩
 have K6 : Hid (PKeep g w w6) := K5.out.trans hk
 have B6 := Hid.mk (hk.blk B5.out (by have := HG.out; omega))
 clear hk B5
 have HL : Hid ((lf s n5).size ≤ 1048576) := by unfold Hid; rw [lf_size]; have := HS.out; omega
 generalize hd : lf s n5 = d at HL
 have HE : Hid (lf s n5 = d) := hd
 clear K5 P5 hd
 have R2' : Hid (RdF s 1 1 [(kl : Int)] n1) := R2.out
 have R5' : Hid (RdF s (n1 + kl) 2 [z1, z2] n5) := R5.out
 have HX1 : Hid (opOk ⟨kn, ky, z1, z2, d⟩ = true → OpRd s ⟨kn, ky, z1, z2, d⟩) := fun h => ⟨kl, n1, z1, z2, n5, H1.out, R2'.out, H3.out, R5'.out, by rw [HKN.out, HKY.out, HE.out], h⟩
 have HX2 : Hid (opOk ⟨kn, ky, z1, z2, d⟩ = false → ∀ x, ¬ OpRd s x) := by
  rintro h x ⟨k, n1', f, t, m, h0, h1, h2, h3, rfl, h5⟩
  obtain ⟨e, rfl⟩ := h1.one R2'.out
  simp only [List.cons.injEq, and_true] at e
  obtain rfl : k = kl := by omega
  obtain ⟨e, rfl⟩ := h3.one R5'.out
  simp only [List.cons.injEq, and_true] at e
  obtain ⟨rfl, rfl⟩ := e
  rw [HKN.out, HKY.out, HE.out, h] at h5
  cases h5
 clear R1 R2 R3 R4 R5 R2' R5'
 obtain ⟨c0, c1, c2, c3, c4⟩ := cellsC5 (Blk.new w6 #[.int .i64 kn, .string ky, .int .i64 z1, .int .i64 z2, .string d] 38)
 have K7 : Hid (PKeep g w (w6.alloc (.cells #[.int .i64 kn, .string ky, .int .i64 z1, .int .i64 z2, .string d] 38))) := K6.out.alloc HG.out _
 have B7 := Hid.mk (B6.out.alloc (.cells #[.int .i64 kn, .string ky, .int .i64 z1, .int .i64 z2, .string d] 38))
 have A7 := Hid.mk (Blk.new w6 #[.int .i64 kn, .string ky, .int .i64 z1, .int .i64 z2, .string d] 38)
 clear K6 B6
 go_wp2_with fail
 generalize w6.alloc (.cells #[.int .i64 kn, .string ky, .int .i64 z1, .int .i64 z2, .string d] 38) = V at *
 refine (implOpOk ⟨kn, ky, z1, z2, d⟩ _ (by have := HKZ.out; simp only [maxLen]; omega) HL.out (HD.out _ K7.out).1 a0 a1 a2 (HD.out _ K7.out).2).mono ?_
 rintro e w7 ⟨rfl, hb⟩
 have K8 : Hid (PKeep g w w7) := K7.out.below HG.out hb
 have B8 := Hid.mk (B7.out.on hb B7.out.lt)
 have A8 := Hid.mk (A7.out.on hb A7.out.lt)
 clear hb c0 c1 c2 c3 c4 K7 B7 A7 HD
 cases ho : opOk ⟨kn, ky, z1, z2, d⟩
 ·have HN : Hid (∀ x, ¬ OpRd s x) := HX2.out ho
  clear ho
  go_wp2_with fail
  refine (need_no _).mono ?_
  rintro e w8 ⟨rfl, rfl⟩
  go_wp2_with fail
  exact ⟨rfl, .inr ⟨HN.out, rfl⟩, K8.out⟩
 have HX : Hid (OpRd s ⟨kn, ky, z1, z2, d⟩) := HX1.out ho
 clear ho HX1 HX2
 go_wp2_with fail
 refine (need_yes _).mono ?_
 rintro e w8 ⟨rfl, rfl⟩
 obtain ⟨c0, c1, c2, c3, c4⟩ := cellsC5 A8.out
 go_wp2_with fail
 refine (copyOpV ⟨kn, ky, z1, z2, d⟩ _ HKZ.out HL.out).mono ?_
 rintro e w8 ⟨rfl, hb⟩
 have K9 : Hid (PKeep g w w8) := K8.out.below HG.out hb
 have B9 := Hid.mk (B8.out.on hb B8.out.lt)
 clear hb c0 c1 c2 c3 c4 K8 B8 A8
 unfold vOp
 obtain ⟨⟨r0, s0⟩, ⟨r1, s1⟩, ⟨r2, s2⟩, ⟨r3, s3⟩, ⟨r4, s4⟩, y0, y1, y2, y3, y4⟩ := resC5 (x0 := .int .i64 kn) (x1 := .string ky) (x2 := .int .i64 z1) (x3 := .int .i64 z2) (x4 := .string d) B9.out
 go_wp2_with fail
 have hgs := Nat.le_of_lt HG.out
 exact bodyPost_ret (v := .agg #[.int .i64 kn, .string ky, .int .i64 z1, .int .i64 z2, .string d]) (by simp [results, go_sem, y0, y1, y2, y3, y4]) rfl ⟨.inl ⟨_, HX.out, rfl⟩, ((((K9.out.setNew (Nat.le_refl _) hgs _ _).setNew (Nat.le_refl _) hgs _ _).setNew (Nat.le_refl _) hgs _ _).setNew (Nat.le_refl _) hgs _ _).setNew (Nat.le_refl _) hgs _ _⟩
end Go.Proofs.YtifmjdakefkbiaaGreatDoor
