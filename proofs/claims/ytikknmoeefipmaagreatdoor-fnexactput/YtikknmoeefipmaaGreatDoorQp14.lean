/- Unframe BkRead FlIdx -/
import Derived.Test.YtikknmoeefipmaaGreatDoorQp13
import Derived.Laws.DeepStrings4
import Derived.OwnWalk
import Derived.Test.YtikknmoeefipmaaGreatDoorRows
import Derived.Test.YtikknmoeefipmaaGreatDoorQp12
import Derived.Test.YtikknmoeefipmaaGreatDoorQp4
import Derived.Test.YtikknmoeefipmaaGreatDoorQp11
import Derived.Test.YtikknmoeefipmaaGreatDoorQp0
import Derived.WalkKit
import Derived.ProofKit
import Derived.OpenShut
import Derived.Below
import Derived.WalkSmall
import Derived.BigQuiet
import Derived.Deep.QuietTactic
import Derived.Deep.RegionWith
import Derived.Handy
open List (setIfInBounds_toArray set_cons_zero set_cons_succ)
namespace Go.Proofs.YtikknmoeefipmaaGreatDoor
open Go.ChangeShapes Go.WideShapes Go.ChangeAt Go.RowKit Go.PlainAid
set_option linter.unusedVariables false
theorem body_bad (s : ByteArray) (i : Nat) (w : World) (hi : i ≤ s.size) (hs : s.size ≤ 1048576) (ht : SumTab w) (a0 a1 a2 : Addr) (he : Errs w a0 a1 a2) (hcode : code (rest s i) ≠ 0) :
  Calls Tryz.prog 250 #[.string s, .int .i64 (i : Int)] w fun e w' => (∃ p a, e = badBody p a ∧ (code (rest s i) = 1 ∧ a = a0 ∨ code (rest s i) = 2 ∧ (a = a1 ∨ a = a2))) ∧ Below w.heap.size w w' := by
 by_cases h4 : (rest s i).size < 4
 ·refine (body_short4 s i w hi hs a0 a1 a2 he h4).mono ?_
  rintro e w' ⟨⟨p, rfl⟩, hb⟩
  exact ⟨⟨p, a0, rfl, .inl ⟨by rw [code, if_pos h4], rfl⟩⟩, hb⟩
 by_cases hl : rdv (rest s i) 4 = 0 ∨ 2000 < rdv (rest s i) 4
 ·refine (body_len s i w hi hs a0 a1 a2 he (by omega) hl).mono ?_
  rintro e w' ⟨⟨p, rfl⟩, hb⟩
  exact ⟨⟨p, a1, rfl, .inr ⟨by rw [code, if_neg h4, if_pos hl], .inl rfl⟩⟩, hb⟩
 by_cases h8 : (rest s i).size < 8 + rdv (rest s i) 4
 ·refine (body_short8 s i w hi hs a0 a1 a2 he (by omega) (by omega) (by omega) h8).mono ?_
  rintro e w' ⟨⟨p, rfl⟩, hb⟩
  exact ⟨⟨p, a0, rfl, .inl ⟨by rw [code, if_neg h4, if_neg hl, if_pos h8], rfl⟩⟩, hb⟩
 have hsum : sumOf ((rest s i).extract 0 4) (bodyOf (rest s i)) ≠ (rest s i).extract 4 8 := fun h => hcode (by rw [code, if_neg h4, if_neg hl, if_neg h8, if_pos h])
 refine (body_sum s i w hi hs ht a0 a1 a2 he (by omega) (by omega) (by omega) (by omega) hsum).mono ?_
 rintro e w' ⟨⟨p, rfl⟩, hb⟩
 exact ⟨⟨p, a2, rfl, .inr ⟨by rw [code, if_neg h4, if_neg hl, if_neg h8, if_neg hsum], .inr rfl⟩⟩, hb⟩
def unf (s : ByteArray) : Array Value := if code s = 0 then #[.string (bodyOf s), .int .i64 ((8 + rdv s 4 : Nat) : Int), .int .i64 0] else #[.string ⟨#[]⟩, .int .i64 0, .int .i64 (code s : Int)]
set_option maxHeartbeats 1000000 in
theorem impl_unframe (s : ByteArray) (w : World) (hs : s.size ≤ 1048576) (ht : SumTab w) (a0 a1 a2 : Addr) (he : Errs w a0 a1 a2) :
  Calls Tryz.prog 238 #[.string s] w fun e w' => e = .returned (.tuple (unf s)) ∧ Below w.heap.size w w' := by
 have HE : Hid (Errs w a0 a1 a2) := he
 by_cases hcode : code s = 0
 ·have c1 := body_ok s 0 w (by omega) hs ht (by rw [rest_zero]; exact hcode)
  rw [rest_zero, show ((0 : Nat) : Int) = 0 from rfl] at c1
  obtain ⟨h4, h1, h2, h8, hsum⟩ := (code_zero _).1 hcode
  have hz := bodyOf_size s h8
  have EU : Hid (unf s = #[.string (bodyOf s), .int .i64 ((8 + rdv s 4 : Nat) : Int), .int .i64 0]) := by unfold Hid; rw [unf, if_pos hcode]
  have q1 : ((bodyOf s).size : Int) = (rdv s 4 : Int) := by rw [hz]
  have q2 : (rdv s 4 : Int) ≤ 2000 := by omega
  clear hcode hsum ht he h4 h1 h2 h8 hs hz
  generalize rdv s 4 = n at *
  generalize bodyOf s = b at *
  go_enter Tryz.func238, Tryz.ntmps238
  go_wp2_with fail
  refine c1.mono ?_
  rintro e w1 ⟨rfl, hb1⟩
  go_wp2_with fail
  go_ret3
  exact ⟨by rw [EU.out]; go_num, hb1⟩
 ·have c1 := body_bad s 0 w (by omega) hs ht a0 a1 a2 he (by rw [rest_zero]; exact hcode)
  rw [rest_zero, show ((0 : Nat) : Int) = 0 from rfl] at c1
  have EU : Hid (unf s = #[.string ⟨#[]⟩, .int .i64 0, .int .i64 (code s : Int)]) := by unfold Hid; rw [unf, if_neg hcode]
  clear ht he hs hcode
  simp only [badBody, wrapped] at c1
  generalize code s = k at *
  go_enter Tryz.func238, Tryz.ntmps238
  go_wp2_with fail
  refine c1.mono ?_
  rintro e w1 ⟨⟨p, a, rfl, ha⟩, hb1⟩
  have he1 := HE.out.on hb1
  rcases ha with ⟨rfl, rfl⟩ | ⟨rfl, ha⟩
  ·have c2 := code_short p a a1 a2 w1 he1
   simp only [wrapped] at c2
   clear he1
   go_wp2_with fail
   refine c2.mono ?_
   rintro e w2 ⟨rfl, hb2⟩
   go_wp2_with fail
   go_ret3
   exact ⟨by rw [EU.out]; rfl, hb1.trans (hb2.mono hb1.size)⟩
  ·have c2 := code_bad p a a0 a1 a2 w1 he1 ha
   simp only [wrapped] at c2
   clear he1 ha
   go_wp2_with fail
   refine c2.mono ?_
   rintro e w2 ⟨rfl, hb2⟩
   go_wp2_with fail
   go_ret3
   exact ⟨by rw [EU.out]; rfl, hb1.trans (hb2.mono hb1.size)⟩
set_option maxRecDepth 20000 in
set_option maxHeartbeats 1000000 in
theorem spec_unframe (s : ByteArray) (w : World) (hs : s.size ≤ 1048576) :
  Calls Tryz.prog 142 #[.string s] w fun e w' => e = .returned (.tuple (unf s)) ∧ Below w.heap.size w w' := by
 by_cases h4 : s.size < 4
 ·have c1 := spec_readFixed_no s 4 w (by unfold maxLen; omega) (by omega)
  have EU : Hid (unf s = #[.string ⟨#[]⟩, .int .i64 0, .int .i64 1]) := by
   have : code s = 1 := by rw [code, if_pos h4]
   unfold Hid; rw [unf, this]; rfl
  clear hs h4
  go_enter Tryz.func142, Tryz.ntmps142
  go_wp2_with fail
  refine c1.mono ?_
  rintro e w1 ⟨rfl, rfl⟩
  go_wp2_with fail
  go_ret3
  exact ⟨by rw [EU.out]; rfl, Below.refl _ _⟩
 have c1 := spec_readFixed s 4 w (by unfold maxLen; omega) (by omega) (by omega) (by omega)
 by_cases hl : rdv s 4 = 0 ∨ 2000 < rdv s 4
 ·have EU : Hid (unf s = #[.string ⟨#[]⟩, .int .i64 0, .int .i64 2]) := by
   have : code s = 2 := by rw [code, if_neg h4, if_pos hl]
   unfold Hid; rw [unf, this]; rfl
  clear hs h4
  generalize rdv s 4 = n at *
  rcases hl with rfl | hl
  ·go_enter Tryz.func142, Tryz.ntmps142
   go_wp2_with fail
   refine c1.mono ?_
   rintro e w1 ⟨rfl, rfl⟩
   go_wp2_with fail
   go_ret3
   exact ⟨by rw [EU.out]; rfl, Below.refl _ _⟩
  ·have q3 : (2000 : Int) < (n : Int) := by omega
   have q4 : ((n : Int) == 0) = false := by simp only [beq_eq_false_iff_ne, ne_eq]; omega
   have q5 : decide ((2000 : Int) < (n : Int)) = true := decide_eq_true q3
   have q6 : ¬ (n : Int) = 0 := by omega
   go_enter Tryz.func142, Tryz.ntmps142
   go_wp2_with fail
   refine c1.mono ?_
   rintro e w1 ⟨rfl, rfl⟩
   go_wp2_with fail
   go_ret3
   exact ⟨by rw [EU.out]; rfl, Below.refl _ _⟩
 by_cases h8 : s.size < 8 + rdv s 4
 ·have EU : Hid (unf s = #[.string ⟨#[]⟩, .int .i64 0, .int .i64 1]) := by
   have : code s = 1 := by rw [code, if_neg h4, if_neg hl, if_pos h8]
   unfold Hid; rw [unf, this]; rfl
  have q2 : (s.size : Int) ≤ 1048576 := by omega
  clear hs h4
  generalize rdv s 4 = n at *
  have q3 : (n : Int) ≤ 2000 := by omega
  have q4 : ((n : Int) == 0) = false := by simp only [beq_eq_false_iff_ne, ne_eq]; omega
  have q5 : decide ((2000 : Int) < (n : Int)) = false := decide_eq_false (by omega)
  have q6 : ¬ (n : Int) = 0 := by omega
  have q7 : (s.size : Int) < 8 + (n : Int) := by omega
  clear hl
  go_enter Tryz.func142, Tryz.ntmps142
  go_wp2_with fail
  refine c1.mono ?_
  rintro e w1 ⟨rfl, rfl⟩
  go_wp2_with fail
  go_ret3
  exact ⟨by rw [EU.out]; rfl, Below.refl _ _⟩
 have hz := bodyOf_size s (by omega)
 have c2 := fun wx => spec_frame (bodyOf s) wx (by omega)
 have hfit := frame_fits s (by omega) (by omega) (by omega) (by omega)
 have hb0 : s.extract 8 (8 + rdv s 4) = bodyOf s := rfl
 have q2 : (s.size : Int) ≤ 1048576 := by omega
 by_cases hsum : sumOf (s.extract 0 4) (bodyOf s) = s.extract 4 8
 ·have EU : Hid (unf s = #[.string (bodyOf s), .int .i64 ((8 + rdv s 4 : Nat) : Int), .int .i64 0]) := by
   have : code s = 0 := by rw [code, if_neg h4, if_neg hl, if_neg h8, if_pos hsum]
   unfold Hid; rw [unf, if_pos this]
  have HF : Hid (frame (bodyOf s) = s.extract 0 (8 + rdv s 4)) := hfit.2 hsum
  clear hfit hsum hs h4 hz
  generalize bodyOf s = b at *
  generalize rdv s 4 = n at *
  have q3 : (n : Int) ≤ 2000 := by omega
  have q4 : ((n : Int) == 0) = false := by simp only [beq_eq_false_iff_ne, ne_eq]; omega
  have q5 : decide ((2000 : Int) < (n : Int)) = false := decide_eq_false (by omega)
  have q6 : ¬ (n : Int) = 0 := by omega
  have q7 : 8 + (n : Int) ≤ (s.size : Int) := by omega
  have hm : (8 + (n : Int)).toNat = 8 + n := by omega
  have q8 : (0 : Int) ≤ 8 + (n : Int) := by omega
  have w1 : IntKind.i64.wrap (8 + (n : Int)) = 8 + (n : Int) := by rw [IntKind.wrap_i64]; omega
  have w2 : wrap64 (8 + (n : Int)) = 8 + (n : Int) := by unfold wrap64; omega
  clear hl h8
  go_enter Tryz.func142, Tryz.ntmps142
  go_wp2_with fail
  refine c1.mono ?_
  rintro e w1 ⟨rfl, rfl⟩
  go_wp2_with fail
  go_region_with (go_at_call 146; refine (c2 _).mono ?_; rintro e w1 ⟨rfl, hb1⟩; rw [HF.out])
  all_goals go_wp2_with fail
  all_goals (go_ret3; exact ⟨by rw [EU.out]; go_num, (below_drew w).trans hb1⟩)
 ·have EU : Hid (unf s = #[.string ⟨#[]⟩, .int .i64 0, .int .i64 2]) := by
   have : code s = 2 := by rw [code, if_neg h4, if_neg hl, if_neg h8, if_neg hsum]
   unfold Hid; rw [unf, this]; rfl
  have e1 : ((frame (bodyOf s)).toList == (s.extract 0 (8 + rdv s 4)).toList) = false := by
   rw [beq_eq_false_iff_ne, Lib.toList_data, Lib.toList_data]
   intro h
   exact hsum (hfit.1 (ByteArray.ext (Array.toList_inj.1 h)))
  clear hfit hsum hs h4 hz
  generalize bodyOf s = b at *
  generalize rdv s 4 = n at *
  have q3 : (n : Int) ≤ 2000 := by omega
  have q4 : ((n : Int) == 0) = false := by simp only [beq_eq_false_iff_ne, ne_eq]; omega
  have q5 : decide ((2000 : Int) < (n : Int)) = false := decide_eq_false (by omega)
  have q6 : ¬ (n : Int) = 0 := by omega
  have q7 : 8 + (n : Int) ≤ (s.size : Int) := by omega
  have hm : (8 + (n : Int)).toNat = 8 + n := by omega
  have q8 : (0 : Int) ≤ 8 + (n : Int) := by omega
  have w1 : IntKind.i64.wrap (8 + (n : Int)) = 8 + (n : Int) := by rw [IntKind.wrap_i64]; omega
  have w2 : wrap64 (8 + (n : Int)) = 8 + (n : Int) := by unfold wrap64; omega
  clear hl h8
  go_enter Tryz.func142, Tryz.ntmps142
  go_wp2_with fail
  refine c1.mono ?_
  rintro e w1 ⟨rfl, rfl⟩
  go_wp2_with fail
  go_region_with (go_at_call 146; refine (c2 _).mono ?_; rintro e w1 ⟨rfl, hb1⟩)
  all_goals go_wp2_with fail
  all_goals (go_ret3; exact ⟨by rw [EU.out]; rfl, (below_drew w).trans hb1⟩)
end Go.Proofs.YtikknmoeefipmaaGreatDoor
namespace Go.Proofs.YtikknmoeefipmaaGreatDoor
open Go.ChangeShapes Go.WideShapes Go.ChangeAt Go.RowKit Go.PlainAid
set_option linter.unusedVariables false
theorem cell_alloc_keep {w : World} {p : Addr} {x : Value} (h : w.cell? p = some x) (o : Obj) : (w.alloc o).cell? p = some x := by
 rw [((Below.refl w.heap.size w).alloc (Nat.le_refl _) o).cell (World.block_lt_of_cell? _ _ h)]
 exact h
set_option maxRecDepth 20000 in
set_option maxHeartbeats 2000000 in
theorem implPointsOf (t v : List Int) (ut uv : Value) (w : World) (ht : NumsV w w.heap.size ut t) (hv : NumsV w w.heap.size uv v) (hlt : t.length ≤ 1000) (hlv : v.length ≤ 1000) : Calls Tryz.prog 241 #[ut, uv] w fun e w' => (∃ u, e = .returned u ∧ Owns w' w.heap.size 90 2 u (ptR (zipP t v))) ∧ Below w.heap.size w w' := by
 obtain ⟨At, ct, rfl, _, _, h1⟩ := ht
 obtain ⟨Av, cv, rfl, _, _, h2⟩ := hv
 have HT : Hid (∀ j, j < t.length → ∃ g off, At = some ⟨g, off, none⟩ ∧ g < w.heap.size ∧ w.cell? ⟨g, off + j, none⟩ = some (.int .i64 (t.getD j 0))) := h1
 have HV : Hid (∀ j, j < v.length → ∃ g off, Av = some ⟨g, off, none⟩ ∧ g < w.heap.size ∧ w.cell? ⟨g, off + j, none⟩ = some (.int .i64 (v.getD j 0))) := h2
 have HZL : Hid ((zipP t v).length = min t.length v.length) := zipP_length t v
 have HZG : Hid (∀ k, k < t.length → k < v.length → (zipP t v).take (k + 1) = (zipP t v).take k ++ [⟨t.getD k 0, v.getD k 0⟩]) := zipP_get t v
 have q1 : (t.length : Int) ≤ 1000 := by omega
 have q2 : (v.length : Int) ≤ 1000 := by omega
 have hmn : min (t.length : Int) (v.length : Int) = ((min t.length v.length : Nat) : Int) := by omega
 have hmn2 : (if (v.length : Int) < (t.length : Int) then (v.length : Int) else (t.length : Int)) = ((min t.length v.length : Nat) : Int) := by split <;> omega
 clear h1 h2 hlt hlv
 generalize hn : t.length = n at *
 generalize hm : v.length = m at *
 generalize hN : min n m = N at *
 have HN : Hid (N ≤ n ∧ N ≤ m ∧ N ≤ 1000) := by unfold Hid; omega
 clear hn hm
 go_enter Tryz.func241, Tryz.ntmps241
 go_wp2_with fail
 go_loopw [5, 12] (fun v5 v12 wr => ∃ k : Nat, k ≤ N ∧ v12 = .int .i64 (k : Int) ∧ Owns wr w.heap.size 90 2 v5 (ptR ((zipP t v).take k)) ∧ Below w.heap.size w wr) (fun _ i _ => N - (intOf i).toNat)
 case atStart => exact ⟨0, by omega, rfl, by rw [List.take_zero]; exact Owns.nil _ _ _ _, Below.refl _ _⟩
 case round =>
  obtain ⟨k, hk, rfl, hO, hb⟩ := hrel
  have HO : Hid (Owns wr w.heap.size 90 2 u5 (ptR ((zipP t v).take k))) := hO
  have HB1 : Hid (Below w.heap.size w wr) := hb
  clear hO hb
  by_cases hlt : k < N
  ·have q3 : (k : Int) < (N : Int) := by omega
   have hkn := HN.out
   have q4 : (k : Int) < (n : Int) := by omega
   have q5 : (k : Int) < (m : Int) := by omega
   obtain ⟨gt, ot, rfl, hgt, hc1⟩ := HT.out k (by omega)
   obtain ⟨gv, ov, rfl, hgv, hc2⟩ := HV.out k (by omega)
   have HZ : Hid ((zipP t v).take (k + 1) = (zipP t v).take k ++ [⟨t.getD k 0, v.getD k 0⟩]) := HZG.out k (by omega) (by omega)
   rw [← HB1.out.cell (p := ⟨_, _, none⟩) hgt] at hc1
   rw [← HB1.out.cell (p := ⟨_, _, none⟩) hgv] at hc2
   generalize t.getD k 0 = x at *
   generalize v.getD k 0 = y at *
   have hz : w.heap.size ≤ wr.drew.heap.size := HB1.out.size
   obtain ⟨nA, nm, nc, w5, r5, hO5, hb5, hk5, _⟩ := run_append_row (P := Tryz.prog) wr.drew 48 48 90 (.agg #[.int .i64 0, .int .i64 0]) 2 16 Tryz.underlying48 Tryz.infoPt rfl (by omega) w.heap.size u5 (ptR ((zipP t v).take k)) (HO.out.kept fun _ _ _ => rfl) [.int .i64 x, .int .i64 y] rfl (pt_cells x y) (by rw [ptR_length, List.length_take]; omega) (by omega) hz
   have B5 : Hid (Below w.heap.size w w5) := (HB1.out.drew).trans hb5
   have O5 : Hid (Owns w5 w.heap.size 90 2 (.slice nA nm nc) (ptR ((zipP t v).take (k + 1)))) := by unfold Hid; rw [HZ.out, ptR_snoc']; exact hO5
   have S0 : Hid (wr.drew.cell? ⟨gt, ot + k, none⟩ = some (.int .i64 x) ∧ wr.drew.cell? ⟨gv, ov + k, none⟩ = some (.int .i64 y)) := ⟨hc1, hc2⟩
   clear hc1 hc2 hO5 hb5 hk5
   clear hgt hgv
   go_wp2_with fail
   refine wp_region_until (fun w' => w'.cell? ⟨gt, ot + k, none⟩ = some (.int .i64 x) ∧ w'.cell? ⟨gv, ov + k, none⟩ = some (.int .i64 y)) (fun i => i == 11 || i == 12) 13 (by rfl) (by kernel_rfl) ?_
   refine tKe 0 (v := ?_) S0.out ?_ ?_; rotate_left; focus (intro w hSw; (try dsimp only at hSw); go_simp; try with_reducible rfl)
   try simp only [Act.put, zQ1, zQ2, zQ3]
   refine tKe 1 (v := ?_) S0.out ?_ ?_; rotate_left; focus (intro w hSw; (try dsimp only at hSw); go_simp; try with_reducible rfl)
   try simp only [Act.put, zQ1, zQ2, zQ3]
   refine tKe 2 (v := ?_) S0.out ?_ ?_; rotate_left; focus (intro w hSw; (try dsimp only at hSw); go_simp; try with_reducible rfl)
   try simp only [Act.put, zQ1, zQ2, zQ3]
   refine tKe 3 (v := ?_) S0.out ?_ ?_; rotate_left; focus (intro w hSw; (try dsimp only at hSw); go_simp; try with_reducible rfl)
   try simp only [Act.put, zQ1, zQ2, zQ3]
   refine tKe 4 (v := ?_) S0.out ?_ ?_; rotate_left; focus (intro w hSw; (try dsimp only at hSw); go_simp; try with_reducible rfl)
   try simp only [Act.put, zQ1, zQ2, zQ3]
   refine tKe 5 (v := ?_) S0.out ?_ ?_; rotate_left; focus (intro w hSw; (try dsimp only at hSw); go_simp; try with_reducible rfl)
   try simp only [Act.put, zQ1, zQ2, zQ3]
   refine tKe 6 (v := ?_) S0.out ?_ ?_; rotate_left; focus (intro w hSw; (try dsimp only at hSw); go_simp; try with_reducible rfl)
   try simp only [Act.put, zQ1, zQ2, zQ3]
   refine tKe 7 (v := ?_) S0.out ?_ ?_; rotate_left; focus (intro w hSw; (try dsimp only at hSw); go_simp; try with_reducible rfl)
   try simp only [Act.put, zQ1, zQ2, zQ3]
   refine tKe 8 (v := ?_) S0.out ?_ ?_; rotate_left; focus (intro w hSw; (try dsimp only at hSw); go_simp; try with_reducible rfl)
   try simp only [Act.put, zQ1, zQ2, zQ3]
   refine tKe 9 (v := ?_) S0.out ?_ ?_; rotate_left; focus (intro w hSw; (try dsimp only at hSw); go_simp; try with_reducible rfl)
   try simp only [Act.put, zQ1, zQ2, zQ3]
   refine uNe 10 (fun K hK => ?_)
   go_simp
   refine hK.out _ _ (fun _ h => ⟨cell_alloc_keep h.1 _, cell_alloc_keep h.2 _⟩) ?_
   clear hK K
   try simp only [Act.put, zQ1, zQ2, zQ3]
   refine uNe 11 (fun K hK => ?_)
   refine step_append_run (by rfl) (.tmp 15) (.tmp 25) 48 (by rfl) _ _ _ _ (by rfl) (by rfl) r5 ?_
   refine hK.out _ _ (fun h => by cases h) ?_
   clear hK K
   try simp only [Act.put, zQ1, zQ2, zQ3]
   refine uNe 12 (fun K hK => ?_)
   go_simp
   refine hK.out _ _ (fun h => by cases h) ?_
   clear hK K
   try simp only [Act.put, zQ1, zQ2, zQ3]
   refine until_done (by kernel_rfl) ?_ _
   go_wp2_with fail
   go_roundw
   case rel => exact ⟨k + 1, by omega, by go_num, O5.out, B5.out⟩
   case measure => simp [intOf]; omega
  ·obtain rfl : k = N := by omega
   have hF := HO.out
   rw [List.take_of_length_le (by rw [HZL.out]; exact Nat.le_refl _)] at hF
   have HF : Hid (Owns wr w.heap.size 90 2 u5 (ptR (zipP t v))) := hF
   clear hF HO
   go_wp2_with fail
   go_ret
   exact ⟨⟨_, rfl, HF.out⟩, HB1.out⟩
theorem unf_body (s : ByteArray) : ∃ k c : Nat, unf s = #[.string (bodyR s), .int .i64 (k : Int), .int .i64 (c : Int)] ∧ ((code s = 0 ∧ k = 8 + rdv s 4) ∨ (code s ≠ 0 ∧ k = 0 ∧ bodyR s = ⟨#[]⟩)) := by
 by_cases h : code s = 0
 ·refine ⟨8 + rdv s 4, 0, ?_, .inl ⟨h, rfl⟩⟩
  rw [unf, if_pos h, bodyR, if_pos h]
  rfl
 ·refine ⟨0, code s, ?_, .inr ⟨h, rfl, by rw [bodyR, if_neg h]⟩⟩
  rw [unf, if_neg h, bodyR, if_neg h]
  rfl
set_option maxHeartbeats 4000000 in
theorem implReadBlock (s : ByteArray) (w : World) (hs : s.size ≤ 1048576) (hst : SumTab w) (a0 a1 a2 : Addr) (he : Errs w a0 a1 a2) : Calls Tryz.prog 205 #[.string s] w fun e w' => (∃ u l ok, RbAns s l ok ∧ e = .returned (.tuple #[u, .bool ok]) ∧ Owns w' w.heap.size 90 2 u (ptR l)) ∧ Below w.heap.size w w' := by
 have ST : Hid (SumTab w) := hst
 have cU := impl_unframe s w hs hst a0 a1 a2 he
 obtain ⟨k0, c0, hu, _⟩ := unf_body s
 rw [hu] at cU
 have hbz := bodyR_size s
 have qs : (s.size : Int) ≤ 1048576 := by omega
 clear hst he hu
 go_enter Tryz.func205, Tryz.ntmps205
 go_wp2_with fail
 refine cU.mono ?_
 rintro e w1 ⟨rfl, hb⟩
 have B1 : Hid (Below w.heap.size w w1) := hb
 clear hb cU
 have cV := impl_readVar (bodyR s) w1 (by omega)
 go_wp2_with fail
 refine cV.mono ?_
 rintro e w1' ⟨hRV, rfl⟩
 obtain ⟨n, k, hRd, rfl⟩ := hRV.rd
 have hle := hRd.le
 have HR : Hid (RdV (bodyR s) n k) := hRd
 have hsz : ((bodyR s).extract k (bodyR s).size).size ≤ 2000 := by rw [ByteArray.size_extract]; omega
 have cT := implReadTimesA ((bodyR s).extract k (bodyR s).size) n w1 (by omega)
 have qk : (k : Int) ≤ 7 := by omega
 have qb : ((bodyR s).size : Int) ≤ 2000 := by omega
 have qkb : (k : Int) ≤ ((bodyR s).size : Int) := by omega
 have hkb : k ≤ (bodyR s).size := hle.1
 clear hRd hRV cV hle
 go_wp2_with fail
 refine cT.mono ?_
 rintro e w2 ⟨⟨t, a, ut, hAT, rfl, hNT⟩, hb⟩
 have HAT : Hid (RdAns showT rowT ((bodyR s).extract k (bodyR s).size) n t a) := hAT
 have hsh := hAT.short rowT_length
 have LT : Hid (t.length ≤ 60) := hsh.1
 have hak : k + a ≤ (bodyR s).size := by have h2 := hsh.2; rw [ByteArray.size_extract] at h2; omega
 have B2 : Hid (Below w.heap.size w w2) := B1.out.trans (hb.mono B1.out.size)
 have NT : Hid (Nums w2 w1.heap.size ut t) := hNT
 have cW := implReadValuesA ((bodyR s).extract (k + a) (bodyR s).size) n w2 (by rw [ByteArray.size_extract]; omega)
 have qa : (k : Int) + (a : Int) ≤ ((bodyR s).size : Int) := by omega
 have qa1 : (a : Int) ≤ 2000 := by omega
 have ena : ((k : Int) + (a : Int)).toNat = k + a := by omega
 clear hAT hNT hb cT hsh hsz
 go_wp2_with fail
 refine cW.mono ?_
 rintro e w3 ⟨⟨v, b, uv, hAV, rfl, hNV⟩, hb⟩
 have HST : Hid (Steps s n k t a v b) := ⟨HR.out, HAT.out, hAV⟩
 have LV : Hid (v.length ≤ 60) := (hAV.short rowV_length).1
 have B3 : Hid (Below w.heap.size w w3) := B2.out.trans (hb.mono B2.out.size)
 have NT3 : Hid (Nums w3 w1.heap.size ut t) := NT.out.on hb
 have NV3 : Hid (Nums w3 w2.heap.size uv v) := hNV
 clear hAV hNV hb cW NT
 have cP := implPointsOf t v ut uv w3 NT3.out.lies NV3.out.lies (by have := LT.out; omega) (by have := LV.out; omega)
 go_wp2_with fail
 refine cP.mono ?_
 rintro e w4 ⟨⟨up, rfl, hO⟩, hb⟩
 have B4 : Hid (Below w.heap.size w w4) := B3.out.trans (hb.mono B3.out.size)
 have OP : Hid (Owns w4 w3.heap.size 90 2 up (ptR (zipP t v))) := hO
 have LZ : Hid ((zipP t v).length ≤ 60) := by unfold Hid; rw [zipP_length]; have := LT.out; omega
 clear hO hb cP
 have cS := implShowBlock (zipP t v) up w4 w4.heap.size OP.out.lies (by have := LZ.out; omega) (Nat.le_refl _) (ST.out.on B4.out)
 obtain ⟨Ap, cp, rfl, _⟩ := pt_look OP.out.lies
 have HG1 : Hid (∀ m, Good s m → zipP t v = m) := fun m hm => (HST.out.good hm).1
 have HG2 : Hid (1 ≤ (zipP t v).length → showB (zipP t v) = s → Good s (zipP t v)) := fun h1 h2 => HST.out.shown h1 h2
 have qz : ((zipP t v).length : Int) ≤ 60 := by have := LZ.out; omega
 generalize zipP t v = l at *
 by_cases h0 : l.length = 0
 ·have HNO : Hid (∀ m, ¬ Good s m) := fun m hm => by have e := HG1.out m hm; subst e; have := hm.1; omega
  rw [h0]
  clear h0 qz
  go_wp2_with fail
  go_ret2
  exact ⟨⟨_, [], false, .inr ⟨rfl, rfl, HNO.out⟩, rfl, Owns.nil _ _ _ _⟩, B4.out⟩
 have d0 : decide (l.length = 0) = false := decide_eq_false h0
 have d1 : ((l.length : Int) == 0) = false := by rw [beq_eq_false_iff_ne]; omega
 have H1 : Hid (1 ≤ l.length) := by unfold Hid; omega
 have HLL : Hid (Owns w4 w3.heap.size 90 2 (.slice Ap l.length cp) (ptR l)) := OP.out
 generalize hln : l.length = ln at *
 by_cases hsh : showB l = s
 ·have HG : Hid (Good s l) := HG2.out (by have := H1.out; omega) hsh
  have db := bytes_eq hsh
  go_wp2_with fail
  refine cS.mono ?_
  rintro e w5 ⟨rfl, hb5⟩
  have B5 : Hid (Below w.heap.size w w5) := B4.out.trans (hb5.mono B4.out.size)
  have O5 : Hid (Owns w5 w.heap.size 90 2 (.slice Ap ln cp) (ptR l)) := (HLL.out.on hb5).mono B3.out.size
  clear hb5 cS
  rw [hsh]
  go_wp2_with fail
  go_ret2
  exact ⟨⟨_, l, true, .inl ⟨rfl, HG.out⟩, rfl, O5.out⟩, B5.out⟩
 ·have HNO : Hid (∀ m, ¬ Good s m) := fun m hm => by have e := HG1.out m hm; subst e; exact hsh hm.2.2
  have db := bytes_ne hsh
  go_wp2_with fail
  refine cS.mono ?_
  rintro e w5 ⟨rfl, hb5⟩
  have B5 : Hid (Below w.heap.size w w5) := B4.out.trans (hb5.mono B4.out.size)
  clear hb5 cS hsh
  go_wp2_with fail
  go_ret2
  exact ⟨⟨_, [], false, .inr ⟨rfl, rfl, HNO.out⟩, rfl, Owns.nil _ _ _ _⟩, B5.out⟩
end Go.Proofs.YtikknmoeefipmaaGreatDoor
namespace Go.Proofs.YtikknmoeefipmaaGreatDoor
open Go.ChangeShapes Go.WideShapes Go.ChangeAt Go.RowKit Go.PlainAid
set_option linter.unusedVariables false
set_option maxHeartbeats 4000000 in
theorem readSpotV (s : ByteArray) (p g : Nat) (w : World) (hb : CurB w g s p 243) (hs : s.size ≤ 1048576) (hp : p ≤ s.size) : Calls Tryz.prog 187 #[.pointer (some ⟨g, 0, none⟩)] w fun e w' => e = .returned (vSp (spotA s p)) ∧ CurB w' g s (spotP s p) 243 ∧ KeptBut g w w' := by
 have HB : Hid (CurB w g s p 243) := hb
 have HS : Hid (s.size ≤ 1048576) := hs
 have HP : Hid (p ≤ s.size) := hp
 have HNG : Hid (w.heap.size ≠ g) := by have := Blk.lt hb; unfold Hid; omega
 have HGL : Hid (g < w.heap.size) := Blk.lt hb
 have HL2 : Hid (tkP s p ≤ s.size) := tkP_le _ _ hp
 have HL3 : Hid (spK s p ≤ s.size) := tk_le _ _ _
 have HL4 : Hid (tkP s (spK s p) ≤ s.size) := tkP_le _ _ HL3.out
 have HL5 : Hid (tkP s (tkP s (spK s p)) ≤ s.size) := tkP_le _ _ HL4.out
 have HL6 : Hid (tkP s (tkP s (tkP s (spK s p))) ≤ s.size) := tkP_le _ _ HL5.out
 have HM : Hid (tkN s p ≤ 562949953421311) := rvN_le _
 have HE : vSp (spotA s p) = .agg #[.string (s.extract (tkP s p) (spK s p)), .int .i64 (tkN s (spK s p) : Int), .int .i64 (tkN s (tkP s (spK s p)) : Int), .int .i64 (tkN s (tkP s (tkP s (spK s p))) : Int), .int .i64 (tkN s (tkP s (tkP s (tkP s (spK s p)))) : Int)] := rfl
 have HQ : spotP s p = tkP s (tkP s (tkP s (tkP s (spK s p)))) := rfl
 rw [HE, HQ]
 have c1 := fun wx (hC : CurB wx g s p 243) => takeVarV s p g wx hC hs hp
 have c2 : ∀ wx, CurB wx g s (tkP s p) 243 → Calls Tryz.prog 222 #[.pointer (some ⟨g, 0, none⟩), .int .i64 (tkN s p : Int)] wx fun e w' => e = .returned (.string (s.extract (tkP s p) (spK s p))) ∧ CurB w' g s (spK s p) 243 ∧ KeptBut g wx w' := fun wx hC => takeV s (tkP s p) (tkN s p) g wx hC hs HL2.out HM.out
 have c3 := fun wx (hC : CurB wx g s (spK s p) 243) => takeVarV s (spK s p) g wx hC hs HL3.out
 have c4 := fun wx (hC : CurB wx g s (tkP s (spK s p)) 243) => takeVarV s (tkP s (spK s p)) g wx hC hs HL4.out
 have c5 := fun wx (hC : CurB wx g s (tkP s (tkP s (spK s p))) 243) => takeVarV s (tkP s (tkP s (spK s p))) g wx hC hs HL5.out
 have c6 := fun wx (hC : CurB wx g s (tkP s (tkP s (tkP s (spK s p)))) 243) => takeVarV s (tkP s (tkP s (tkP s (spK s p)))) g wx hC hs HL6.out
 clear HE HQ HL2 HL3 HL4 HL5 HL6 HM
 generalize (tkN s (tkP s (tkP s (tkP s (spK s p)))) : Int) = y4 at *
 generalize (tkN s (tkP s (tkP s (spK s p))) : Int) = y3 at *
 generalize (tkN s (tkP s (spK s p)) : Int) = y2 at *
 generalize (tkN s (spK s p) : Int) = y1 at *
 generalize s.extract (tkP s p) (spK s p) = y0 at *
 generalize tkP s (tkP s (tkP s (tkP s (spK s p)))) = p6 at *
 generalize tkP s (tkP s (tkP s (spK s p))) = p5 at *
 generalize tkP s (tkP s (spK s p)) = p4 at *
 generalize tkP s (spK s p) = p3 at *
 generalize spK s p = p2 at *
 generalize tkP s p = p1 at *
 generalize (tkN s p : Int) = n0 at *
 have C0 : Hid (CurB (w.alloc (.cells #[.string ⟨#[]⟩, .int .i64 0, .int .i64 0, .int .i64 0, .int .i64 0] 180)) g s p 243) := Blk.alloc hb _
 have R0 : Hid (Blk (w.alloc (.cells #[.string ⟨#[]⟩, .int .i64 0, .int .i64 0, .int .i64 0, .int .i64 0] 180)) w.heap.size #[.string ⟨#[]⟩, .int .i64 0, .int .i64 0, .int .i64 0, .int .i64 0] 180) := Blk.new w _ _
 have D0 : Hid (KeptBut g w (w.alloc (.cells #[.string ⟨#[]⟩, .int .i64 0, .int .i64 0, .int .i64 0, .int .i64 0] 180))) := KeptBut.of ((Below.refl _ w).alloc (Nat.le_refl _) _) HGL.out
 clear hb hs hp
 go_enter Tryz.func187, Tryz.ntmps187
 go_wp2_with fail
 refine (c1 _ C0.out).mono ?_
 rintro e X1 ⟨rfl, hC, hk⟩
 have C1 : Hid (CurB X1 g s p1 243) := hC
 have D1 : Hid (KeptBut g w X1) := D0.out.trans hk
 have R1 : Hid (Blk X1 w.heap.size #[.string ⟨#[]⟩, .int .i64 0, .int .i64 0, .int .i64 0, .int .i64 0] 180) := hk.blk R0.out HNG.out
 clear hC hk
 go_wp2_with fail
 refine (c2 _ C1.out).mono ?_
 rintro e X2 ⟨rfl, hC, hk⟩
 have C2 : Hid (CurB X2 g s p2 243) := hC
 have D2 : Hid (KeptBut g w X2) := D1.out.trans hk
 have R2 : Hid (Blk X2 w.heap.size #[.string ⟨#[]⟩, .int .i64 0, .int .i64 0, .int .i64 0, .int .i64 0] 180) := hk.blk R1.out HNG.out
 clear hC hk
 go_wp2_with fail
 refine (c3 _ C2.out).mono ?_
 rintro e X3 ⟨rfl, hC, hk⟩
 have C3 : Hid (CurB X3 g s p3 243) := hC
 have D3 : Hid (KeptBut g w X3) := D2.out.trans hk
 have R3 : Hid (Blk X3 w.heap.size #[.string ⟨#[]⟩, .int .i64 0, .int .i64 0, .int .i64 0, .int .i64 0] 180) := hk.blk R2.out HNG.out
 clear hC hk
 go_wp2_with fail
 refine (c4 _ C3.out).mono ?_
 rintro e X4 ⟨rfl, hC, hk⟩
 have C4 : Hid (CurB X4 g s p4 243) := hC
 have D4 : Hid (KeptBut g w X4) := D3.out.trans hk
 have R4 : Hid (Blk X4 w.heap.size #[.string ⟨#[]⟩, .int .i64 0, .int .i64 0, .int .i64 0, .int .i64 0] 180) := hk.blk R3.out HNG.out
 clear hC hk
 go_wp2_with fail
 refine (c5 _ C4.out).mono ?_
 rintro e X5 ⟨rfl, hC, hk⟩
 have C5 : Hid (CurB X5 g s p5 243) := hC
 have D5 : Hid (KeptBut g w X5) := D4.out.trans hk
 have R5 : Hid (Blk X5 w.heap.size #[.string ⟨#[]⟩, .int .i64 0, .int .i64 0, .int .i64 0, .int .i64 0] 180) := hk.blk R4.out HNG.out
 clear hC hk
 go_wp2_with fail
 refine (c6 _ C5.out).mono ?_
 rintro e X6 ⟨rfl, hC, hk⟩
 have C6 : Hid (CurB X6 g s p6 243) := hC
 have D6 : Hid (KeptBut g w X6) := D5.out.trans hk
 have R6 : Hid (Blk X6 w.heap.size #[.string ⟨#[]⟩, .int .i64 0, .int .i64 0, .int .i64 0, .int .i64 0] 180) := hk.blk R5.out HNG.out
 clear hC hk
 clear c1 c2 c3 c4 c5 c6
 have p0 := R6.out
 have g0 : X6.cell? ⟨w.heap.size, 0, none⟩ = some (.string ⟨#[]⟩) := p0.cell 0 _ rfl
 have h0 := p0.free 0
 have g1 : X6.cell? ⟨w.heap.size, 1, none⟩ = some (.int .i64 0) := p0.cell 1 _ rfl
 have h1 := p0.free 1
 have g2 : X6.cell? ⟨w.heap.size, 2, none⟩ = some (.int .i64 0) := p0.cell 2 _ rfl
 have h2 := p0.free 2
 have g3 : X6.cell? ⟨w.heap.size, 3, none⟩ = some (.int .i64 0) := p0.cell 3 _ rfl
 have h3 := p0.free 3
 have g4 : X6.cell? ⟨w.heap.size, 4, none⟩ = some (.int .i64 0) := p0.cell 4 _ rfl
 have h4 := p0.free 4
 have p1 := p0.set 0 (.string y0)
 have p2 := p1.set 1 (.int .i64 y1)
 have p3 := p2.set 2 (.int .i64 y2)
 have p4 := p3.set 3 (.int .i64 y3)
 have p5 := p4.set 4 (.int .i64 y4)
 generalize hW5 : (((((X6.setCell ⟨w.heap.size, 0, none⟩ (.string y0)).setCell ⟨w.heap.size, 1, none⟩ (.int .i64 y1)).setCell ⟨w.heap.size, 2, none⟩ (.int .i64 y2)).setCell ⟨w.heap.size, 3, none⟩ (.int .i64 y3)).setCell ⟨w.heap.size, 4, none⟩ (.int .i64 y4)) = W5 at p5
 have P5 : Hid (Blk W5 w.heap.size #[.string y0, .int .i64 y1, .int .i64 y2, .int .i64 y3, .int .i64 y4] 180) := p5
 have PE : Hid (CurB W5 g s p6 243) := by
  rw [← hW5]
  exact ((((Blk.other C6.out (Ne.symm HNG.out) _ _).other (Ne.symm HNG.out) _ _).other (Ne.symm HNG.out) _ _).other (Ne.symm HNG.out) _ _).other (Ne.symm HNG.out) _ _
 have KE : Hid (KeptBut g w W5) := by
  rw [← hW5]
  have hk : w.heap.size ≤ w.heap.size := Nat.le_refl _
  have hg : g ≤ w.heap.size := by have := HGL.out; omega
  exact ((((D6.out.setNew hk hg _ _).setNew hk hg _ _).setNew hk hg _ _).setNew hk hg _ _).setNew hk hg _ _
 clear p0 p1 p2 p3 p4 p5
 have k0 := P5.out.cell 0 (.string y0) rfl
 have k1 := P5.out.cell 1 (.int .i64 y1) rfl
 have k2 := P5.out.cell 2 (.int .i64 y2) rfl
 have k3 := P5.out.cell 3 (.int .i64 y3) rfl
 have k4 := P5.out.cell 4 (.int .i64 y4) rfl
 go_wp2_with fail
 exact bodyPost_ret (v := .agg #[.string y0, .int .i64 y1, .int .i64 y2, .int .i64 y3, .int .i64 y4]) (by simp [results, go_sem, k0, k1, k2, k3, k4]) rfl ⟨rfl, PE.out, KE.out⟩
set_option maxHeartbeats 4000000 in
theorem readBlockV (s : ByteArray) (p g : Nat) (x : Spot) (w w0 : World) (hb : CurB w g s p 243) (hs : s.size ≤ 1048576) (hx : x.at' ≤ 562949953421311 ∧ x.size ≤ 562949953421311) (hw : Below w0.heap.size w0 w) (hg : w0.heap.size ≤ g) (hst : SumTab w0) (a0 a1 a2 : Addr) (he : Errs w0 a0 a1 a2) : Calls Tryz.prog 185 #[.pointer (some ⟨g, 0, none⟩), vSp x] w fun e w' => (∃ u, e = .returned u ∧ Owns w' w.heap.size 90 2 u (ptR (rbP (blkA s x)))) ∧ (∃ p', CurB w' g s p' 243) ∧ KeptBut g w w' := by
 have HS : Hid (s.size ≤ 1048576) := hs
 have HW : Hid (Below w0.heap.size w0 w) := hw
 have HG : Hid (w0.heap.size ≤ g) := hg
 have ST : Hid (SumTab w0) := hst
 have ER : Hid (Errs w0 a0 a1 a2) := he
 have HNG : Hid (w.heap.size ≠ g) := by have := Blk.lt hb; unfold Hid; omega
 have HGL : Hid (g < w.heap.size) := Blk.lt hb
 have HBA : Hid (s.extract (min x.at' s.size) (tk s (min x.at' s.size) x.size) = blkA s x) := rfl
 unfold vSp
 obtain ⟨xk, xa, xz, xf, xl⟩ := x
 simp only at hx HBA ⊢
 have C0 : Hid (CurB (w.alloc (.cells #[.string xk, .int .i64 (xa : Int), .int .i64 (xz : Int), .int .i64 (xf : Int), .int .i64 (xl : Int)] 180)).drew g s p 243) := Blk.alloc hb _
 have R0 : Hid (Blk (w.alloc (.cells #[.string xk, .int .i64 (xa : Int), .int .i64 (xz : Int), .int .i64 (xf : Int), .int .i64 (xl : Int)] 180)).drew w.heap.size #[.string xk, .int .i64 (xa : Int), .int .i64 (xz : Int), .int .i64 (xf : Int), .int .i64 (xl : Int)] 180) := Blk.new w _ _
 have D0 : Hid (KeptBut g w (w.alloc (.cells #[.string xk, .int .i64 (xa : Int), .int .i64 (xz : Int), .int .i64 (xf : Int), .int .i64 (xl : Int)] 180)).drew) := (KeptBut.of ((Below.refl _ w).alloc (Nat.le_refl _) _) HGL.out).drew
 have cg := goToV s p xa (w.alloc (.cells #[.string xk, .int .i64 (xa : Int), .int .i64 (xz : Int), .int .i64 (xf : Int), .int .i64 (xl : Int)] 180)).drew g 243 C0.out hs (by omega)
 have HZ : Hid (xz ≤ 562949953421311) := hx.2
 have S0 : Hid ((w.alloc (.cells #[.string xk, .int .i64 (xa : Int), .int .i64 (xz : Int), .int .i64 (xf : Int), .int .i64 (xl : Int)] 180)).drew.cell? ⟨w.heap.size, 1, none⟩ = some (.int .i64 (xa : Int))) := R0.out.cell 1 _ rfl
 have HPm : Hid (min xa s.size ≤ s.size) := Nat.min_le_right _ _
 clear hb hs hx hw hg hst he
 generalize hq : min xa s.size = q at *
 clear hq
 go_enter Tryz.func185, Tryz.ntmps185
 go_wp2_with fail
 refine wp_region_until (fun w' => w'.cell? ⟨w.heap.size, 1, none⟩ = some (.int .i64 (xa : Int))) (fun _ => false) 6 (by rfl) (by kernel_rfl) ?_
 refine tKe 0 (v := ?_) S0.out ?_ ?_; rotate_left; focus (intro w hSw; (try dsimp only at hSw); go_simp; try with_reducible rfl)
 try simp only [Act.put, zQ1, zQ2, zQ3]
 refine tKe 1 (v := ?_) S0.out ?_ ?_; rotate_left; focus (intro w hSw; (try dsimp only at hSw); go_simp; try with_reducible rfl)
 try simp only [Act.put, zQ1, zQ2, zQ3]
 refine tKe 2 (v := ?_) S0.out ?_ ?_; rotate_left; focus (intro w hSw; (try dsimp only at hSw); go_simp; try with_reducible rfl)
 try simp only [Act.put, zQ1, zQ2, zQ3]
 refine tKe 3 (v := ?_) S0.out ?_ ?_; rotate_left; focus (intro w hSw; (try dsimp only at hSw); go_simp; try with_reducible rfl)
 try simp only [Act.put, zQ1, zQ2, zQ3]
 refine tKe 4 (v := ?_) S0.out ?_ ?_; rotate_left; focus (intro w hSw; (try dsimp only at hSw); go_simp; try with_reducible rfl)
 try simp only [Act.put, zQ1, zQ2, zQ3]
 refine uNe 5 (fun K hK => ?_)
 go_simp
 refine cg.mono ?_
 rintro e X1 ⟨⟨u, rfl⟩, hX⟩
 have C1 : Hid (CurB X1 g s q 243) := by rw [hX]; exact Blk.set C0.out 1 _
 have R1 : Hid (Blk X1 w.heap.size #[.string xk, .int .i64 (xa : Int), .int .i64 (xz : Int), .int .i64 (xf : Int), .int .i64 (xl : Int)] 180) := by rw [hX]; exact Blk.other R0.out HNG.out _ _
 have D1 : Hid (KeptBut g w X1) := by rw [hX]; exact D0.out.set 1 _
 clear hX
 go_wp2_with fail
 refine hK.out _ _ (fun _ _ => R1.out.cell 1 _ rfl) ?_
 clear hK K
 try simp only [Act.put, zQ1, zQ2, zQ3]
 refine until_done (by kernel_rfl) ?_ _
 have m2 := R1.out.cell 2 (.int .i64 (xz : Int)) rfl
 go_wp2_with fail
 refine (takeV s q xz g X1 C1.out HS.out HPm.out HZ.out).mono ?_
 rintro e X2 ⟨rfl, hC, hk⟩
 rw [HBA.out]
 have C2 : Hid (CurB X2 g s (tk s q xz) 243) := hC
 have D2 : Hid (KeptBut g w X2) := D1.out.trans hk
 clear hC hk m2
 have B2 : Hid (Below w0.heap.size w0 X2) := HW.out.trans (D2.out.1.mono HG.out)
 have HBs : Hid ((blkA s ⟨xk, xa, xz, xf, xl⟩).size ≤ 1048576) := by unfold Hid blkA; rw [ByteArray.size_extract]; have := HS.out; omega
 go_wp2_with fail
 refine (implReadBlock (blkA s ⟨xk, xa, xz, xf, xl⟩) X2 HBs.out (ST.out.on B2.out) a0 a1 a2 (ER.out.on B2.out)).mono ?_
 rintro e X3 ⟨⟨u3, l3, ok3, hR, rfl, hO⟩, hb3⟩
 obtain rfl := rbP_is hR
 have C3 : Hid (CurB X3 g s (tk s q xz) 243) := Blk.on C2.out hb3 (Blk.lt C2.out)
 have D3 : Hid (KeptBut g w X3) := D2.out.trans (KeptBut.of hb3 (Blk.lt C2.out))
 have O3 : Hid (Owns X3 w.heap.size 90 2 u3 (ptR (rbP (blkA s ⟨xk, xa, xz, xf, xl⟩)))) := hO.mono D2.out.size
 clear hb3 hO hR
 go_wp2_with fail
 go_ret
 exact ⟨⟨_, rfl, O3.out⟩, ⟨_, C3.out⟩, D3.out⟩
def left5 (v : Value) : Nat := match v with
 | .slice _ m _ => 5 - m
 | _ => 0
set_option maxHeartbeats 4000000 in
theorem readIndexV (s : ByteArray) (p0 g : Nat) (w : World) (hb : CurB w g s p0 243) (hs : s.size ≤ 1048576) : Calls Tryz.prog 157 #[.pointer (some ⟨g, 0, none⟩)] w fun e w' => (∃ u, e = .returned u ∧ Owns w' w.heap.size 180 5 u (spR (spots s))) ∧ (∃ p', CurB w' g s p' 243) ∧ KeptBut g w w' := by
 have HB : Hid (CurB w g s p0 243) := hb
 have HS : Hid (s.size ≤ 1048576) := hs
 have HGL : Hid (g < w.heap.size) := Blk.lt hb
 have m0 : w.cell? ⟨g, 0, none⟩ = some (.string s) := Blk.cell hb 0 _ rfl
 have q0 : (s.size : Int) ≤ 1048576 := by omega
 clear hb
 by_cases h8 : s.size < 8
 ·have HE : Hid (spots s = []) := by unfold Hid spots; rw [if_pos h8]
  have q1 : (s.size : Int) < 8 := by omega
  have d1 : (s.size : Int) - 8 < 0 := by omega
  clear hs h8
  go_enter Tryz.func157, Tryz.ntmps157
  go_wp2_with fail
  go_ret
  exact ⟨⟨_, rfl, by rw [HE.out]; exact Owns.nil _ _ _ _⟩, ⟨_, HB.out⟩, KeptBut.refl _ _⟩
 have HE : Hid (spots s = idxA s (s.size - 8) 5 (min (rdv (rest s (s.size - 8)) 4) s.size)) := by unfold Hid spots; rw [if_neg h8]
 have q1 : (8 : Int) ≤ (s.size : Int) := by omega
 have d1 : decide ((s.size : Int) - 8 < 0) = false := decide_eq_false (by omega)
 have e2 : ((s.size : Int) - 8).toNat = s.size - 8 := by omega
 have HRs : Hid ((s.extract (s.size - 8) s.size).size = 8) := by unfold Hid; rw [ByteArray.size_extract]; omega
 have c1 := fun wx => impl_readFixed (s.extract (s.size - 8) s.size) 4 wx (by rw [HRs.out]; unfold maxLen; omega) (by omega) (by omega) (by rw [HRs.out]; omega)
 have hlt := rdv_four_lt (s.extract (s.size - 8) s.size)
 have HRb : Hid (rdv (s.extract (s.size - 8) s.size) 4 = rdv (rest s (s.size - 8)) 4) := rfl
 clear hs h8
 have cg := goToV s p0 (rdv (s.extract (s.size - 8) s.size) 4) w g 243 HB.out HS.out (by omega)
 rw [← HRb.out] at HE
 have HP0 : Hid (min (rdv (s.extract (s.size - 8) s.size) 4) s.size ≤ s.size) := Nat.min_le_right _ _
 have HSP : Hid (spots s = idxA s (s.size - 8) 5 (min (rdv (s.extract (s.size - 8) s.size) 4) s.size)) := HE.out
 clear HE
 generalize min (rdv (s.extract (s.size - 8) s.size) 4) s.size = pb at *
 generalize rdv (s.extract (s.size - 8) s.size) 4 = rd at *
 have C1 : Hid (CurB (w.setCell ⟨g, 1, none⟩ (.int .i64 (pb : Int))) g s pb 243) := Blk.set HB.out 1 _
 have D1 : Hid (KeptBut g w (w.setCell ⟨g, 1, none⟩ (.int .i64 (pb : Int)))) := (KeptBut.refl g w).set 1 _
 go_enter Tryz.func157, Tryz.ntmps157
 go_wp2_with fail
 refine (c1 _).mono ?_
 rintro e w' ⟨rfl, rfl⟩
 go_wp2_with fail
 refine cg.mono ?_
 rintro e X1 ⟨⟨u, rfl⟩, rfl⟩
 go_wp2_with fail
 clear c1 cg m0 hlt
 go_loopw [6] (fun v6 wr => ∃ (P : List Spot) (p : Nat), P.length ≤ 5 ∧ p ≤ s.size ∧ Owns wr w.heap.size 180 5 v6 (spR P) ∧ CurB wr g s p 243 ∧ KeptBut g w wr ∧ Hid (P ++ idxA s (s.size - 8) (5 - P.length) p = spots s)) (fun v _ => left5 v)
 case atStart => exact ⟨[], pb, by simp, HP0.out, Owns.nil _ _ _ _, C1.out, D1.out, HSP.out.symm⟩
 case round =>
  obtain ⟨P, p, hP, hp, hO, hC, hk, HX⟩ := hrel
  have HO : Hid (Owns wr w.heap.size 180 5 u6 (spR P)) := hO
  have HC : Hid (CurB wr g s p 243) := hC
  have HKB : Hid (KeptBut g w wr) := hk
  have HPs : Hid (p ≤ s.size) := hp
  obtain ⟨A6, c6, e6, _⟩ := sp_look hO.lies
  subst e6
  have m1 : wr.cell? ⟨g, 1, none⟩ = some (.int .i64 (p : Int)) := Blk.cell hC 1 _ rfl
  clear hO hC hk hp
  generalize hm : P.length = m at *
  have HMm : Hid (P.length = m) := hm
  clear hm
  by_cases hpe : p < s.size - 8
  ·have q5 : (p : Int) < (s.size : Int) - 8 := by omega
   by_cases hm5 : m < 5
   ·have q6 : (m : Int) < 5 := by omega
    have q7 : decide ((m : Int) < 5) = true := decide_eq_true q6
    have cr := readSpotV s p g wr HC.out HS.out HPs.out
    have HX2 : Hid ((P ++ [spotA s p]) ++ idxA s (s.size - 8) (5 - (P ++ [spotA s p]).length) (spotP s p) = spots s) := by
     unfold Hid
     rw [← HX.out]
     have e5 : 5 - m = (5 - (m + 1)) + 1 := by omega
     rw [e5, idxA, if_pos hpe, List.length_append, HMm.out, List.append_assoc]
     rfl
    have HPl : Hid (spotP s p ≤ s.size) := spotP_le _ _
    have hLn : (P ++ [spotA s p]).length = m + 1 := by rw [List.length_append, HMm.out]; rfl
    have HLn : Hid ((P ++ [spotA s p]).length = m + 1) := hLn
    have HRw : Hid (spR (P ++ [spotA s p]) = spR P ++ [spC (spotA s p)]) := spR_append _ _
    unfold vSp at cr
    generalize spotA s p = x at *
    generalize spotP s p = p' at *
    clear hLn
    go_wp2_with fail
    refine (placeV wr g p m1).mono ?_
    rintro e w' ⟨rfl, rfl⟩
    clear m1
    go_wp2_with fail
    refine cr.mono ?_
    rintro e X2 ⟨rfl, hC2, hk2⟩
    have hOn : (Value.slice A6 m c6).ownBlock ≠ some g := fun e => by have := (HO.out.lt g e).1; have := HGL.out; omega
    have C2 : Hid (CurB X2 g s p' 243) := hC2
    have D2 : Hid (KeptBut g w X2) := HKB.out.trans hk2
    have O2 : Hid (Owns X2 w.heap.size 180 5 (.slice A6 m c6) (spR P)) := hk2.owns HO.out hOn
    have HOn : Hid ((Value.slice A6 m c6).ownBlock ≠ some g) := hOn
    have Z2 : w.heap.size ≤ X2.heap.size := D2.out.size
    have L2 : Hid ((spR P).length ≤ 2097152) := by unfold Hid; rw [spR_length, HMm.out]; omega
    clear hC2 hk2 cr hOn
    go_wp2_with (at_builtin; refine wpList_append_row (w := X2) rfl (.tmp 43) (.tmp 46) 163 180 (.agg #[.string ⟨#[]⟩, .int .i64 0, .int .i64 0, .int .i64 0, .int .i64 0]) 5 48 rfl Tryz.underlying163 Tryz.infoSp rfl (by omega) w.heap.size (.slice A6 m c6) (spR P) rfl O2.out (spC x) rfl (sp_one _) rfl L2.out (by omega) Z2 ?_; intro v2 w4 hO4 hb4 hk4 hw4; refine Shut.out ?_)
    unfold Shut
    have O4 : Hid (Owns w4 w.heap.size 180 5 v2 (spR (P ++ [x]))) := by unfold Hid; rw [HRw.out]; exact hO4
    have C4 : Hid (CurB w4 g s p' 243) := (hk4 g (Blk.lt C2.out) HOn.out).trans C2.out
    have D4 : Hid (KeptBut g w w4) := ⟨D2.out.1.trans (hb4.mono (by have := HGL.out; omega)), fun b hb hl => by
     rw [hk4 b (Nat.lt_of_lt_of_le hl D2.out.size) (fun e => by have := (O2.out.lt b e).1; omega)]
     exact D2.out.2 b hb hl⟩
    obtain ⟨A7, c7, e7, _⟩ := sp_look O4.out.lies
    rw [HLn.out] at e7
    subst e7
    clear hO4 hb4 hk4 hw4
    go_wp2_with fail
    go_roundw
    case rel => exact ⟨P ++ [x], p', by rw [HLn.out]; omega, HPl.out, O4.out, C4.out, D4.out, HX2.out⟩
    case measure => simp [left5]; omega
   ·have q6 : ¬ (m : Int) < 5 := by omega
    have q7 : decide ((m : Int) < 5) = false := decide_eq_false q6
    have HF : Hid (P = spots s) := by
     unfold Hid
     rw [← HX.out, show 5 - m = 0 by omega, idxA, List.append_nil]
    go_wp2_with fail
    refine (placeV wr g p m1).mono ?_
    rintro e w' ⟨rfl, rfl⟩
    go_wp2_with fail
    go_ret
    exact ⟨⟨_, rfl, by rw [← HF.out]; exact HO.out⟩, ⟨_, HC.out⟩, HKB.out⟩
  ·have q5 : ¬ (p : Int) < (s.size : Int) - 8 := by omega
   have q7 : decide ((p : Int) < (s.size : Int) - 8) = false := decide_eq_false q5
   have HF : Hid (P = spots s) := by
    unfold Hid
    rw [← HX.out]
    generalize 5 - m = f
    cases f with
    | zero => rw [idxA, List.append_nil]
    | succ f => rw [idxA, if_neg hpe, List.append_nil]
   go_wp2_with fail
   refine (placeV wr g p m1).mono ?_
   rintro e w' ⟨rfl, rfl⟩
   go_wp2_with fail
   go_ret
   exact ⟨⟨_, rfl, by rw [← HF.out]; exact HO.out⟩, ⟨_, HC.out⟩, HKB.out⟩
set_option maxHeartbeats 1000000 in
theorem readerOfV (s : ByteArray) (w : World) : Calls Tryz.prog 156 #[.string s] w fun e w' => e = .returned (.pointer (some ⟨w.heap.size, 0, none⟩)) ∧ w' = w.alloc (.cells #[.string s, .int .i64 0] 243) := by
 go_enter Tryz.func156, Tryz.ntmps156
 go_wp2
 go_ret
 exact ⟨rfl, rfl⟩
end Go.Proofs.YtikknmoeefipmaaGreatDoor
