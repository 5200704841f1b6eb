/- Unframe BkRead SrLaw SrOk OpI -/
import Derived.Test.YtimfnbnffibgpaaGreatDoorQx6
import Derived.Laws.DeepStrings4
import Derived.OwnWalk
import Derived.Test.YtimfnbnffibgpaaGreatDoorRows
import Derived.Test.YtimfnbnffibgpaaGreatDoorQx5
import Derived.Test.YtimfnbnffibgpaaGreatDoorQx3
import Derived.Test.YtimfnbnffibgpaaGreatDoorQx4
import Derived.Test.YtimfnbnffibgpaaGreatDoorQx1
import Derived.WalkKit
import Derived.ProofKit
import Derived.OpenShut
import Derived.Below
import Derived.WalkSmall
import Derived.BigQuiet
import Derived.Deep.QuietTactic
import Derived.Deep.RegionWith
import Derived.WalkLawsBesides
import Derived.Outline
import Derived.Handy
import Derived.Deep.Cut
import Derived.Deep.CutRange
import Derived.Laws.StructEq
open List (setIfInBounds_toArray set_cons_zero set_cons_succ)
namespace Go.Proofs.YtimfnbnffibgpaaGreatDoor
open Go.ChangeShapes Go.WideShapes Go.ChangeAt Go.RowKit Go.PlainAid
set_option linter.unusedVariables false
theorem body_bad (s : ByteArray) (i : Nat) (w : World) (hi : i ≤ s.size) (hs : s.size ≤ 1048576) (ht : SumTab w) (a0 a1 a2 : Addr) (he : Errs w a0 a1 a2) (hcode : code (rest s i) ≠ 0) :
  Calls Tryz.prog 122 #[.string s, .int .i64 (i : Int)] w fun e w' => (∃ p a, e = badBody p a ∧ (code (rest s i) = 1 ∧ a = a0 ∨ code (rest s i) = 2 ∧ (a = a1 ∨ a = a2))) ∧ Below w.heap.size w w' := by
 by_cases h4 : (rest s i).size < 4
 ·refine (body_short4 s i w hi hs a0 a1 a2 he h4).mono ?_
  rintro e w' ⟨⟨p, rfl⟩, hb⟩
  exact ⟨⟨p, a0, rfl, .inl ⟨by rw [code, if_pos h4], rfl⟩⟩, hb⟩
 by_cases hl : rdv (rest s i) 4 = 0 ∨ 2000 < rdv (rest s i) 4
 ·refine (body_len s i w hi hs a0 a1 a2 he (by omega) hl).mono ?_
  rintro e w' ⟨⟨p, rfl⟩, hb⟩
  exact ⟨⟨p, a1, rfl, .inr ⟨by rw [code, if_neg h4, if_pos hl], .inl rfl⟩⟩, hb⟩
 by_cases h8 : (rest s i).size < 8 + rdv (rest s i) 4
 ·refine (body_short8 s i w hi hs a0 a1 a2 he (by omega) (by omega) (by omega) h8).mono ?_
  rintro e w' ⟨⟨p, rfl⟩, hb⟩
  exact ⟨⟨p, a0, rfl, .inl ⟨by rw [code, if_neg h4, if_neg hl, if_pos h8], rfl⟩⟩, hb⟩
 have hsum : sumOf ((rest s i).extract 0 4) (bodyOf (rest s i)) ≠ (rest s i).extract 4 8 := fun h => hcode (by rw [code, if_neg h4, if_neg hl, if_neg h8, if_pos h])
 refine (body_sum s i w hi hs ht a0 a1 a2 he (by omega) (by omega) (by omega) (by omega) hsum).mono ?_
 rintro e w' ⟨⟨p, rfl⟩, hb⟩
 exact ⟨⟨p, a2, rfl, .inr ⟨by rw [code, if_neg h4, if_neg hl, if_neg h8, if_neg hsum], .inr rfl⟩⟩, hb⟩
def unf (s : ByteArray) : Array Value := if code s = 0 then #[.string (bodyOf s), .int .i64 ((8 + rdv s 4 : Nat) : Int), .int .i64 0] else #[.string ⟨#[]⟩, .int .i64 0, .int .i64 (code s : Int)]
set_option maxHeartbeats 1000000 in
theorem impl_unframe (s : ByteArray) (w : World) (hs : s.size ≤ 1048576) (ht : SumTab w) (a0 a1 a2 : Addr) (he : Errs w a0 a1 a2) :
  Calls Tryz.prog 113 #[.string s] w fun e w' => e = .returned (.tuple (unf s)) ∧ Below w.heap.size w w' := by
 have HE : Hid (Errs w a0 a1 a2) := he
 by_cases hcode : code s = 0
 ·have c1 := body_ok s 0 w (by omega) hs ht (by rw [rest_zero]; exact hcode)
  rw [rest_zero, show ((0 : Nat) : Int) = 0 from rfl] at c1
  obtain ⟨h4, h1, h2, h8, hsum⟩ := (code_zero _).1 hcode
  have hz := bodyOf_size s h8
  have EU : Hid (unf s = #[.string (bodyOf s), .int .i64 ((8 + rdv s 4 : Nat) : Int), .int .i64 0]) := by unfold Hid; rw [unf, if_pos hcode]
  have q1 : ((bodyOf s).size : Int) = (rdv s 4 : Int) := by rw [hz]
  have q2 : (rdv s 4 : Int) ≤ 2000 := by omega
  clear hcode hsum ht he h4 h1 h2 h8 hs hz
  generalize rdv s 4 = n at *
  generalize bodyOf s = b at *
  go_enter Tryz.func113, Tryz.ntmps113
  go_wp2_with fail
  refine c1.mono ?_
  rintro e w1 ⟨rfl, hb1⟩
  go_wp2_with fail
  go_ret3
  exact ⟨by rw [EU.out]; go_num, hb1⟩
 ·have c1 := body_bad s 0 w (by omega) hs ht a0 a1 a2 he (by rw [rest_zero]; exact hcode)
  rw [rest_zero, show ((0 : Nat) : Int) = 0 from rfl] at c1
  have EU : Hid (unf s = #[.string ⟨#[]⟩, .int .i64 0, .int .i64 (code s : Int)]) := by unfold Hid; rw [unf, if_neg hcode]
  clear ht he hs hcode
  simp only [badBody, wrapped] at c1
  generalize code s = k at *
  go_enter Tryz.func113, Tryz.ntmps113
  go_wp2_with fail
  refine c1.mono ?_
  rintro e w1 ⟨⟨p, a, rfl, ha⟩, hb1⟩
  have he1 := HE.out.on hb1
  rcases ha with ⟨rfl, rfl⟩ | ⟨rfl, ha⟩
  ·have c2 := code_short p a a1 a2 w1 he1
   simp only [wrapped] at c2
   clear he1
   go_wp2_with fail
   refine c2.mono ?_
   rintro e w2 ⟨rfl, hb2⟩
   go_wp2_with fail
   go_ret3
   exact ⟨by rw [EU.out]; rfl, hb1.trans (hb2.mono hb1.size)⟩
  ·have c2 := code_bad p a a0 a1 a2 w1 he1 ha
   simp only [wrapped] at c2
   clear he1 ha
   go_wp2_with fail
   refine c2.mono ?_
   rintro e w2 ⟨rfl, hb2⟩
   go_wp2_with fail
   go_ret3
   exact ⟨by rw [EU.out]; rfl, hb1.trans (hb2.mono hb1.size)⟩
set_option maxRecDepth 20000 in
set_option maxHeartbeats 1000000 in
theorem spec_unframe (s : ByteArray) (w : World) (hs : s.size ≤ 1048576) :
  Calls Tryz.prog 98 #[.string s] w fun e w' => e = .returned (.tuple (unf s)) ∧ Below w.heap.size w w' := by
 by_cases h4 : s.size < 4
 ·have c1 := spec_readFixed_no s 4 w (by unfold maxLen; omega) (by omega)
  have EU : Hid (unf s = #[.string ⟨#[]⟩, .int .i64 0, .int .i64 1]) := by
   have : code s = 1 := by rw [code, if_pos h4]
   unfold Hid; rw [unf, this]; rfl
  clear hs h4
  go_enter Tryz.func98, Tryz.ntmps98
  go_wp2_with fail
  refine c1.mono ?_
  rintro e w1 ⟨rfl, rfl⟩
  go_wp2_with fail
  go_ret3
  exact ⟨by rw [EU.out]; rfl, Below.refl _ _⟩
 have c1 := spec_readFixed s 4 w (by unfold maxLen; omega) (by omega) (by omega) (by omega)
 by_cases hl : rdv s 4 = 0 ∨ 2000 < rdv s 4
 ·have EU : Hid (unf s = #[.string ⟨#[]⟩, .int .i64 0, .int .i64 2]) := by
   have : code s = 2 := by rw [code, if_neg h4, if_pos hl]
   unfold Hid; rw [unf, this]; rfl
  clear hs h4
  generalize rdv s 4 = n at *
  rcases hl with rfl | hl
  ·go_enter Tryz.func98, Tryz.ntmps98
   go_wp2_with fail
   refine c1.mono ?_
   rintro e w1 ⟨rfl, rfl⟩
   go_wp2_with fail
   go_ret3
   exact ⟨by rw [EU.out]; rfl, Below.refl _ _⟩
  ·have q3 : (2000 : Int) < (n : Int) := by omega
   have q4 : ((n : Int) == 0) = false := by simp only [beq_eq_false_iff_ne, ne_eq]; omega
   have q5 : decide ((2000 : Int) < (n : Int)) = true := decide_eq_true q3
   have q6 : ¬ (n : Int) = 0 := by omega
   go_enter Tryz.func98, Tryz.ntmps98
   go_wp2_with fail
   refine c1.mono ?_
   rintro e w1 ⟨rfl, rfl⟩
   go_wp2_with fail
   go_ret3
   exact ⟨by rw [EU.out]; rfl, Below.refl _ _⟩
 by_cases h8 : s.size < 8 + rdv s 4
 ·have EU : Hid (unf s = #[.string ⟨#[]⟩, .int .i64 0, .int .i64 1]) := by
   have : code s = 1 := by rw [code, if_neg h4, if_neg hl, if_pos h8]
   unfold Hid; rw [unf, this]; rfl
  have q2 : (s.size : Int) ≤ 1048576 := by omega
  clear hs h4
  generalize rdv s 4 = n at *
  have q3 : (n : Int) ≤ 2000 := by omega
  have q4 : ((n : Int) == 0) = false := by simp only [beq_eq_false_iff_ne, ne_eq]; omega
  have q5 : decide ((2000 : Int) < (n : Int)) = false := decide_eq_false (by omega)
  have q6 : ¬ (n : Int) = 0 := by omega
  have q7 : (s.size : Int) < 8 + (n : Int) := by omega
  clear hl
  go_enter Tryz.func98, Tryz.ntmps98
  go_wp2_with fail
  refine c1.mono ?_
  rintro e w1 ⟨rfl, rfl⟩
  go_wp2_with fail
  go_ret3
  exact ⟨by rw [EU.out]; rfl, Below.refl _ _⟩
 have hz := bodyOf_size s (by omega)
 have c2 := fun wx => spec_frame (bodyOf s) wx (by omega)
 have hfit := frame_fits s (by omega) (by omega) (by omega) (by omega)
 have hb0 : s.extract 8 (8 + rdv s 4) = bodyOf s := rfl
 have q2 : (s.size : Int) ≤ 1048576 := by omega
 by_cases hsum : sumOf (s.extract 0 4) (bodyOf s) = s.extract 4 8
 ·have EU : Hid (unf s = #[.string (bodyOf s), .int .i64 ((8 + rdv s 4 : Nat) : Int), .int .i64 0]) := by
   have : code s = 0 := by rw [code, if_neg h4, if_neg hl, if_neg h8, if_pos hsum]
   unfold Hid; rw [unf, if_pos this]
  have HF : Hid (frame (bodyOf s) = s.extract 0 (8 + rdv s 4)) := hfit.2 hsum
  clear hfit hsum hs h4 hz
  generalize bodyOf s = b at *
  generalize rdv s 4 = n at *
  have q3 : (n : Int) ≤ 2000 := by omega
  have q4 : ((n : Int) == 0) = false := by simp only [beq_eq_false_iff_ne, ne_eq]; omega
  have q5 : decide ((2000 : Int) < (n : Int)) = false := decide_eq_false (by omega)
  have q6 : ¬ (n : Int) = 0 := by omega
  have q7 : 8 + (n : Int) ≤ (s.size : Int) := by omega
  have hm : (8 + (n : Int)).toNat = 8 + n := by omega
  have q8 : (0 : Int) ≤ 8 + (n : Int) := by omega
  have w1 : IntKind.i64.wrap (8 + (n : Int)) = 8 + (n : Int) := by rw [IntKind.wrap_i64]; omega
  have w2 : wrap64 (8 + (n : Int)) = 8 + (n : Int) := by unfold wrap64; omega
  clear hl h8
  go_enter Tryz.func98, Tryz.ntmps98
  go_wp2_with fail
  refine c1.mono ?_
  rintro e w1 ⟨rfl, rfl⟩
  go_wp2_with fail
  go_region_with (go_at_call 106; refine (c2 _).mono ?_; rintro e w1 ⟨rfl, hb1⟩; rw [HF.out])
  all_goals go_wp2_with fail
  all_goals (go_ret3; exact ⟨by rw [EU.out]; go_num, (below_drew w).trans hb1⟩)
 ·have EU : Hid (unf s = #[.string ⟨#[]⟩, .int .i64 0, .int .i64 2]) := by
   have : code s = 2 := by rw [code, if_neg h4, if_neg hl, if_neg h8, if_neg hsum]
   unfold Hid; rw [unf, this]; rfl
  have e1 : ((frame (bodyOf s)).toList == (s.extract 0 (8 + rdv s 4)).toList) = false := by
   rw [beq_eq_false_iff_ne, Lib.toList_data, Lib.toList_data]
   intro h
   exact hsum (hfit.1 (ByteArray.ext (Array.toList_inj.1 h)))
  clear hfit hsum hs h4 hz
  generalize bodyOf s = b at *
  generalize rdv s 4 = n at *
  have q3 : (n : Int) ≤ 2000 := by omega
  have q4 : ((n : Int) == 0) = false := by simp only [beq_eq_false_iff_ne, ne_eq]; omega
  have q5 : decide ((2000 : Int) < (n : Int)) = false := decide_eq_false (by omega)
  have q6 : ¬ (n : Int) = 0 := by omega
  have q7 : 8 + (n : Int) ≤ (s.size : Int) := by omega
  have hm : (8 + (n : Int)).toNat = 8 + n := by omega
  have q8 : (0 : Int) ≤ 8 + (n : Int) := by omega
  have w1 : IntKind.i64.wrap (8 + (n : Int)) = 8 + (n : Int) := by rw [IntKind.wrap_i64]; omega
  have w2 : wrap64 (8 + (n : Int)) = 8 + (n : Int) := by unfold wrap64; omega
  clear hl h8
  go_enter Tryz.func98, Tryz.ntmps98
  go_wp2_with fail
  refine c1.mono ?_
  rintro e w1 ⟨rfl, rfl⟩
  go_wp2_with fail
  go_region_with (go_at_call 106; refine (c2 _).mono ?_; rintro e w1 ⟨rfl, hb1⟩)
  all_goals go_wp2_with fail
  all_goals (go_ret3; exact ⟨by rw [EU.out]; rfl, (below_drew w).trans hb1⟩)
end Go.Proofs.YtimfnbnffibgpaaGreatDoor
namespace Go.Proofs.YtimfnbnffibgpaaGreatDoor
open Go.ChangeShapes Go.WideShapes Go.ChangeAt Go.RowKit Go.PlainAid
set_option linter.unusedVariables false
theorem cell_alloc_keep {w : World} {p : Addr} {x : Value} (h : w.cell? p = some x) (o : Obj) : (w.alloc o).cell? p = some x := by
 rw [((Below.refl w.heap.size w).alloc (Nat.le_refl _) o).cell (World.block_lt_of_cell? _ _ h)]
 exact h
theorem ptR_snoc' (l : List Pnt) (p : Pnt) : ptR (l ++ [p]) = ptR l ++ [[.int .i64 p.t, .int .i64 p.v]] := ptR_append l [p]
theorem pt_cells (x y : Int) : ∀ u ∈ ([.int .i64 x, .int .i64 y] : List Value), u.oneCell' = true := by
 intro u hu
 simp at hu
 rcases hu with rfl | rfl <;> rfl
set_option maxRecDepth 20000 in
set_option maxHeartbeats 2000000 in
theorem implPointsOf (t v : List Int) (ut uv : Value) (w : World) (ht : NumsV w w.heap.size ut t) (hv : NumsV w w.heap.size uv v) (hlt : t.length ≤ 1000) (hlv : v.length ≤ 1000) : Calls Tryz.prog 116 #[ut, uv] w fun e w' => (∃ u, e = .returned u ∧ Owns w' w.heap.size 127 2 u (ptR (zipP t v))) ∧ Below w.heap.size w w' := by
 obtain ⟨At, ct, rfl, _, _, h1⟩ := ht
 obtain ⟨Av, cv, rfl, _, _, h2⟩ := hv
 have HT : Hid (∀ j, j < t.length → ∃ g off, At = some ⟨g, off, none⟩ ∧ g < w.heap.size ∧ w.cell? ⟨g, off + j, none⟩ = some (.int .i64 (t.getD j 0))) := h1
 have HV : Hid (∀ j, j < v.length → ∃ g off, Av = some ⟨g, off, none⟩ ∧ g < w.heap.size ∧ w.cell? ⟨g, off + j, none⟩ = some (.int .i64 (v.getD j 0))) := h2
 have HZL : Hid ((zipP t v).length = min t.length v.length) := zipP_length t v
 have HZG : Hid (∀ k, k < t.length → k < v.length → (zipP t v).take (k + 1) = (zipP t v).take k ++ [⟨t.getD k 0, v.getD k 0⟩]) := zipP_get t v
 have q1 : (t.length : Int) ≤ 1000 := by omega
 have q2 : (v.length : Int) ≤ 1000 := by omega
 have hmn : min (t.length : Int) (v.length : Int) = ((min t.length v.length : Nat) : Int) := by omega
 have hmn2 : (if (v.length : Int) < (t.length : Int) then (v.length : Int) else (t.length : Int)) = ((min t.length v.length : Nat) : Int) := by split <;> omega
 clear h1 h2 hlt hlv
 generalize hn : t.length = n at *
 generalize hm : v.length = m at *
 generalize hN : min n m = N at *
 have HN : Hid (N ≤ n ∧ N ≤ m ∧ N ≤ 1000) := by unfold Hid; omega
 clear hn hm
 go_enter Tryz.func116, Tryz.ntmps116
 go_wp2_with fail
 go_loopw [5, 12] (fun v5 v12 wr => ∃ k : Nat, k ≤ N ∧ v12 = .int .i64 (k : Int) ∧ Owns wr w.heap.size 127 2 v5 (ptR ((zipP t v).take k)) ∧ Below w.heap.size w wr) (fun _ i _ => N - (intOf i).toNat)
 case atStart => exact ⟨0, by omega, rfl, by rw [List.take_zero]; exact Owns.nil _ _ _ _, Below.refl _ _⟩
 case round =>
  obtain ⟨k, hk, rfl, hO, hb⟩ := hrel
  have HO : Hid (Owns wr w.heap.size 127 2 u5 (ptR ((zipP t v).take k))) := hO
  have HB1 : Hid (Below w.heap.size w wr) := hb
  clear hO hb
  by_cases hlt : k < N
  ·have q3 : (k : Int) < (N : Int) := by omega
   have hkn := HN.out
   have q4 : (k : Int) < (n : Int) := by omega
   have q5 : (k : Int) < (m : Int) := by omega
   obtain ⟨gt, ot, rfl, hgt, hc1⟩ := HT.out k (by omega)
   obtain ⟨gv, ov, rfl, hgv, hc2⟩ := HV.out k (by omega)
   have HZ : Hid ((zipP t v).take (k + 1) = (zipP t v).take k ++ [⟨t.getD k 0, v.getD k 0⟩]) := HZG.out k (by omega) (by omega)
   rw [← HB1.out.cell (p := ⟨_, _, none⟩) hgt] at hc1
   rw [← HB1.out.cell (p := ⟨_, _, none⟩) hgv] at hc2
   generalize t.getD k 0 = x at *
   generalize v.getD k 0 = y at *
   have hz : w.heap.size ≤ wr.drew.heap.size := HB1.out.size
   obtain ⟨nA, nm, nc, w5, r5, hO5, hb5, hk5, _⟩ := run_append_row (P := Tryz.prog) wr.drew 114 114 127 (.agg #[.int .i64 0, .int .i64 0]) 2 16 Tryz.underlying114 Tryz.infoPt rfl (by omega) w.heap.size u5 (ptR ((zipP t v).take k)) (HO.out.kept fun _ _ _ => rfl) [.int .i64 x, .int .i64 y] rfl (pt_cells x y) (by rw [ptR_length, List.length_take]; omega) (by omega) hz
   have B5 : Hid (Below w.heap.size w w5) := (HB1.out.drew).trans hb5
   have O5 : Hid (Owns w5 w.heap.size 127 2 (.slice nA nm nc) (ptR ((zipP t v).take (k + 1)))) := by unfold Hid; rw [HZ.out, ptR_snoc']; exact hO5
   have S0 : Hid (wr.drew.cell? ⟨gt, ot + k, none⟩ = some (.int .i64 x) ∧ wr.drew.cell? ⟨gv, ov + k, none⟩ = some (.int .i64 y)) := ⟨hc1, hc2⟩
   clear hc1 hc2 hO5 hb5 hk5
   clear hgt hgv
   go_wp2_with fail
   refine wp_region_until (fun w' => w'.cell? ⟨gt, ot + k, none⟩ = some (.int .i64 x) ∧ w'.cell? ⟨gv, ov + k, none⟩ = some (.int .i64 y)) (fun i => i == 11 || i == 12) 13 (by rfl) (by kernel_rfl) ?_
   refine tKf 0 S0.out ?_
   refine tKf 1 S0.out ?_
   refine tKf 2 S0.out ?_
   refine tKf 3 S0.out ?_
   refine tKf 4 S0.out ?_
   refine tKf 5 S0.out ?_
   refine tKf 6 S0.out ?_
   refine tKf 7 S0.out ?_
   refine tKf 8 S0.out ?_
   refine tKf 9 S0.out ?_
   refine uNe 10 (fun K hK => ?_)
   go_simp
   refine hK.out _ _ (fun _ h => ⟨cell_alloc_keep h.1 _, cell_alloc_keep h.2 _⟩) ?_
   clear hK K
   try simp only [Act.put, zQ1, zQ2, zQ3]
   refine uNe 11 (fun K hK => ?_)
   refine step_append_run (by rfl) (.tmp 15) (.tmp 25) 114 (by rfl) _ _ _ _ (by rfl) (by rfl) r5 ?_
   refine hK.out _ _ (fun h => by cases h) ?_
   clear hK K
   try simp only [Act.put, zQ1, zQ2, zQ3]
   refine uNe 12 (fun K hK => ?_)
   go_simp
   refine hK.out _ _ (fun h => by cases h) ?_
   clear hK K
   try simp only [Act.put, zQ1, zQ2, zQ3]
   refine until_done (by kernel_rfl) ?_ _
   go_wp2_with fail
   go_roundw
   case rel => exact ⟨k + 1, by omega, by go_num, O5.out, B5.out⟩
   case measure => simp [intOf]; omega
  ·obtain rfl : k = N := by omega
   have hF := HO.out
   rw [List.take_of_length_le (by rw [HZL.out]; exact Nat.le_refl _)] at hF
   have HF : Hid (Owns wr w.heap.size 127 2 u5 (ptR (zipP t v))) := hF
   clear hF HO
   go_wp2_with fail
   go_ret
   exact ⟨⟨_, rfl, HF.out⟩, HB1.out⟩
theorem unf_body (s : ByteArray) : ∃ k c : Nat, unf s = #[.string (bodyR s), .int .i64 (k : Int), .int .i64 (c : Int)] ∧ ((code s = 0 ∧ k = 8 + rdv s 4) ∨ (code s ≠ 0 ∧ k = 0 ∧ bodyR s = ⟨#[]⟩)) := by
 by_cases h : code s = 0
 ·refine ⟨8 + rdv s 4, 0, ?_, .inl ⟨h, rfl⟩⟩
  rw [unf, if_pos h, bodyR, if_pos h]
  rfl
 ·refine ⟨0, code s, ?_, .inr ⟨h, rfl, by rw [bodyR, if_neg h]⟩⟩
  rw [unf, if_neg h, bodyR, if_neg h]
  rfl
set_option maxHeartbeats 4000000 in
theorem implReadBlock (s : ByteArray) (w : World) (hs : s.size ≤ 1048576) (hst : SumTab w) (a0 a1 a2 : Addr) (he : Errs w a0 a1 a2) : Calls Tryz.prog 103 #[.string s] w fun e w' => (∃ u l ok, RbAns s l ok ∧ e = .returned (.tuple #[u, .bool ok]) ∧ Owns w' w.heap.size 127 2 u (ptR l)) ∧ Below w.heap.size w w' := by
 have ST : Hid (SumTab w) := hst
 have cU := impl_unframe s w hs hst a0 a1 a2 he
 obtain ⟨k0, c0, hu, _⟩ := unf_body s
 rw [hu] at cU
 have hbz := bodyR_size s
 have qs : (s.size : Int) ≤ 1048576 := by omega
 clear hst he hu
 go_enter Tryz.func103, Tryz.ntmps103
 go_wp2_with fail
 refine cU.mono ?_
 rintro e w1 ⟨rfl, hb⟩
 have B1 : Hid (Below w.heap.size w w1) := hb
 clear hb cU
 have cV := impl_readVar (bodyR s) w1 (by omega)
 go_wp2_with fail
 refine cV.mono ?_
 rintro e w1' ⟨hRV, rfl⟩
 obtain ⟨n, k, hRd, rfl⟩ := hRV.rd
 have hle := hRd.le
 have HR : Hid (RdV (bodyR s) n k) := hRd
 have hsz : ((bodyR s).extract k (bodyR s).size).size ≤ 2000 := by rw [ByteArray.size_extract]; omega
 have cT := implReadTimesA ((bodyR s).extract k (bodyR s).size) n w1 (by omega)
 have qk : (k : Int) ≤ 7 := by omega
 have qb : ((bodyR s).size : Int) ≤ 2000 := by omega
 have qkb : (k : Int) ≤ ((bodyR s).size : Int) := by omega
 have hkb : k ≤ (bodyR s).size := hle.1
 clear hRd hRV cV hle
 go_wp2_with fail
 refine cT.mono ?_
 rintro e w2 ⟨⟨t, a, ut, hAT, rfl, hNT⟩, hb⟩
 have HAT : Hid (RdAns showT rowT ((bodyR s).extract k (bodyR s).size) n t a) := hAT
 have hsh := hAT.short rowT_length
 have LT : Hid (t.length ≤ 60) := hsh.1
 have hak : k + a ≤ (bodyR s).size := by have h2 := hsh.2; rw [ByteArray.size_extract] at h2; omega
 have B2 : Hid (Below w.heap.size w w2) := B1.out.trans (hb.mono B1.out.size)
 have NT : Hid (Nums w2 w1.heap.size ut t) := hNT
 have cW := implReadValuesA ((bodyR s).extract (k + a) (bodyR s).size) n w2 (by rw [ByteArray.size_extract]; omega)
 have qa : (k : Int) + (a : Int) ≤ ((bodyR s).size : Int) := by omega
 have qa1 : (a : Int) ≤ 2000 := by omega
 have ena : ((k : Int) + (a : Int)).toNat = k + a := by omega
 clear hAT hNT hb cT hsh hsz
 go_wp2_with fail
 refine cW.mono ?_
 rintro e w3 ⟨⟨v, b, uv, hAV, rfl, hNV⟩, hb⟩
 have HST : Hid (Steps s n k t a v b) := ⟨HR.out, HAT.out, hAV⟩
 have LV : Hid (v.length ≤ 60) := (hAV.short rowV_length).1
 have B3 : Hid (Below w.heap.size w w3) := B2.out.trans (hb.mono B2.out.size)
 have NT3 : Hid (Nums w3 w1.heap.size ut t) := NT.out.on hb
 have NV3 : Hid (Nums w3 w2.heap.size uv v) := hNV
 clear hAV hNV hb cW NT
 have cP := implPointsOf t v ut uv w3 NT3.out.lies NV3.out.lies (by have := LT.out; omega) (by have := LV.out; omega)
 go_wp2_with fail
 refine cP.mono ?_
 rintro e w4 ⟨⟨up, rfl, hO⟩, hb⟩
 have B4 : Hid (Below w.heap.size w w4) := B3.out.trans (hb.mono B3.out.size)
 have OP : Hid (Owns w4 w3.heap.size 127 2 up (ptR (zipP t v))) := hO
 have LZ : Hid ((zipP t v).length ≤ 60) := by unfold Hid; rw [zipP_length]; have := LT.out; omega
 clear hO hb cP
 have cS := implShowBlock (zipP t v) up w4 w4.heap.size OP.out.lies (by have := LZ.out; omega) (Nat.le_refl _) (ST.out.on B4.out)
 obtain ⟨Ap, cp, rfl, _⟩ := pt_look OP.out.lies
 have HG1 : Hid (∀ m, Good s m → zipP t v = m) := fun m hm => (HST.out.good hm).1
 have HG2 : Hid (1 ≤ (zipP t v).length → showB (zipP t v) = s → Good s (zipP t v)) := fun h1 h2 => HST.out.shown h1 h2
 have qz : ((zipP t v).length : Int) ≤ 60 := by have := LZ.out; omega
 generalize zipP t v = l at *
 by_cases h0 : l.length = 0
 ·have HNO : Hid (∀ m, ¬ Good s m) := fun m hm => by have e := HG1.out m hm; subst e; have := hm.1; omega
  rw [h0]
  clear h0 qz
  go_wp2_with fail
  go_ret2
  exact ⟨⟨_, [], false, .inr ⟨rfl, rfl, HNO.out⟩, rfl, Owns.nil _ _ _ _⟩, B4.out⟩
 have d0 : decide (l.length = 0) = false := decide_eq_false h0
 have d1 : ((l.length : Int) == 0) = false := by rw [beq_eq_false_iff_ne]; omega
 have H1 : Hid (1 ≤ l.length) := by unfold Hid; omega
 have HLL : Hid (Owns w4 w3.heap.size 127 2 (.slice Ap l.length cp) (ptR l)) := OP.out
 generalize hln : l.length = ln at *
 by_cases hsh : showB l = s
 ·have HG : Hid (Good s l) := HG2.out (by have := H1.out; omega) hsh
  have db := bytes_eq hsh
  go_wp2_with fail
  refine cS.mono ?_
  rintro e w5 ⟨rfl, hb5⟩
  have B5 : Hid (Below w.heap.size w w5) := B4.out.trans (hb5.mono B4.out.size)
  have O5 : Hid (Owns w5 w.heap.size 127 2 (.slice Ap ln cp) (ptR l)) := (HLL.out.on hb5).mono B3.out.size
  clear hb5 cS
  rw [hsh]
  go_wp2_with fail
  go_ret2
  exact ⟨⟨_, l, true, .inl ⟨rfl, HG.out⟩, rfl, O5.out⟩, B5.out⟩
 ·have HNO : Hid (∀ m, ¬ Good s m) := fun m hm => by have e := HG1.out m hm; subst e; exact hsh hm.2.2
  have db := bytes_ne hsh
  go_wp2_with fail
  refine cS.mono ?_
  rintro e w5 ⟨rfl, hb5⟩
  have B5 : Hid (Below w.heap.size w w5) := B4.out.trans (hb5.mono B4.out.size)
  clear hb5 cS hsh
  go_wp2_with fail
  go_ret2
  exact ⟨⟨_, [], false, .inr ⟨rfl, rfl, HNO.out⟩, rfl, Owns.nil _ _ _ _⟩, B5.out⟩
end Go.Proofs.YtimfnbnffibgpaaGreatDoor
namespace Go.Proofs.YtimfnbnffibgpaaGreatDoor
open Go.ChangeShapes Go.WideShapes Go.ChangeAt Go.RowKit Go.PlainAid
set_option linter.unusedVariables false
def wtS1 (x : Ser) : Nat := x.key.size + x.pts.length
def wtS (l : List Ser) : Nat := (l.map wtS1).sum
theorem wtS_mem (l : List Ser) (x : Ser) (h : x ∈ l) : wtS1 x ≤ wtS l := by
 induction l with
 | nil => cases h
 | cons y l ih =>
  unfold wtS at ih ⊢
  rw [List.map_cons, List.sum_cons]
  rcases List.mem_cons.1 h with rfl | h
  ·omega
  ·have := ih h
   omega
def SShort (l : List Ser) : Prop := l.length ≤ 1048576 ∧ ∀ x ∈ l, x.pts.length ≤ 1048576
theorem SShort.of {l : List Ser} {n : Nat} (h : l.length + wtS l ≤ n) (hn : n ≤ 1048576) : SShort l := by
 refine ⟨by omega, fun x hx => ?_⟩
 have := wtS_mem l x hx
 unfold wtS1 at this
 omega
theorem SShort.at {l : List Ser} (h : SShort l) (k : Nat) (hk : k < l.length) : (l.getD k default).pts.length ≤ 1048576 := h.2 _ (getD_mem l k hk)
end Go.Proofs.YtimfnbnffibgpaaGreatDoor
namespace Go.Proofs.YtimfnbnffibgpaaGreatDoor
open Go.ChangeShapes Go.WideShapes Go.ChangeAt Go.RowKit Go.PlainAid
set_option linter.unusedVariables false
set_option maxHeartbeats 1000000 in
theorem implIsKey (s : ByteArray) (w : World) (hs : s.size ≤ maxLen) : Calls Tryz.prog 104 #[.string s] w fun e w' => e = .returned (.bool (decide (KOk s))) ∧ w = w' := by
 have hbt := get_bn s
 have q0 : (s.size : Int) ≤ 9223372036854775807 := by unfold maxLen at hs; omega
 have HD : Hid (∀ b, (b = true ↔ KOk s) → decide (KOk s) = b) := fun b hb => dec_of b hb
 have HV : Hid (KOk s ↔ 1 ≤ s.size ∧ s.size ≤ 8 ∧ ∀ j, j < s.size → 97 ≤ bn s j ∧ bn s j ≤ 122) := Iff.rfl
 clear hs
 by_cases h0 : s.size = 0
 ·obtain rfl : s = ⟨#[]⟩ := by
   have e : s.data.toList = [] := List.eq_nil_of_length_eq_zero (by rw [Array.length_toList]; exact h0)
   rw [← txt_toList s, e]
   rfl
  clear HV hbt q0 h0
  have he : decide (KOk ⟨#[]⟩) = false := HD.out false ⟨fun h => (by cases h), fun h => absurd h.1 (by simp [ByteArray.size])⟩
  rw [he]
  go_enter Tryz.func104, Tryz.ntmps104
  go_wp2
  go_ret
  exact ⟨rfl, rfl⟩
 have hne : s.toList.isEmpty = false := by
  rw [Lib.toList_data]
  cases e : s.data.toList with
  | nil => exact absurd (by rw [ByteArray.size, ← Array.length_toList, e]; rfl) h0
  | cons a l => rfl
 have H1 : Hid (1 ≤ s.size) := by unfold Hid; omega
 by_cases h2 : (8 : Int) < (s.size : Int)
 ·go_enter Tryz.func104, Tryz.ntmps104
  go_wp2
  go_ret
  refine ⟨?_, rfl⟩
  rw [HD.out false]
  ·rfl
  rw [HV.out]
  exact ⟨fun h => (by cases h), fun h => by omega⟩
 have q1 : (s.size : Int) ≤ 8 := by omega
 have q2 : decide ((8 : Int) < (s.size : Int)) = false := decide_eq_false h2
 clear h2 h0
 go_enter Tryz.func104, Tryz.ntmps104
 go_wp2_with fail
 go_loop [13] (fun v => ∃ k : Nat, k ≤ s.size ∧ v = .int .i64 (k : Int) ∧ Hid (∀ j, j < k → 97 ≤ bn s j ∧ bn s j ≤ 122)) (fun i => s.size - (intOf i).toNat)
 case atStart => exact ⟨0, by omega, rfl, fun j hj => by omega⟩
 case round =>
  obtain ⟨k, hk, rfl, HJ⟩ := hrel
  by_cases hlt : k < s.size
  ·have q4 : (k : Int) < (s.size : Int) := by omega
   have r2 := bn_lt s k
   have HNo : Hid ((bn s k < 97 ∨ 122 < bn s k) → decide (KOk s) = false) := fun h => by
    apply HD.out
    rw [HV.out]
    refine ⟨fun h => (by cases h), fun h2 => ?_⟩
    have := h2.2.2 k hlt
    omega
   by_cases c2 : (bn s k : Int) < 97
   ·go_wp2_with fail
    go_ret
    exact ⟨by rw [HNo.out (.inl (by omega))]; rfl, rfl⟩
   have d2 : decide ((bn s k : Int) < 97) = false := decide_eq_false c2
   by_cases c3 : (122 : Int) < (bn s k : Int)
   ·go_wp2_with fail
    go_ret
    exact ⟨by rw [HNo.out (.inr (by omega))]; rfl, rfl⟩
   have d3 : decide ((122 : Int) < (bn s k : Int)) = false := decide_eq_false c3
   go_wp2_with fail
   go_round
   case rel =>
    refine ⟨k + 1, by omega, by go_num, fun j hj => ?_⟩
    by_cases e : j = k
    ·rw [e]
     omega
    ·exact HJ.out j (by omega)
   case measure => simp [intOf]; omega
  ·obtain rfl : k = s.size := by omega
   go_wp2_with fail
   go_ret
   refine ⟨?_, rfl⟩
   rw [HD.out true]
   ·rfl
   rw [HV.out]
   exact ⟨fun _ => ⟨H1.out, by omega, HJ.out⟩, fun _ => rfl⟩
set_option maxHeartbeats 1000000 in
theorem specKey (s : ByteArray) (w : World) (hs : s.size ≤ maxLen) : Calls Tryz.prog 87 #[.string s] w fun e w' => e = .returned (.bool (decide (KOk s))) ∧ w = w' := by
 have hbt := get_bn s
 have q0 : (s.size : Int) ≤ 9223372036854775807 := by unfold maxLen at hs; omega
 have HD : Hid (∀ b, (b = true ↔ KOk s) → decide (KOk s) = b) := fun b hb => dec_of b hb
 have HV : Hid (KOk s ↔ 1 ≤ s.size ∧ s.size ≤ 8 ∧ ∀ j, j < s.size → 97 ≤ bn s j ∧ bn s j ≤ 122) := Iff.rfl
 clear hs
 by_cases h2 : (s.size : Int) < 1 ∨ (8 : Int) < (s.size : Int)
 ·have c1 := fun wx => in_no (s.size : Int) 1 8 wx h2
  have H2 : Hid ((s.size : Int) < 1 ∨ (8 : Int) < (s.size : Int)) := h2
  clear h2
  go_enter Tryz.func87, Tryz.ntmps87
  go_wp2_with fail
  refine (c1 _).mono ?_
  rintro e w' ⟨rfl, rfl⟩
  go_wp2_with fail
  go_ret
  refine ⟨?_, rfl⟩
  rw [HD.out false]
  ·rfl
  rw [HV.out]
  have := H2.out
  exact ⟨fun h => (by cases h), fun h => by omega⟩
 have c1 := fun wx => in_yes (s.size : Int) 1 8 wx (by omega) (by omega)
 have q1 : (s.size : Int) ≤ 8 := by omega
 have H1 : Hid (1 ≤ s.size) := by unfold Hid; omega
 clear h2
 go_enter Tryz.func87, Tryz.ntmps87
 go_wp2_with fail
 refine (c1 _).mono ?_
 rintro e w' ⟨rfl, rfl⟩
 go_wp2_with fail
 go_loop [3] (fun v => ∃ k : Nat, k ≤ s.size ∧ v = .int .i64 (k : Int) ∧ Hid (∀ j, j < k → 97 ≤ bn s j ∧ bn s j ≤ 122)) (fun i => s.size - (intOf i).toNat)
 case atStart => exact ⟨0, by omega, rfl, fun j hj => by omega⟩
 case round =>
  obtain ⟨k, hk, rfl, HJ⟩ := hrel
  by_cases hlt : k < s.size
  ·have q4 : (k : Int) < (s.size : Int) := by omega
   have r2 := bn_lt s k
   have HNo : Hid ((bn s k < 97 ∨ 122 < bn s k) → decide (KOk s) = false) := fun h => by
    apply HD.out
    rw [HV.out]
    refine ⟨fun h => (by cases h), fun h2 => ?_⟩
    have := h2.2.2 k hlt
    omega
   by_cases c2 : (bn s k : Int) < 97
   ·go_wp2_with fail
    go_ret
    exact ⟨by rw [HNo.out (.inl (by omega))]; rfl, rfl⟩
   have d2 : decide ((bn s k : Int) < 97) = false := decide_eq_false c2
   by_cases c3 : (122 : Int) < (bn s k : Int)
   ·go_wp2_with fail
    go_ret
    exact ⟨by rw [HNo.out (.inr (by omega))]; rfl, rfl⟩
   have d3 : decide ((122 : Int) < (bn s k : Int)) = false := decide_eq_false c3
   go_wp2_with fail
   go_round
   case rel =>
    refine ⟨k + 1, by omega, by go_num, fun j hj => ?_⟩
    by_cases e : j = k
    ·rw [e]
     omega
    ·exact HJ.out j (by omega)
   case measure => simp [intOf]; omega
  ·obtain rfl : k = s.size := by omega
   go_wp2_with fail
   go_ret
   refine ⟨?_, rfl⟩
   rw [HD.out true]
   ·rfl
   rw [HV.out]
   exact ⟨fun _ => ⟨H1.out, by omega, HJ.out⟩, fun _ => rfl⟩
end Go.Proofs.YtimfnbnffibgpaaGreatDoor
namespace Go.Proofs.YtimfnbnffibgpaaGreatDoor
open Go.ChangeShapes Go.WideShapes Go.ChangeAt Go.RowKit Go.PlainAid
set_option linter.unusedVariables false
set_option maxHeartbeats 4000000 in
theorem implOpOk_1 (k : ByteArray) (f t : Int) (d : ByteArray) (w : World) (hk : k.size ≤ maxLen) : Calls Tryz.prog 92 #[vOp ⟨1, k, f, t, d⟩] w fun e w' => e = .returned (.bool (opOk ⟨1, k, f, t, d⟩)) ∧ Below w.heap.size w w' := by
 have HE : Hid (opOk ⟨1, k, f, t, d⟩ = (spanB f t && emB k && emB d)) := by unfold Hid opOk; simp
 have HB : Hid (Below w.heap.size w (w.alloc (.cells #[.int .i64 1, .string k, .int .i64 f, .int .i64 t, .string d] 44))) := below_a1 _ _
 have cS := implSpanOk f t
 have cI := inI f 0 1099511627776
 have cH := inI f 0 100000
 have cK := fun wx => implIsKey k wx hk
 clear hk
 rw [show decide (KOk k) = keyB k from by unfold keyB; first | rfl | congr] at cK
 unfold vOp
 simp only
 by_cases hk : k = ⟨#[]⟩
 ·subst hk
  rw [em_nil] at HE
  by_cases hd : d = ⟨#[]⟩
  ·subst hd
   rw [em_nil] at HE
   go_enter Tryz.func92, Tryz.ntmps92
   go_wp2_with fail
   refine (cS _).mono ?_
   rintro e w' ⟨rfl, rfl⟩
   go_wp2_with fail
   go_ret
   exact ⟨by rw [HE.out]; first | rfl | simp, HB.out⟩
  ·obtain ⟨ed1, ed2, ed3, ed4⟩ := em_facts hd
   rw [ed4] at HE
   clear ed4 hd
   go_enter Tryz.func92, Tryz.ntmps92
   go_wp2_with fail
   go_ret
   exact ⟨by rw [HE.out]; first | rfl | simp, HB.out⟩
 ·obtain ⟨ek1, ek2, ek3, ek4⟩ := em_facts hk
  rw [ek4] at HE
  clear ek4 hk
  by_cases hd : d = ⟨#[]⟩
  ·subst hd
   rw [em_nil] at HE
   go_enter Tryz.func92, Tryz.ntmps92
   go_wp2_with fail
   go_ret
   exact ⟨by rw [HE.out]; first | rfl | simp, HB.out⟩
  ·obtain ⟨ed1, ed2, ed3, ed4⟩ := em_facts hd
   rw [ed4] at HE
   clear ed4 hd
   go_enter Tryz.func92, Tryz.ntmps92
   go_wp2_with fail
   go_ret
   exact ⟨by rw [HE.out]; first | rfl | simp, HB.out⟩
set_option maxHeartbeats 4000000 in
theorem implOpOk_2 (k : ByteArray) (f t : Int) (d : ByteArray) (w : World) (hk : k.size ≤ maxLen) : Calls Tryz.prog 92 #[vOp ⟨2, k, f, t, d⟩] w fun e w' => e = .returned (.bool (opOk ⟨2, k, f, t, d⟩)) ∧ Below w.heap.size w w' := by
 have HE : Hid (opOk ⟨2, k, f, t, d⟩ = (inRg f 0 1099511627776 && emB k && zB t && emB d)) := by unfold Hid opOk; simp
 have HB : Hid (Below w.heap.size w (w.alloc (.cells #[.int .i64 2, .string k, .int .i64 f, .int .i64 t, .string d] 44))) := below_a1 _ _
 have cS := implSpanOk f t
 have cI := inI f 0 1099511627776
 have cH := inI f 0 100000
 have cK := fun wx => implIsKey k wx hk
 clear hk
 rw [show decide (KOk k) = keyB k from by unfold keyB; first | rfl | congr] at cK
 unfold vOp
 simp only
 by_cases hk : k = ⟨#[]⟩
 ·subst hk
  rw [em_nil] at HE
  by_cases ht : t = 0
  ·subst ht
   rw [z_nil] at HE
   by_cases hd : d = ⟨#[]⟩
   ·subst hd
    rw [em_nil] at HE
    go_enter Tryz.func92, Tryz.ntmps92
    go_wp2_with fail
    refine (cI _).mono ?_
    rintro e w' ⟨rfl, rfl⟩
    go_wp2_with fail
    go_ret
    exact ⟨by rw [HE.out]; first | rfl | simp, HB.out⟩
   ·obtain ⟨ed1, ed2, ed3, ed4⟩ := em_facts hd
    rw [ed4] at HE
    clear ed4 hd
    go_enter Tryz.func92, Tryz.ntmps92
    go_wp2_with fail
    go_ret
    exact ⟨by rw [HE.out]; first | rfl | simp, HB.out⟩
  ·obtain ⟨et1, et2, et4⟩ := z_facts ht
   rw [et4] at HE
   clear et4 ht
   by_cases hd : d = ⟨#[]⟩
   ·subst hd
    rw [em_nil] at HE
    go_enter Tryz.func92, Tryz.ntmps92
    go_wp2_with fail
    go_ret
    exact ⟨by rw [HE.out]; first | rfl | simp, HB.out⟩
   ·obtain ⟨ed1, ed2, ed3, ed4⟩ := em_facts hd
    rw [ed4] at HE
    clear ed4 hd
    go_enter Tryz.func92, Tryz.ntmps92
    go_wp2_with fail
    go_ret
    exact ⟨by rw [HE.out]; first | rfl | simp, HB.out⟩
 ·obtain ⟨ek1, ek2, ek3, ek4⟩ := em_facts hk
  rw [ek4] at HE
  clear ek4 hk
  by_cases ht : t = 0
  ·subst ht
   rw [z_nil] at HE
   by_cases hd : d = ⟨#[]⟩
   ·subst hd
    rw [em_nil] at HE
    go_enter Tryz.func92, Tryz.ntmps92
    go_wp2_with fail
    go_ret
    exact ⟨by rw [HE.out]; first | rfl | simp, HB.out⟩
   ·obtain ⟨ed1, ed2, ed3, ed4⟩ := em_facts hd
    rw [ed4] at HE
    clear ed4 hd
    go_enter Tryz.func92, Tryz.ntmps92
    go_wp2_with fail
    go_ret
    exact ⟨by rw [HE.out]; first | rfl | simp, HB.out⟩
  ·obtain ⟨et1, et2, et4⟩ := z_facts ht
   rw [et4] at HE
   clear et4 ht
   by_cases hd : d = ⟨#[]⟩
   ·subst hd
    rw [em_nil] at HE
    go_enter Tryz.func92, Tryz.ntmps92
    go_wp2_with fail
    go_ret
    exact ⟨by rw [HE.out]; first | rfl | simp, HB.out⟩
   ·obtain ⟨ed1, ed2, ed3, ed4⟩ := em_facts hd
    rw [ed4] at HE
    clear ed4 hd
    go_enter Tryz.func92, Tryz.ntmps92
    go_wp2_with fail
    go_ret
    exact ⟨by rw [HE.out]; first | rfl | simp, HB.out⟩
set_option maxHeartbeats 4000000 in
theorem implOpOk_3 (k : ByteArray) (f t : Int) (d : ByteArray) (w : World) (hk : k.size ≤ maxLen) : Calls Tryz.prog 92 #[vOp ⟨3, k, f, t, d⟩] w fun e w' => e = .returned (.bool (opOk ⟨3, k, f, t, d⟩)) ∧ Below w.heap.size w w' := by
 have HE : Hid (opOk ⟨3, k, f, t, d⟩ = (inRg f 0 100000 && emB k && zB t && emB d)) := by unfold Hid opOk; simp
 have HB : Hid (Below w.heap.size w (w.alloc (.cells #[.int .i64 3, .string k, .int .i64 f, .int .i64 t, .string d] 44))) := below_a1 _ _
 have cS := implSpanOk f t
 have cI := inI f 0 1099511627776
 have cH := inI f 0 100000
 have cK := fun wx => implIsKey k wx hk
 clear hk
 rw [show decide (KOk k) = keyB k from by unfold keyB; first | rfl | congr] at cK
 unfold vOp
 simp only
 by_cases hk : k = ⟨#[]⟩
 ·subst hk
  rw [em_nil] at HE
  by_cases ht : t = 0
  ·subst ht
   rw [z_nil] at HE
   by_cases hd : d = ⟨#[]⟩
   ·subst hd
    rw [em_nil] at HE
    go_enter Tryz.func92, Tryz.ntmps92
    go_wp2_with fail
    refine (cH _).mono ?_
    rintro e w' ⟨rfl, rfl⟩
    go_wp2_with fail
    go_ret
    exact ⟨by rw [HE.out]; first | rfl | simp, HB.out⟩
   ·obtain ⟨ed1, ed2, ed3, ed4⟩ := em_facts hd
    rw [ed4] at HE
    clear ed4 hd
    go_enter Tryz.func92, Tryz.ntmps92
    go_wp2_with fail
    go_ret
    exact ⟨by rw [HE.out]; first | rfl | simp, HB.out⟩
  ·obtain ⟨et1, et2, et4⟩ := z_facts ht
   rw [et4] at HE
   clear et4 ht
   by_cases hd : d = ⟨#[]⟩
   ·subst hd
    rw [em_nil] at HE
    go_enter Tryz.func92, Tryz.ntmps92
    go_wp2_with fail
    go_ret
    exact ⟨by rw [HE.out]; first | rfl | simp, HB.out⟩
   ·obtain ⟨ed1, ed2, ed3, ed4⟩ := em_facts hd
    rw [ed4] at HE
    clear ed4 hd
    go_enter Tryz.func92, Tryz.ntmps92
    go_wp2_with fail
    go_ret
    exact ⟨by rw [HE.out]; first | rfl | simp, HB.out⟩
 ·obtain ⟨ek1, ek2, ek3, ek4⟩ := em_facts hk
  rw [ek4] at HE
  clear ek4 hk
  by_cases ht : t = 0
  ·subst ht
   rw [z_nil] at HE
   by_cases hd : d = ⟨#[]⟩
   ·subst hd
    rw [em_nil] at HE
    go_enter Tryz.func92, Tryz.ntmps92
    go_wp2_with fail
    go_ret
    exact ⟨by rw [HE.out]; first | rfl | simp, HB.out⟩
   ·obtain ⟨ed1, ed2, ed3, ed4⟩ := em_facts hd
    rw [ed4] at HE
    clear ed4 hd
    go_enter Tryz.func92, Tryz.ntmps92
    go_wp2_with fail
    go_ret
    exact ⟨by rw [HE.out]; first | rfl | simp, HB.out⟩
  ·obtain ⟨et1, et2, et4⟩ := z_facts ht
   rw [et4] at HE
   clear et4 ht
   by_cases hd : d = ⟨#[]⟩
   ·subst hd
    rw [em_nil] at HE
    go_enter Tryz.func92, Tryz.ntmps92
    go_wp2_with fail
    go_ret
    exact ⟨by rw [HE.out]; first | rfl | simp, HB.out⟩
   ·obtain ⟨ed1, ed2, ed3, ed4⟩ := em_facts hd
    rw [ed4] at HE
    clear ed4 hd
    go_enter Tryz.func92, Tryz.ntmps92
    go_wp2_with fail
    go_ret
    exact ⟨by rw [HE.out]; first | rfl | simp, HB.out⟩
set_option maxHeartbeats 4000000 in
theorem implOpOk_6 (k : ByteArray) (f t : Int) (d : ByteArray) (w : World) (hk : k.size ≤ maxLen) : Calls Tryz.prog 92 #[vOp ⟨6, k, f, t, d⟩] w fun e w' => e = .returned (.bool (opOk ⟨6, k, f, t, d⟩)) ∧ Below w.heap.size w w' := by
 have HE : Hid (opOk ⟨6, k, f, t, d⟩ = (inRg f 0 1099511627776 && emB k && zB t && emB d)) := by unfold Hid opOk; simp
 have HB : Hid (Below w.heap.size w (w.alloc (.cells #[.int .i64 6, .string k, .int .i64 f, .int .i64 t, .string d] 44))) := below_a1 _ _
 have cS := implSpanOk f t
 have cI := inI f 0 1099511627776
 have cH := inI f 0 100000
 have cK := fun wx => implIsKey k wx hk
 clear hk
 rw [show decide (KOk k) = keyB k from by unfold keyB; first | rfl | congr] at cK
 unfold vOp
 simp only
 by_cases hk : k = ⟨#[]⟩
 ·subst hk
  rw [em_nil] at HE
  by_cases ht : t = 0
  ·subst ht
   rw [z_nil] at HE
   by_cases hd : d = ⟨#[]⟩
   ·subst hd
    rw [em_nil] at HE
    go_enter Tryz.func92, Tryz.ntmps92
    go_wp2_with fail
    refine (cI _).mono ?_
    rintro e w' ⟨rfl, rfl⟩
    go_wp2_with fail
    go_ret
    exact ⟨by rw [HE.out]; first | rfl | simp, HB.out⟩
   ·obtain ⟨ed1, ed2, ed3, ed4⟩ := em_facts hd
    rw [ed4] at HE
    clear ed4 hd
    go_enter Tryz.func92, Tryz.ntmps92
    go_wp2_with fail
    go_ret
    exact ⟨by rw [HE.out]; first | rfl | simp, HB.out⟩
  ·obtain ⟨et1, et2, et4⟩ := z_facts ht
   rw [et4] at HE
   clear et4 ht
   by_cases hd : d = ⟨#[]⟩
   ·subst hd
    rw [em_nil] at HE
    go_enter Tryz.func92, Tryz.ntmps92
    go_wp2_with fail
    go_ret
    exact ⟨by rw [HE.out]; first | rfl | simp, HB.out⟩
   ·obtain ⟨ed1, ed2, ed3, ed4⟩ := em_facts hd
    rw [ed4] at HE
    clear ed4 hd
    go_enter Tryz.func92, Tryz.ntmps92
    go_wp2_with fail
    go_ret
    exact ⟨by rw [HE.out]; first | rfl | simp, HB.out⟩
 ·obtain ⟨ek1, ek2, ek3, ek4⟩ := em_facts hk
  rw [ek4] at HE
  clear ek4 hk
  by_cases ht : t = 0
  ·subst ht
   rw [z_nil] at HE
   by_cases hd : d = ⟨#[]⟩
   ·subst hd
    rw [em_nil] at HE
    go_enter Tryz.func92, Tryz.ntmps92
    go_wp2_with fail
    go_ret
    exact ⟨by rw [HE.out]; first | rfl | simp, HB.out⟩
   ·obtain ⟨ed1, ed2, ed3, ed4⟩ := em_facts hd
    rw [ed4] at HE
    clear ed4 hd
    go_enter Tryz.func92, Tryz.ntmps92
    go_wp2_with fail
    go_ret
    exact ⟨by rw [HE.out]; first | rfl | simp, HB.out⟩
  ·obtain ⟨et1, et2, et4⟩ := z_facts ht
   rw [et4] at HE
   clear et4 ht
   by_cases hd : d = ⟨#[]⟩
   ·subst hd
    rw [em_nil] at HE
    go_enter Tryz.func92, Tryz.ntmps92
    go_wp2_with fail
    go_ret
    exact ⟨by rw [HE.out]; first | rfl | simp, HB.out⟩
   ·obtain ⟨ed1, ed2, ed3, ed4⟩ := em_facts hd
    rw [ed4] at HE
    clear ed4 hd
    go_enter Tryz.func92, Tryz.ntmps92
    go_wp2_with fail
    go_ret
    exact ⟨by rw [HE.out]; first | rfl | simp, HB.out⟩
set_option maxHeartbeats 4000000 in
theorem implOpOk_7 (k : ByteArray) (f t : Int) (d : ByteArray) (w : World) (hk : k.size ≤ maxLen) : Calls Tryz.prog 92 #[vOp ⟨7, k, f, t, d⟩] w fun e w' => e = .returned (.bool (opOk ⟨7, k, f, t, d⟩)) ∧ Below w.heap.size w w' := by
 have HE : Hid (opOk ⟨7, k, f, t, d⟩ = (emB k && zB f && zB t && emB d)) := by unfold Hid opOk; simp
 have HB : Hid (Below w.heap.size w (w.alloc (.cells #[.int .i64 7, .string k, .int .i64 f, .int .i64 t, .string d] 44))) := below_a1 _ _
 have cS := implSpanOk f t
 have cI := inI f 0 1099511627776
 have cH := inI f 0 100000
 have cK := fun wx => implIsKey k wx hk
 clear hk
 rw [show decide (KOk k) = keyB k from by unfold keyB; first | rfl | congr] at cK
 unfold vOp
 simp only
 by_cases hk : k = ⟨#[]⟩
 ·subst hk
  rw [em_nil] at HE
  by_cases hf : f = 0
  ·subst hf
   rw [z_nil] at HE
   by_cases ht : t = 0
   ·subst ht
    rw [z_nil] at HE
    by_cases hd : d = ⟨#[]⟩
    ·subst hd
     rw [em_nil] at HE
     go_enter Tryz.func92, Tryz.ntmps92
     go_wp2_with fail
     go_ret
     exact ⟨by rw [HE.out]; first | rfl | simp, HB.out⟩
    ·obtain ⟨ed1, ed2, ed3, ed4⟩ := em_facts hd
     rw [ed4] at HE
     clear ed4 hd
     go_enter Tryz.func92, Tryz.ntmps92
     go_wp2_with fail
     go_ret
     exact ⟨by rw [HE.out]; first | rfl | simp, HB.out⟩
   ·obtain ⟨et1, et2, et4⟩ := z_facts ht
    rw [et4] at HE
    clear et4 ht
    by_cases hd : d = ⟨#[]⟩
    ·subst hd
     rw [em_nil] at HE
     go_enter Tryz.func92, Tryz.ntmps92
     go_wp2_with fail
     go_ret
     exact ⟨by rw [HE.out]; first | rfl | simp, HB.out⟩
    ·obtain ⟨ed1, ed2, ed3, ed4⟩ := em_facts hd
     rw [ed4] at HE
     clear ed4 hd
     go_enter Tryz.func92, Tryz.ntmps92
     go_wp2_with fail
     go_ret
     exact ⟨by rw [HE.out]; first | rfl | simp, HB.out⟩
  ·obtain ⟨ef1, ef2, ef4⟩ := z_facts hf
   rw [ef4] at HE
   clear ef4 hf
   by_cases ht : t = 0
   ·subst ht
    rw [z_nil] at HE
    by_cases hd : d = ⟨#[]⟩
    ·subst hd
     rw [em_nil] at HE
     go_enter Tryz.func92, Tryz.ntmps92
     go_wp2_with fail
     go_ret
     exact ⟨by rw [HE.out]; first | rfl | simp, HB.out⟩
    ·obtain ⟨ed1, ed2, ed3, ed4⟩ := em_facts hd
     rw [ed4] at HE
     clear ed4 hd
     go_enter Tryz.func92, Tryz.ntmps92
     go_wp2_with fail
     go_ret
     exact ⟨by rw [HE.out]; first | rfl | simp, HB.out⟩
   ·obtain ⟨et1, et2, et4⟩ := z_facts ht
    rw [et4] at HE
    clear et4 ht
    by_cases hd : d = ⟨#[]⟩
    ·subst hd
     rw [em_nil] at HE
     go_enter Tryz.func92, Tryz.ntmps92
     go_wp2_with fail
     go_ret
     exact ⟨by rw [HE.out]; first | rfl | simp, HB.out⟩
    ·obtain ⟨ed1, ed2, ed3, ed4⟩ := em_facts hd
     rw [ed4] at HE
     clear ed4 hd
     go_enter Tryz.func92, Tryz.ntmps92
     go_wp2_with fail
     go_ret
     exact ⟨by rw [HE.out]; first | rfl | simp, HB.out⟩
 ·obtain ⟨ek1, ek2, ek3, ek4⟩ := em_facts hk
  rw [ek4] at HE
  clear ek4 hk
  by_cases hf : f = 0
  ·subst hf
   rw [z_nil] at HE
   by_cases ht : t = 0
   ·subst ht
    rw [z_nil] at HE
    by_cases hd : d = ⟨#[]⟩
    ·subst hd
     rw [em_nil] at HE
     go_enter Tryz.func92, Tryz.ntmps92
     go_wp2_with fail
     go_ret
     exact ⟨by rw [HE.out]; first | rfl | simp, HB.out⟩
    ·obtain ⟨ed1, ed2, ed3, ed4⟩ := em_facts hd
     rw [ed4] at HE
     clear ed4 hd
     go_enter Tryz.func92, Tryz.ntmps92
     go_wp2_with fail
     go_ret
     exact ⟨by rw [HE.out]; first | rfl | simp, HB.out⟩
   ·obtain ⟨et1, et2, et4⟩ := z_facts ht
    rw [et4] at HE
    clear et4 ht
    by_cases hd : d = ⟨#[]⟩
    ·subst hd
     rw [em_nil] at HE
     go_enter Tryz.func92, Tryz.ntmps92
     go_wp2_with fail
     go_ret
     exact ⟨by rw [HE.out]; first | rfl | simp, HB.out⟩
    ·obtain ⟨ed1, ed2, ed3, ed4⟩ := em_facts hd
     rw [ed4] at HE
     clear ed4 hd
     go_enter Tryz.func92, Tryz.ntmps92
     go_wp2_with fail
     go_ret
     exact ⟨by rw [HE.out]; first | rfl | simp, HB.out⟩
  ·obtain ⟨ef1, ef2, ef4⟩ := z_facts hf
   rw [ef4] at HE
   clear ef4 hf
   by_cases ht : t = 0
   ·subst ht
    rw [z_nil] at HE
    by_cases hd : d = ⟨#[]⟩
    ·subst hd
     rw [em_nil] at HE
     go_enter Tryz.func92, Tryz.ntmps92
     go_wp2_with fail
     go_ret
     exact ⟨by rw [HE.out]; first | rfl | simp, HB.out⟩
    ·obtain ⟨ed1, ed2, ed3, ed4⟩ := em_facts hd
     rw [ed4] at HE
     clear ed4 hd
     go_enter Tryz.func92, Tryz.ntmps92
     go_wp2_with fail
     go_ret
     exact ⟨by rw [HE.out]; first | rfl | simp, HB.out⟩
   ·obtain ⟨et1, et2, et4⟩ := z_facts ht
    rw [et4] at HE
    clear et4 ht
    by_cases hd : d = ⟨#[]⟩
    ·subst hd
     rw [em_nil] at HE
     go_enter Tryz.func92, Tryz.ntmps92
     go_wp2_with fail
     go_ret
     exact ⟨by rw [HE.out]; first | rfl | simp, HB.out⟩
    ·obtain ⟨ed1, ed2, ed3, ed4⟩ := em_facts hd
     rw [ed4] at HE
     clear ed4 hd
     go_enter Tryz.func92, Tryz.ntmps92
     go_wp2_with fail
     go_ret
     exact ⟨by rw [HE.out]; first | rfl | simp, HB.out⟩
set_option maxHeartbeats 4000000 in
theorem implOpOk_5 (k : ByteArray) (f t : Int) (d : ByteArray) (w : World) (hk : k.size ≤ maxLen) : Calls Tryz.prog 92 #[vOp ⟨5, k, f, t, d⟩] w fun e w' => e = .returned (.bool (opOk ⟨5, k, f, t, d⟩)) ∧ Below w.heap.size w w' := by
 have HE : Hid (opOk ⟨5, k, f, t, d⟩ = (keyB k && spanB f t && emB d)) := by unfold Hid opOk; simp
 have HB : Hid (Below w.heap.size w (w.alloc (.cells #[.int .i64 5, .string k, .int .i64 f, .int .i64 t, .string d] 44))) := below_a1 _ _
 have cS := implSpanOk f t
 have cI := inI f 0 1099511627776
 have cH := inI f 0 100000
 have cK := fun wx => implIsKey k wx hk
 clear hk
 rw [show decide (KOk k) = keyB k from by unfold keyB; first | rfl | congr] at cK
 unfold vOp
 simp only
 by_cases hd : d = ⟨#[]⟩
 ·subst hd
  rw [em_nil] at HE
  go_enter Tryz.func92, Tryz.ntmps92
  go_wp2_with fail
  refine (cK _).mono ?_
  rintro e w1 ⟨rfl, rfl⟩
  cases hc : keyB k <;> rw [hc] at HE
  ·go_wp2_with fail
   go_ret
   exact ⟨by rw [HE.out]; first | rfl | simp, HB.out⟩
  ·go_wp2_with fail
   refine (cS _).mono ?_
   rintro e w' ⟨rfl, rfl⟩
   go_wp2_with fail
   go_ret
   exact ⟨by rw [HE.out]; first | rfl | simp, HB.out⟩
 ·obtain ⟨ed1, ed2, ed3, ed4⟩ := em_facts hd
  rw [ed4] at HE
  clear ed4 hd
  go_enter Tryz.func92, Tryz.ntmps92
  go_wp2_with fail
  go_ret
  exact ⟨by rw [HE.out]; first | rfl | simp, HB.out⟩
set_option maxHeartbeats 4000000 in
theorem implOpOk_4 (k : ByteArray) (f t : Int) (d : ByteArray) (w : World) (hk : k.size ≤ maxLen) (hd : d.size ≤ 1048576) (hst : SumTab w) (a0 a1 a2 : Addr) (he : Errs w a0 a1 a2) : Calls Tryz.prog 92 #[vOp ⟨4, k, f, t, d⟩] w fun e w' => e = .returned (.bool (opOk ⟨4, k, f, t, d⟩)) ∧ Below w.heap.size w w' := by
 have HE : Hid (opOk ⟨4, k, f, t, d⟩ = (keyB k && rdB d && zB f && zB t)) := by unfold Hid opOk; simp
 obtain ⟨X, hX⟩ : ∃ X, X = w.alloc (.cells #[.int .i64 4, .string k, .int .i64 f, .int .i64 t, .string d] 44) := ⟨_, rfl⟩
 have HBX : Hid (Below w.heap.size w X) := by rw [hX]; exact below_a1 _ _
 have KX : Hid (CellO X w.heap.size ⟨4, k, f, t, d⟩) := by rw [hX]; exact CellO.new w ⟨4, k, f, t, d⟩ _
 have cR := implReadBlock d X hd (hst.on HBX.out) a0 a1 a2 (he.on HBX.out)
 have cK := fun wx => implIsKey k wx hk
 clear hk hd hst he
 rw [show decide (KOk k) = keyB k from by unfold keyB; first | rfl | congr] at cK
 unfold vOp
 simp only
 go_enter Tryz.func92, Tryz.ntmps92
 go_wp2_with fail
 rw [← hX]
 clear hX
 refine cR.mono ?_
 rintro e w1 ⟨⟨u, l, ok, hA, rfl, hO⟩, hb⟩
 have hr := rdB_is hA
 rw [hr] at HE
 have HB : Hid (Below w.heap.size w w1) := HBX.out.trans (hb.mono HBX.out.size)
 obtain ⟨⟨g0, g1, g2, g3, g4⟩, _⟩ := KX.out.on hb KX.out.2
 simp only at g0 g1 g2 g3 g4
 obtain ⟨Au, mu, cu, rfl⟩ := hO.shape
 clear hA hO hb hr cR KX
 by_cases hf : f = 0
 ·subst hf
  rw [z_nil] at HE
  by_cases ht : t = 0
  ·subst ht
   rw [z_nil] at HE
   go_wp2_with fail
   refine (cK _).mono ?_
   rintro e w' ⟨rfl, rfl⟩
   cases hc : keyB k <;> rw [hc] at HE
   ·go_wp2_with fail
    go_ret
    exact ⟨by rw [HE.out]; first | rfl | simp, HB.out⟩
   ·go_wp2_with fail
    go_ret
    exact ⟨by rw [HE.out]; first | rfl | simp, HB.out⟩
  ·obtain ⟨et1, et2, et4⟩ := z_facts ht
   rw [et4] at HE
   clear et4 ht
   go_wp2_with fail
   go_ret
   exact ⟨by rw [HE.out]; first | rfl | simp, HB.out⟩
 ·obtain ⟨ef1, ef2, ef4⟩ := z_facts hf
  rw [ef4] at HE
  clear ef4 hf
  by_cases ht : t = 0
  ·subst ht
   rw [z_nil] at HE
   go_wp2_with fail
   go_ret
   exact ⟨by rw [HE.out]; first | rfl | simp, HB.out⟩
  ·obtain ⟨et1, et2, et4⟩ := z_facts ht
   rw [et4] at HE
   clear et4 ht
   go_wp2_with fail
   go_ret
   exact ⟨by rw [HE.out]; first | rfl | simp, HB.out⟩
set_option maxHeartbeats 4000000 in
theorem implOpOk_no (x : Opx) (w : World) (h : x.kind ≠ 1 ∧ x.kind ≠ 2 ∧ x.kind ≠ 3 ∧ x.kind ≠ 4 ∧ x.kind ≠ 5 ∧ x.kind ≠ 6 ∧ x.kind ≠ 7) : Calls Tryz.prog 92 #[vOp x] w fun e w' => e = .returned (.bool (opOk x)) ∧ Below w.heap.size w w' := by
 obtain ⟨n, k, f, t, d⟩ := x
 simp only at h
 obtain ⟨h1, h2, h3, h4, h5, h6, h7⟩ := h
 have HE : Hid (opOk ⟨n, k, f, t, d⟩ = false) := by unfold Hid opOk; simp [h1, h2, h3, h4, h5, h6, h7]
 have HB : Hid (Below w.heap.size w (w.alloc (.cells #[.int .i64 n, .string k, .int .i64 f, .int .i64 t, .string d] 44))) := below_a1 _ _
 have z1 : (n == 1) = false := by simpa using h1
 have z2 : (n == 2) = false := by simpa using h2
 have z3 : (n == 3) = false := by simpa using h3
 have z4 : (n == 4) = false := by simpa using h4
 have z5 : (n == 5) = false := by simpa using h5
 have z6 : (n == 6) = false := by simpa using h6
 have z7 : (n == 7) = false := by simpa using h7
 clear h1 h2 h3 h4 h5 h6 h7
 unfold vOp
 simp only
 go_enter Tryz.func92, Tryz.ntmps92
 go_wp2_with fail
 go_ret
 exact ⟨by rw [HE.out]; rfl, HB.out⟩
theorem implOpOk (x : Opx) (w : World) (hk : x.key.size ≤ maxLen) (hd : x.data.size ≤ 1048576) (hst : SumTab w) (a0 a1 a2 : Addr) (he : Errs w a0 a1 a2) : Calls Tryz.prog 92 #[vOp x] w fun e w' => e = .returned (.bool (opOk x)) ∧ Below w.heap.size w w' := by
 by_cases h : x.kind ≠ 1 ∧ x.kind ≠ 2 ∧ x.kind ≠ 3 ∧ x.kind ≠ 4 ∧ x.kind ≠ 5 ∧ x.kind ≠ 6 ∧ x.kind ≠ 7
 ·exact implOpOk_no x w h
 ·obtain ⟨n, k, f, t, d⟩ := x
  simp only at h hk hd
  have : n = 1 ∨ n = 2 ∨ n = 3 ∨ n = 4 ∨ n = 5 ∨ n = 6 ∨ n = 7 := by omega
  rcases this with rfl | rfl | rfl | rfl | rfl | rfl | rfl
  ·exact implOpOk_1 k f t d w hk
  ·exact implOpOk_2 k f t d w hk
  ·exact implOpOk_3 k f t d w hk
  ·exact implOpOk_4 k f t d w hk hd hst a0 a1 a2 he
  ·exact implOpOk_5 k f t d w hk
  ·exact implOpOk_6 k f t d w hk
  ·exact implOpOk_7 k f t d w hk
end Go.Proofs.YtimfnbnffibgpaaGreatDoor
