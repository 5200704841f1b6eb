/- PtRun Clone BodyAt BodyFit Unframe -/
import Derived.Test.YtpmgndgkmffcnaaGreatDoorQd3
import Derived.Deep.RegionHeld3
import Derived.Test.YtpmgndgkmffcnaaGreatDoorRows
import Derived.Shelf.Pu.Clone
import Derived.WalkKit
import Derived.Below
import Derived.Test.YtpmgndgkmffcnaaGreatDoorQd1
import Derived.Test.YtpmgndgkmffcnaaGreatDoorQd2
import Derived.ProofKit
import Derived.OpenShut
import Derived.WalkSmall
import Derived.WalkLawsBesides
import Derived.Outline
import Derived.BigQuiet
import Derived.Deep.QuietTactic
import Derived.Deep.RegionWith
import Derived.Laws.DeepStrings4
import Derived.OwnWalk
namespace Go.Proofs.YtpmgndgkmffcnaaGreatDoor
open Go.RowKit Go.PlainAid
theorem run_append_row {P : Program} (w : World) (t ty e : TypeId) (z : Value) (sz bytes : Nat)
  (ht : P.underlying t = some (.slice e)) (hinfo : (P.info? e).map (fun i => (i.zero, i.size, i.bytes)) = some (some z, sz, bytes)) (hzs : z.cells.size = sz) (hsz : 0 < sz)
  (base : Nat) (v : Value) (rows : List (List Value)) (hown : Owns w base e sz v rows) (r : List Value) (hr : r.length = sz) (h1 : ∀ u ∈ r, u.oneCell' = true)
  (hlen : rows.length ≤ 2097152) (hby : bytes ≤ 1000) (hbase : base ≤ w.heap.size) :
  ∃ A m c w', (Builtin.append_ #[t, t] ty #[v, .slice (some ⟨w.heap.size, 0, none⟩) 1 1]).run P (w.alloc (.cells r.toArray e)) = .ok (.slice A m c) w' ∧ Owns w' base e sz (.slice A m c) (rows ++ [r]) ∧ Below base w w' ∧ (∀ g, g < w.heap.size → v.ownBlock ≠ some g → w'.heap[g]? = w.heap[g]?) ∧ ((Value.slice A m c).ownBlock = v.ownBlock ∨ ∀ g, (Value.slice A m c).ownBlock = some g → w.heap.size ≤ g) := by
 obtain ⟨i0, hi, hz0, hz1, hz2⟩ := info_parts hinfo
 have hb1 : (rows.length + 1) * bytes ≤ 140737488355328 := Nat.le_trans (Nat.mul_le_mul (show rows.length + 1 ≤ 2097153 by omega) hby) (by omega)
 have hnews : ∀ j u, r[j]? = some u → (w.alloc (.cells r.toArray e)).cell? ((⟨w.heap.size, 0, none⟩ : Addr).add j) = some u := by
  intro j u hj
  have e1 : (⟨w.heap.size, 0, none⟩ : Addr).add j = ⟨w.heap.size, j, none⟩ := by cases j <;> simp [Addr.add]
  rw [e1, World.cell?_alloc_mark]
  simpa using hj
 obtain ⟨v', w', hrun, h2, h3, _⟩ := run_append_own (P := P) (w.alloc (.cells r.toArray e)) base t ty e i0 z sz bytes ht hi hz0 hz1 hz2 hzs hsz v rows.length rows.flatten (World.ownsRow.alloc hown.2 _) ⟨w.heap.size, 0, none⟩ 1 1 r (by rw [hr]; omega) hnews h1 (by unfold maxLen; omega) hb1 (by simp; omega)
 have h5 := run_append_where (P := P) (w.alloc (.cells r.toArray e)) base t ty e i0 z sz bytes ht hi hz0 hz1 hz2 v rows.length rows.flatten (World.ownsRow.alloc hown.2 _) ⟨w.heap.size, 0, none⟩ 1 1 r (by rw [hr]; omega) hnews h1 (by unfold maxLen; omega) hb1 v' w' hrun
 have hb0 : ∀ k, v.ownBlock = some k → base ≤ k := fun k hk => (hown.lt k hk).1
 have hO : Owns w' base e sz v' (rows ++ [r]) := by
  refine ⟨?_, ?_⟩
  ·intro y hy
   rcases List.mem_append.1 hy with hy | hy
   ·exact hown.1 y hy
   ·rw [List.mem_singleton.1 hy]; exact hr
  ·rw [List.length_append, List.flatten_append]
   simpa using h2
 obtain ⟨A, m, c, rfl⟩ := hO.shape
 refine ⟨A, m, c, w', hrun, hO, ((Below.refl base w).alloc hbase _).grown h3 (by simp; omega) hb0, ?_, h5.imp id fun e g hg => by rw [e] at hg; cases hg; simp⟩
 intro g hg hne
 rw [h3.block g (by simp; omega) (fun e => hne e.symm)]
 exact Below.heap_alloc w _ g hg
theorem step_append_run {P : Program} {ops : Array Oper} {o : Oper} {a : Act} {w : World} {K : Act → World → Prop} {Q : Exit → Act → World → Prop} {E : Prop}
  (hg : o.guard = none) (s x : Operand) (t : TypeId) (hop : o.op = Op.call { callee := Callee.builtin Builtin.append, args := #[s, x], argTypes := #[t, t] })
  (v y r : Value) (w' : World) (hs : a.eval s = v) (hx : a.eval x = y) (hrun : (Builtin.append_ #[t, t] o.type #[v, y]).run P w = .ok r w') (hK : K (a.put o.dst r) w') :
  if Region.wanted o (yielded ops a.tmps) = true then Oper.wp P o a w K Q else E := by
 have hw : Region.wanted o (yielded ops a.tmps) = true := by simp [Region.wanted, hg]
 rw [if_pos hw]
 unfold Oper.wp
 simp [execOp, hop, resolve, invoke, builtin, hs, hx, hrun, Result.andThen]
 exact hK
end Go.Proofs.YtpmgndgkmffcnaaGreatDoor
namespace Go.Proofs.YtpmgndgkmffcnaaGreatDoor
open Go.RowKit
def cloneRen : Go.Shelf.Ren := ⟨fun _ => 98, fun | 37 => 93 | 47 => 145 | t => t, fun g => g⟩
theorem clone_lays : Go.Proofs.LaysPu.n25 Tryz.prog cloneRen where
 mixed := by kernel_rfl
 f25 := Tryz.func98.trans (congrArg some (by kernel_rfl))
 t0 := Tryz.underlying0
 a0 := Tryz.isAgg0
 z0 := Tryz.sizeOf0
 v0 := Tryz.zeroValue0
 i0 := by kernel_rfl
 t3 := Tryz.underlying3
 a3 := Tryz.isAgg3
 z3 := Tryz.sizeOf3
 v3 := Tryz.zeroValue3
 i3 := by kernel_rfl
 t4 := Tryz.underlying4
 a4 := Tryz.isAgg4
 z4 := Tryz.sizeOf4
 v4 := Tryz.zeroValue4
 i4 := by kernel_rfl
 t5 := Tryz.underlying5
 a5 := Tryz.isAgg5
 z5 := Tryz.sizeOf5
 v5 := Tryz.zeroValue5
 i5 := by kernel_rfl
 t9 := Tryz.underlying9
 a9 := Tryz.isAgg9
 z9 := Tryz.sizeOf9
 v9 := Tryz.zeroValue9
 i9 := by kernel_rfl
 t37 := Tryz.underlying93
 a37 := Tryz.isAgg93
 z37 := Tryz.sizeOf93
 v37 := Tryz.zeroValue93
 i37 := by kernel_rfl
 t47 := Tryz.underlying145
 a47 := Tryz.isAgg145
 z47 := Tryz.sizeOf145
 v47 := Tryz.zeroValue145
 i47 := by kernel_rfl
theorem clone (s : ByteArray) (w : World) (hs : s.size ≤ 281474976710656) :
  Calls Tryz.prog 78 #[.string s] w fun e w' => e = .returned (.string s) ∧ Below w.heap.size w w' := by
 have c1 : Calls Tryz.prog 98 #[.string s] w fun e w' => e = .returned (.string s) ∧ Below w.heap.size w w' := AnyPu.stringslite_Clone clone_lays s w hs
 clear hs
 go_enter Tryz.func78, Tryz.ntmps78
 go_wp2_with fail
 refine c1.mono ?_
 rintro e w1 ⟨rfl, hb1⟩
 go_wp2_with fail
 go_ret
 exact ⟨rfl, hb1⟩
end Go.Proofs.YtpmgndgkmffcnaaGreatDoor
namespace Go.Proofs.YtpmgndgkmffcnaaGreatDoor
open Go.ChangeShapes Go.WideShapes Go.ChangeAt Go.RowKit Go.PlainAid
set_option linter.unusedVariables false
theorem below_drewN (w : World) (n : Nat) : Below w.heap.size w (w.drewN n) := ⟨rfl, rfl, rfl, Nat.le_refl _, fun _ _ => rfl⟩
theorem below_drew (w : World) : Below w.heap.size w w.drew := ⟨rfl, rfl, rfl, Nat.le_refl _, fun _ _ => rfl⟩
def badBody (p : Int) (a : Addr) : Ending := .returned (.tuple #[.string ⟨#[]⟩, wrapped p a])
set_option maxHeartbeats 400000 in
theorem body_short4 (s : ByteArray) (i : Nat) (w : World) (hi : i ≤ s.size) (hs : s.size ≤ 1048576) (a0 a1 a2 : Addr) (he : Errs w a0 a1 a2) (h4 : (rest s i).size < 4) :
  Calls Tryz.prog 176 #[.string s, .int .i64 (i : Int)] w fun e w' => (∃ p, e = badBody p a0) ∧ Below w.heap.size w w' := by
 have c1 := impl_readFixed_no (rest s i) 4 w (by unfold maxLen; omega) (by omega)
 have hc := he.c0
 have hr : s.extract i s.size = rest s i := rfl
 have q1 : (i : Int) ≤ (s.size : Int) := by omega
 have q2 : (s.size : Int) ≤ 1048576 := by omega
 clear he h4 hs
 generalize rest s i = r at *
 go_enter Tryz.func176, Tryz.ntmps176
 go_wp2_with fail
 refine c1.mono ?_
 rintro e w1 ⟨rfl, rfl⟩
 go_wp2_with fail
 go_quiet (fail)
 go_wp2_with fail
 go_ret2
 exact ⟨⟨_, rfl⟩, below_drewN w nq⟩
set_option maxHeartbeats 400000 in
theorem body_len (s : ByteArray) (i : Nat) (w : World) (hi : i ≤ s.size) (hs : s.size ≤ 1048576) (a0 a1 a2 : Addr) (he : Errs w a0 a1 a2) (h4 : 4 ≤ (rest s i).size) (hl : rdv (rest s i) 4 = 0 ∨ 2000 < rdv (rest s i) 4) :
  Calls Tryz.prog 176 #[.string s, .int .i64 (i : Int)] w fun e w' => (∃ p, e = badBody p a1) ∧ Below w.heap.size w w' := by
 have hz := rest_size s i
 have c1 := impl_readFixed (rest s i) 4 w (by unfold maxLen; omega) (by omega) (by omega) h4
 have hc := he.c1
 have hr : s.extract i s.size = rest s i := rfl
 have q1 : (i : Int) ≤ (s.size : Int) := by omega
 have q2 : (s.size : Int) ≤ 1048576 := by omega
 clear he h4 hs hz
 generalize rdv (rest s i) 4 = n at *
 generalize rest s i = r at *
 rcases hl with rfl | hl
 ·go_enter Tryz.func176, Tryz.ntmps176
  go_wp2_with fail
  refine c1.mono ?_
  rintro e w1 ⟨rfl, rfl⟩
  go_wp2_with fail
  go_quiet (fail)
  go_wp2_with fail
  go_ret2
  exact ⟨⟨_, rfl⟩, below_drewN w nq⟩
 ·have q3 : (2000 : Int) < (n : Int) := by omega
  have q4 : ((n : Int) == 0) = false := by simp only [beq_eq_false_iff_ne, ne_eq]; omega
  have q5 : decide ((2000 : Int) < (n : Int)) = true := decide_eq_true q3
  have q6 : ¬ (n : Int) = 0 := by omega
  go_enter Tryz.func176, Tryz.ntmps176
  go_wp2_with fail
  refine c1.mono ?_
  rintro e w1 ⟨rfl, rfl⟩
  go_wp2_with fail
  go_quiet (fail)
  go_wp2_with fail
  go_ret2
  exact ⟨⟨_, rfl⟩, below_drewN w nq⟩
set_option maxHeartbeats 400000 in
theorem body_short8 (s : ByteArray) (i : Nat) (w : World) (hi : i ≤ s.size) (hs : s.size ≤ 1048576) (a0 a1 a2 : Addr) (he : Errs w a0 a1 a2) (h4 : 4 ≤ (rest s i).size) (h1 : 1 ≤ rdv (rest s i) 4) (h2 : rdv (rest s i) 4 ≤ 2000) (h8 : (rest s i).size < 8 + rdv (rest s i) 4) :
  Calls Tryz.prog 176 #[.string s, .int .i64 (i : Int)] w fun e w' => (∃ p, e = badBody p a0) ∧ Below w.heap.size w w' := by
 have hz := rest_size s i
 have c1 := impl_readFixed (rest s i) 4 w (by unfold maxLen; omega) (by omega) (by omega) h4
 have hc := he.c0
 have hr : s.extract i s.size = rest s i := rfl
 have q1 : (i : Int) ≤ (s.size : Int) := by omega
 have q2 : (s.size : Int) ≤ 1048576 := by omega
 clear he h4 hs hz
 generalize rdv (rest s i) 4 = n at *
 generalize rest s i = r at *
 have q3 : (n : Int) ≤ 2000 := by omega
 have q4 : ((n : Int) == 0) = false := by simp only [beq_eq_false_iff_ne, ne_eq]; omega
 have q5 : decide ((2000 : Int) < (n : Int)) = false := decide_eq_false (by omega)
 have q6 : ¬ (n : Int) = 0 := by omega
 have q7 : (r.size : Int) < 8 + (n : Int) := by omega
 go_enter Tryz.func176, Tryz.ntmps176
 go_wp2_with fail
 refine c1.mono ?_
 rintro e w1 ⟨rfl, rfl⟩
 go_wp2_with fail
 go_quiet (fail)
 go_wp2_with fail
 go_ret2
 exact ⟨⟨_, rfl⟩, below_drewN w nq⟩
end Go.Proofs.YtpmgndgkmffcnaaGreatDoor
namespace Go.Proofs.YtpmgndgkmffcnaaGreatDoor
open Go.ChangeShapes Go.WideShapes Go.ChangeAt Go.RowKit Go.PlainAid
set_option linter.unusedVariables false
set_option maxRecDepth 20000 in
set_option maxHeartbeats 1000000 in
theorem body_ok (s : ByteArray) (i : Nat) (w : World) (hi : i ≤ s.size) (hs : s.size ≤ 1048576) (ht : SumTab w) (hcode : code (rest s i) = 0) :
  Calls Tryz.prog 176 #[.string s, .int .i64 (i : Int)] w fun e w' => e = .returned (.tuple #[.string (bodyOf (rest s i)), .nilIface]) ∧ Below w.heap.size w w' := by
 obtain ⟨h4, h1, h2, h8, hsum⟩ := (code_zero _).1 hcode
 have hz := rest_size s i
 have c1 := impl_readFixed (rest s i) 4 w (by unfold maxLen; omega) (by omega) (by omega) h4
 have hr : s.extract i s.size = rest s i := rfl
 have q1 : (i : Int) ≤ (s.size : Int) := by omega
 have q2 : (s.size : Int) ≤ 1048576 := by omega
 have q8 : (rest s i).size ≤ 1048576 := by omega
 unfold bodyOf at hsum ⊢
 clear hcode hs hz
 generalize rdv (rest s i) 4 = n at *
 generalize rest s i = r at *
 have q3 : (n : Int) ≤ 2000 := by omega
 have q4 : ((n : Int) == 0) = false := by simp only [beq_eq_false_iff_ne, ne_eq]; omega
 have q5 : decide ((2000 : Int) < (n : Int)) = false := decide_eq_false (by omega)
 have q6 : ¬ (n : Int) = 0 := by omega
 have q7 : 8 + (n : Int) ≤ (r.size : Int) := by omega
 have q9 : (8 : Int) ≤ (r.size : Int) := by omega
 have HT : Hid (SumTab w) := ht
 have hm : (8 + (n : Int)).toNat = 8 + n := by omega
 have HB : Hid ((r.extract 0 4).size + (r.extract 8 (8 + n)).size ≤ 2097152) := by unfold Hid; rw [ByteArray.size_extract, ByteArray.size_extract]; omega
 have HC : Hid ((r.extract 8 (8 + n)).size ≤ 281474976710656) := by unfold Hid; rw [ByteArray.size_extract]; omega
 have HS : Hid (sumOf (r.extract 0 4) (r.extract 8 (8 + n)) = r.extract 4 8) := hsum
 clear ht hsum q8 h1 h2 h4
 go_enter Tryz.func176, Tryz.ntmps176
 go_wp2_with fail
 refine c1.mono ?_
 rintro e w1 ⟨rfl, rfl⟩
 go_wp2_with fail
 go_region_with (go_at_call 152; refine (impl_frameSum (r.extract 0 4) (r.extract 8 (8 + n)) _ HB.out ?_).mono ?_; exact HT.out; rintro e w1 ⟨rfl, hb1⟩; rw [HS.out])
 all_goals go_wp2_with fail
 all_goals (refine (clone _ _ HC.out).mono ?_; rintro e w2 ⟨rfl, hb2⟩; go_wp2_with fail; go_ret2; exact ⟨rfl, ((below_drew w).trans hb1).trans (hb2.mono hb1.size)⟩)
set_option maxRecDepth 20000 in
set_option maxHeartbeats 1000000 in
theorem body_sum (s : ByteArray) (i : Nat) (w : World) (hi : i ≤ s.size) (hs : s.size ≤ 1048576) (ht : SumTab w) (a0 a1 a2 : Addr) (he : Errs w a0 a1 a2) (h4 : 4 ≤ (rest s i).size) (h1 : 1 ≤ rdv (rest s i) 4) (h2 : rdv (rest s i) 4 ≤ 2000) (h8 : 8 + rdv (rest s i) 4 ≤ (rest s i).size) (hsum : sumOf ((rest s i).extract 0 4) (bodyOf (rest s i)) ≠ (rest s i).extract 4 8) :
  Calls Tryz.prog 176 #[.string s, .int .i64 (i : Int)] w fun e w' => (∃ p, e = badBody p a2) ∧ Below w.heap.size w w' := by
 have hz := rest_size s i
 have c1 := impl_readFixed (rest s i) 4 w (by unfold maxLen; omega) (by omega) (by omega) h4
 have hr : s.extract i s.size = rest s i := rfl
 have q1 : (i : Int) ≤ (s.size : Int) := by omega
 have q2 : (s.size : Int) ≤ 1048576 := by omega
 have q8 : (rest s i).size ≤ 1048576 := by omega
 unfold bodyOf at hsum
 have HE : Hid (Errs w a0 a1 a2) := he
 clear he hs hz
 generalize rdv (rest s i) 4 = n at *
 generalize rest s i = r at *
 have q3 : (n : Int) ≤ 2000 := by omega
 have q4 : ((n : Int) == 0) = false := by simp only [beq_eq_false_iff_ne, ne_eq]; omega
 have q5 : decide ((2000 : Int) < (n : Int)) = false := decide_eq_false (by omega)
 have q6 : ¬ (n : Int) = 0 := by omega
 have q7 : 8 + (n : Int) ≤ (r.size : Int) := by omega
 have q9 : (8 : Int) ≤ (r.size : Int) := by omega
 have HT : Hid (SumTab w) := ht
 have hm : (8 + (n : Int)).toNat = 8 + n := by omega
 have HB : Hid ((r.extract 0 4).size + (r.extract 8 (8 + n)).size ≤ 2097152) := by unfold Hid; rw [ByteArray.size_extract, ByteArray.size_extract]; omega
 have HC : Hid ((r.extract 8 (8 + n)).size ≤ 281474976710656) := by unfold Hid; rw [ByteArray.size_extract]; omega
 have e1 : ((sumOf (r.extract 0 4) (r.extract 8 (8 + n))).toList == (r.extract 4 8).toList) = false := by
  rw [beq_eq_false_iff_ne, Lib.toList_data, Lib.toList_data]
  intro h
  exact hsum (ByteArray.ext (Array.toList_inj.1 h))
 have q10 : wrap64 ((i : Int) + 4) = (i : Int) + 4 := by unfold wrap64; omega
 clear ht hsum q8 h1 h2 h4
 go_enter Tryz.func176, Tryz.ntmps176
 go_wp2_with fail
 refine c1.mono ?_
 rintro e w1 ⟨rfl, rfl⟩
 go_wp2_with fail
 go_region_with (go_at_call 152; refine (impl_frameSum (r.extract 0 4) (r.extract 8 (8 + n)) _ HB.out ?_).mono ?_; exact HT.out; rintro e w1 ⟨rfl, hb1⟩)
 all_goals go_wp2_with fail
 have hb : Below w.heap.size w w1 := (below_drew w).trans hb1
 have hc := (HE.out.on hb).c2
 go_quiet (fail)
 go_wp2_with fail
 go_ret2
 exact ⟨⟨_, rfl⟩, hb.trans ((below_drewN w1 nq).mono hb.size)⟩
end Go.Proofs.YtpmgndgkmffcnaaGreatDoor
namespace Go.Proofs.YtpmgndgkmffcnaaGreatDoor
open Go.ChangeShapes Go.WideShapes Go.ChangeAt Go.RowKit Go.PlainAid
set_option linter.unusedVariables false
theorem body_bad (s : ByteArray) (i : Nat) (w : World) (hi : i ≤ s.size) (hs : s.size ≤ 1048576) (ht : SumTab w) (a0 a1 a2 : Addr) (he : Errs w a0 a1 a2) (hcode : code (rest s i) ≠ 0) :
  Calls Tryz.prog 176 #[.string s, .int .i64 (i : Int)] w fun e w' => (∃ p a, e = badBody p a ∧ (code (rest s i) = 1 ∧ a = a0 ∨ code (rest s i) = 2 ∧ (a = a1 ∨ a = a2))) ∧ Below w.heap.size w w' := by
 by_cases h4 : (rest s i).size < 4
 ·refine (body_short4 s i w hi hs a0 a1 a2 he h4).mono ?_
  rintro e w' ⟨⟨p, rfl⟩, hb⟩
  exact ⟨⟨p, a0, rfl, .inl ⟨by rw [code, if_pos h4], rfl⟩⟩, hb⟩
 by_cases hl : rdv (rest s i) 4 = 0 ∨ 2000 < rdv (rest s i) 4
 ·refine (body_len s i w hi hs a0 a1 a2 he (by omega) hl).mono ?_
  rintro e w' ⟨⟨p, rfl⟩, hb⟩
  exact ⟨⟨p, a1, rfl, .inr ⟨by rw [code, if_neg h4, if_pos hl], .inl rfl⟩⟩, hb⟩
 by_cases h8 : (rest s i).size < 8 + rdv (rest s i) 4
 ·refine (body_short8 s i w hi hs a0 a1 a2 he (by omega) (by omega) (by omega) h8).mono ?_
  rintro e w' ⟨⟨p, rfl⟩, hb⟩
  exact ⟨⟨p, a0, rfl, .inl ⟨by rw [code, if_neg h4, if_neg hl, if_pos h8], rfl⟩⟩, hb⟩
 have hsum : sumOf ((rest s i).extract 0 4) (bodyOf (rest s i)) ≠ (rest s i).extract 4 8 := fun h => hcode (by rw [code, if_neg h4, if_neg hl, if_neg h8, if_pos h])
 refine (body_sum s i w hi hs ht a0 a1 a2 he (by omega) (by omega) (by omega) (by omega) hsum).mono ?_
 rintro e w' ⟨⟨p, rfl⟩, hb⟩
 exact ⟨⟨p, a2, rfl, .inr ⟨by rw [code, if_neg h4, if_neg hl, if_neg h8, if_neg hsum], .inr rfl⟩⟩, hb⟩
def unf (s : ByteArray) : Array Value := if code s = 0 then #[.string (bodyOf s), .int .i64 ((8 + rdv s 4 : Nat) : Int), .int .i64 0] else #[.string ⟨#[]⟩, .int .i64 0, .int .i64 (code s : Int)]
set_option maxHeartbeats 1000000 in
theorem impl_unframe (s : ByteArray) (w : World) (hs : s.size ≤ 1048576) (ht : SumTab w) (a0 a1 a2 : Addr) (he : Errs w a0 a1 a2) :
  Calls Tryz.prog 169 #[.string s] w fun e w' => e = .returned (.tuple (unf s)) ∧ Below w.heap.size w w' := by
 have HE : Hid (Errs w a0 a1 a2) := he
 by_cases hcode : code s = 0
 ·have c1 := body_ok s 0 w (by omega) hs ht (by rw [rest_zero]; exact hcode)
  rw [rest_zero, show ((0 : Nat) : Int) = 0 from rfl] at c1
  obtain ⟨h4, h1, h2, h8, hsum⟩ := (code_zero _).1 hcode
  have hz := bodyOf_size s h8
  have EU : Hid (unf s = #[.string (bodyOf s), .int .i64 ((8 + rdv s 4 : Nat) : Int), .int .i64 0]) := by unfold Hid; rw [unf, if_pos hcode]
  have q1 : ((bodyOf s).size : Int) = (rdv s 4 : Int) := by rw [hz]
  have q2 : (rdv s 4 : Int) ≤ 2000 := by omega
  clear hcode hsum ht he h4 h1 h2 h8 hs hz
  generalize rdv s 4 = n at *
  generalize bodyOf s = b at *
  go_enter Tryz.func169, Tryz.ntmps169
  go_wp2_with fail
  refine c1.mono ?_
  rintro e w1 ⟨rfl, hb1⟩
  go_wp2_with fail
  go_ret3
  exact ⟨by rw [EU.out]; go_num, hb1⟩
 ·have c1 := body_bad s 0 w (by omega) hs ht a0 a1 a2 he (by rw [rest_zero]; exact hcode)
  rw [rest_zero, show ((0 : Nat) : Int) = 0 from rfl] at c1
  have EU : Hid (unf s = #[.string ⟨#[]⟩, .int .i64 0, .int .i64 (code s : Int)]) := by unfold Hid; rw [unf, if_neg hcode]
  clear ht he hs hcode
  simp only [badBody, wrapped] at c1
  generalize code s = k at *
  go_enter Tryz.func169, Tryz.ntmps169
  go_wp2_with fail
  refine c1.mono ?_
  rintro e w1 ⟨⟨p, a, rfl, ha⟩, hb1⟩
  have he1 := HE.out.on hb1
  rcases ha with ⟨rfl, rfl⟩ | ⟨rfl, ha⟩
  ·have c2 := code_short p a a1 a2 w1 he1
   simp only [wrapped] at c2
   clear he1
   go_wp2_with fail
   refine c2.mono ?_
   rintro e w2 ⟨rfl, hb2⟩
   go_wp2_with fail
   go_ret3
   exact ⟨by rw [EU.out]; rfl, hb1.trans (hb2.mono hb1.size)⟩
  ·have c2 := code_bad p a a0 a1 a2 w1 he1 ha
   simp only [wrapped] at c2
   clear he1 ha
   go_wp2_with fail
   refine c2.mono ?_
   rintro e w2 ⟨rfl, hb2⟩
   go_wp2_with fail
   go_ret3
   exact ⟨by rw [EU.out]; rfl, hb1.trans (hb2.mono hb1.size)⟩
set_option maxRecDepth 20000 in
set_option maxHeartbeats 1000000 in
theorem spec_unframe (s : ByteArray) (w : World) (hs : s.size ≤ 1048576) :
  Calls Tryz.prog 123 #[.string s] w fun e w' => e = .returned (.tuple (unf s)) ∧ Below w.heap.size w w' := by
 by_cases h4 : s.size < 4
 ·have c1 := spec_readFixed_no s 4 w (by unfold maxLen; omega) (by omega)
  have EU : Hid (unf s = #[.string ⟨#[]⟩, .int .i64 0, .int .i64 1]) := by
   have : code s = 1 := by rw [code, if_pos h4]
   unfold Hid; rw [unf, this]; rfl
  clear hs h4
  go_enter Tryz.func123, Tryz.ntmps123
  go_wp2_with fail
  refine c1.mono ?_
  rintro e w1 ⟨rfl, rfl⟩
  go_wp2_with fail
  go_ret3
  exact ⟨by rw [EU.out]; rfl, Below.refl _ _⟩
 have c1 := spec_readFixed s 4 w (by unfold maxLen; omega) (by omega) (by omega) (by omega)
 by_cases hl : rdv s 4 = 0 ∨ 2000 < rdv s 4
 ·have EU : Hid (unf s = #[.string ⟨#[]⟩, .int .i64 0, .int .i64 2]) := by
   have : code s = 2 := by rw [code, if_neg h4, if_pos hl]
   unfold Hid; rw [unf, this]; rfl
  clear hs h4
  generalize rdv s 4 = n at *
  rcases hl with rfl | hl
  ·go_enter Tryz.func123, Tryz.ntmps123
   go_wp2_with fail
   refine c1.mono ?_
   rintro e w1 ⟨rfl, rfl⟩
   go_wp2_with fail
   go_ret3
   exact ⟨by rw [EU.out]; rfl, Below.refl _ _⟩
  ·have q3 : (2000 : Int) < (n : Int) := by omega
   have q4 : ((n : Int) == 0) = false := by simp only [beq_eq_false_iff_ne, ne_eq]; omega
   have q5 : decide ((2000 : Int) < (n : Int)) = true := decide_eq_true q3
   have q6 : ¬ (n : Int) = 0 := by omega
   go_enter Tryz.func123, Tryz.ntmps123
   go_wp2_with fail
   refine c1.mono ?_
   rintro e w1 ⟨rfl, rfl⟩
   go_wp2_with fail
   go_ret3
   exact ⟨by rw [EU.out]; rfl, Below.refl _ _⟩
 by_cases h8 : s.size < 8 + rdv s 4
 ·have EU : Hid (unf s = #[.string ⟨#[]⟩, .int .i64 0, .int .i64 1]) := by
   have : code s = 1 := by rw [code, if_neg h4, if_neg hl, if_pos h8]
   unfold Hid; rw [unf, this]; rfl
  have q2 : (s.size : Int) ≤ 1048576 := by omega
  clear hs h4
  generalize rdv s 4 = n at *
  have q3 : (n : Int) ≤ 2000 := by omega
  have q4 : ((n : Int) == 0) = false := by simp only [beq_eq_false_iff_ne, ne_eq]; omega
  have q5 : decide ((2000 : Int) < (n : Int)) = false := decide_eq_false (by omega)
  have q6 : ¬ (n : Int) = 0 := by omega
  have q7 : (s.size : Int) < 8 + (n : Int) := by omega
  clear hl
  go_enter Tryz.func123, Tryz.ntmps123
  go_wp2_with fail
  refine c1.mono ?_
  rintro e w1 ⟨rfl, rfl⟩
  go_wp2_with fail
  go_ret3
  exact ⟨by rw [EU.out]; rfl, Below.refl _ _⟩
 have hz := bodyOf_size s (by omega)
 have c2 := fun wx => spec_frame (bodyOf s) wx (by omega)
 have hfit := frame_fits s (by omega) (by omega) (by omega) (by omega)
 have hb0 : s.extract 8 (8 + rdv s 4) = bodyOf s := rfl
 have q2 : (s.size : Int) ≤ 1048576 := by omega
 by_cases hsum : sumOf (s.extract 0 4) (bodyOf s) = s.extract 4 8
 ·have EU : Hid (unf s = #[.string (bodyOf s), .int .i64 ((8 + rdv s 4 : Nat) : Int), .int .i64 0]) := by
   have : code s = 0 := by rw [code, if_neg h4, if_neg hl, if_neg h8, if_pos hsum]
   unfold Hid; rw [unf, if_pos this]
  have HF : Hid (frame (bodyOf s) = s.extract 0 (8 + rdv s 4)) := hfit.2 hsum
  clear hfit hsum hs h4 hz
  generalize bodyOf s = b at *
  generalize rdv s 4 = n at *
  have q3 : (n : Int) ≤ 2000 := by omega
  have q4 : ((n : Int) == 0) = false := by simp only [beq_eq_false_iff_ne, ne_eq]; omega
  have q5 : decide ((2000 : Int) < (n : Int)) = false := decide_eq_false (by omega)
  have q6 : ¬ (n : Int) = 0 := by omega
  have q7 : 8 + (n : Int) ≤ (s.size : Int) := by omega
  have hm : (8 + (n : Int)).toNat = 8 + n := by omega
  have q8 : (0 : Int) ≤ 8 + (n : Int) := by omega
  have w1 : IntKind.i64.wrap (8 + (n : Int)) = 8 + (n : Int) := by rw [IntKind.wrap_i64]; omega
  have w2 : wrap64 (8 + (n : Int)) = 8 + (n : Int) := by unfold wrap64; omega
  clear hl h8
  go_enter Tryz.func123, Tryz.ntmps123
  go_wp2_with fail
  refine c1.mono ?_
  rintro e w1 ⟨rfl, rfl⟩
  go_wp2_with fail
  go_region_with (go_at_call 111; refine (c2 _).mono ?_; rintro e w1 ⟨rfl, hb1⟩; rw [HF.out])
  all_goals go_wp2_with fail
  all_goals (go_ret3; exact ⟨by rw [EU.out]; go_num, (below_drew w).trans hb1⟩)
 ·have EU : Hid (unf s = #[.string ⟨#[]⟩, .int .i64 0, .int .i64 2]) := by
   have : code s = 2 := by rw [code, if_neg h4, if_neg hl, if_neg h8, if_neg hsum]
   unfold Hid; rw [unf, this]; rfl
  have e1 : ((frame (bodyOf s)).toList == (s.extract 0 (8 + rdv s 4)).toList) = false := by
   rw [beq_eq_false_iff_ne, Lib.toList_data, Lib.toList_data]
   intro h
   exact hsum (hfit.1 (ByteArray.ext (Array.toList_inj.1 h)))
  clear hfit hsum hs h4 hz
  generalize bodyOf s = b at *
  generalize rdv s 4 = n at *
  have q3 : (n : Int) ≤ 2000 := by omega
  have q4 : ((n : Int) == 0) = false := by simp only [beq_eq_false_iff_ne, ne_eq]; omega
  have q5 : decide ((2000 : Int) < (n : Int)) = false := decide_eq_false (by omega)
  have q6 : ¬ (n : Int) = 0 := by omega
  have q7 : 8 + (n : Int) ≤ (s.size : Int) := by omega
  have hm : (8 + (n : Int)).toNat = 8 + n := by omega
  have q8 : (0 : Int) ≤ 8 + (n : Int) := by omega
  have w1 : IntKind.i64.wrap (8 + (n : Int)) = 8 + (n : Int) := by rw [IntKind.wrap_i64]; omega
  have w2 : wrap64 (8 + (n : Int)) = 8 + (n : Int) := by unfold wrap64; omega
  clear hl h8
  go_enter Tryz.func123, Tryz.ntmps123
  go_wp2_with fail
  refine c1.mono ?_
  rintro e w1 ⟨rfl, rfl⟩
  go_wp2_with fail
  go_region_with (go_at_call 111; refine (c2 _).mono ?_; rintro e w1 ⟨rfl, hb1⟩)
  all_goals go_wp2_with fail
  all_goals (go_ret3; exact ⟨by rw [EU.out]; rfl, (below_drew w).trans hb1⟩)
end Go.Proofs.YtpmgndgkmffcnaaGreatDoor
