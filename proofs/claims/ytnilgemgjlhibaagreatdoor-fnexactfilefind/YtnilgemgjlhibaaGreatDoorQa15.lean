/- FlTextS FlReadS FlFindS FlIxO FlFindB FlFindI LawFileFind -/
import Derived.Test.YtnilgemgjlhibaaGreatDoorQa11
import Derived.Test.YtnilgemgjlhibaaGreatDoorQa14
import Derived.Test.YtnilgemgjlhibaaGreatDoorQa3
import Derived.WalkKit
import Derived.ProofKit
import Derived.OpenShut
import Derived.Below
import Derived.WalkSmall
import Derived.BigQuiet
import Derived.Deep.QuietTactic
import Derived.Deep.RegionWith
import Derived.Handy
import Derived.Test.YtnilgemgjlhibaaGreatDoorQa13
import Derived.Test.YtnilgemgjlhibaaGreatDoorQa4
open List (setIfInBounds_toArray set_cons_zero set_cons_succ)
namespace Go.Proofs.YtnilgemgjlhibaaGreatDoor
open Go.ChangeShapes Go.WideShapes Go.ChangeAt Go.RowKit Go.PlainAid
set_option linter.unusedVariables false
theorem idx_succ (l : List Ser) (k : Nat) : txt (idxB l k) ++ txt (vF 6 (sAt l k).key.size) ++ (sAt l k).key ++ txt (vF 6 (atB l k)) ++ txt (vF 6 (showB (sAt l k).pts).size) ++ txt (vF 6 (fT l k)) ++ txt (vF 6 (lT l k)) = txt (idxB l (k + 1)) := by
 conv => lhs; arg 1; arg 1; arg 1; arg 1; arg 2; rw [← txt_bl (sAt l k).key]
 simp only [txt_cat]
 congr 1
 unfold idxB
 rw [cat_succ]
 unfold spB blkB
 rw [bl_length]
 simp only [List.append_assoc]
theorem idx_size {l : List Ser} (h : SOk l) (k : Nat) (hk : k ≤ l.length) : (txt (idxB l k)).size ≤ 215 := by
 have h2 := idxB_length h k hk
 have := h.1
 rw [txt_size]
 omega
set_option maxHeartbeats 4000000 in
theorem specFileText (l : List Ser) (v : Value) (w : World) (B : Nat) (hv : SerV w B v l) (hn : SShort l) (hf : ∀ x ∈ l, x.key.size ≤ maxLen) (hB : B ≤ w.heap.size) : Calls Tryz.prog 14 #[v] w fun e w' => e = .returned (.string (fileT l)) ∧ Below w.heap.size w w' := by
 have c1 := specSeriesOk l v w B hv hn hf hB
 obtain ⟨A, cap, rfl, hl⟩ := hv.look
 have HV0 : Hid (SerV w B (.slice A l.length cap) l) := hv
 have HL : Hid (∀ j, j < l.length → ∃ g off u, A = some ⟨g, off, none⟩ ∧ g < B ∧ w.cell? ⟨g, off + j * 2, none⟩ = some (.string (sAt l j).key) ∧ w.cell? ⟨g, off + j * 2 + 1, none⟩ = some u ∧ Lies w B 2 u (ptR (sAt l j).pts)) := hl
 have HB : Hid (B ≤ w.heap.size) := hB
 have q0 : (l.length : Int) ≤ 1048576 := by have := hn.1; omega
 clear hl hn hv hB hf
 by_cases hok : ¬ SOk l
 ·have HE : Hid (fileT l = ⟨#[]⟩) := fileT_no (fun hh => hok hh.2)
  rw [decide_eq_false hok] at c1
  clear hok
  go_enter Tryz.func14, Tryz.ntmps14
  go_wp2_with fail
  refine c1.mono ?_
  rintro e w1 ⟨rfl, hL⟩
  have hb1 := hL.below
  clear hL
  go_wp2_with fail
  go_ret
  exact ⟨by rw [HE.out]; rfl, hb1⟩
 have HK : Hid (SOk l) := (Decidable.not_not (p := SOk l)).1 hok
 rw [decide_eq_true HK.out] at c1
 by_cases h0 : l.length = 0
 ·have HE : Hid (fileT l = ⟨#[]⟩) := fileT_no (fun hh => by omega)
  rw [h0] at c1 ⊢
  clear hok h0 q0 HV0
  go_enter Tryz.func14, Tryz.ntmps14
  go_wp2_with fail
  refine c1.mono ?_
  rintro e w1 ⟨rfl, hL⟩
  have hb1 := hL.below
  clear hL
  go_wp2_with fail
  go_ret
  exact ⟨by rw [HE.out]; rfl, hb1⟩
 have d0 : ((l.length : Int) == 0) = false := by rw [beq_eq_false_iff_ne]; omega
 have d1 : decide ((l.length : Int) = 0) = false := decide_eq_false (by omega)
 have HE : Hid (fileT l = txt (fileB l)) := fileT_yes ⟨by omega, HK.out⟩
 have q1 : (l.length : Int) ≤ 5 := by have := HK.out.1; omega
 clear hok h0
 generalize hN : l.length = n at *
 have HN : Hid (l.length = n) := hN
 clear hN
 go_enter Tryz.func14, Tryz.ntmps14
 go_wp2_with fail
 refine c1.mono ?_
 rintro e w1 ⟨rfl, hL⟩
 have B1 : Hid (Below w.heap.size w w1) := hL.below
 clear hL c1
 go_wp2_with fail
 go_loopw [3, 4, 5] (fun v3 v4 v5 wr => ∃ k : Nat, k ≤ n ∧ v5 = .int .i64 (k : Int) ∧ v3 = .string (txt (upB l k)) ∧ v4 = .string (txt (idxB l k)) ∧ Below w.heap.size w wr) (fun _ _ i _ => n - (intOf i).toNat)
 case atStart => exact ⟨0, by omega, rfl, rfl, rfl, B1.out⟩
 case round =>
  obtain ⟨k, hk, rfl, rfl, rfl, hb⟩ := hrel
  have HB1 : Hid (Below w.heap.size w wr) := hb
  clear hb
  by_cases hlt : k < n
  ·have q4 : (k : Int) < (n : Int) := by omega
   obtain ⟨gs, off, us, rfl, hg, f1, f2, hu⟩ := HL.out k hlt
   have hgw : gs < w.heap.size := Nat.lt_of_lt_of_le hg HB.out
   obtain ⟨A', cap', rfl, hpl⟩ := pt_look hu
   have hsk := HK.out.2 k (by have := HN.out; omega)
   obtain ⟨gp, offp, rfl, hgp, hf0, _⟩ := hpl 0 (by have := hsk.2.1; omega)
   obtain ⟨gp', offp', e', _, hf1, _⟩ := hpl ((sAt l k).pts.length - 1) (by have := hsk.2.1; omega)
   cases e'
   rw [show offp + 0 * 2 = offp by omega] at hf0
   have HGW : Hid (gs < w.heap.size ∧ gp < w.heap.size) := ⟨hgw, Nat.lt_of_lt_of_le hgp HB.out⟩
   have htm := HK.out.times k (by have := HN.out; omega)
   have e0' : tAt (sAt l k).pts 0 = (fT l k : Int) := by unfold fT; omega
   have e1' : tAt (sAt l k).pts ((sAt l k).pts.length - 1) = (lT l k : Int) := by unfold lT; omega
   change w.cell? ⟨gp, offp, none⟩ = some (.int .i64 (tAt (sAt l k).pts 0)) at hf0
   change w.cell? ⟨gp, offp + ((sAt l k).pts.length - 1) * 2, none⟩ = some (.int .i64 (tAt (sAt l k).pts ((sAt l k).pts.length - 1))) at hf1
   rw [e0'] at hf0
   rw [e1'] at hf1
   have HU : Hid (Lies w B 2 (.slice (some ⟨gp, offp, none⟩) (sAt l k).pts.length cap') (ptR (sAt l k).pts)) := hu
   have g2 := (HB1.out.cell (p := ⟨gs, off + k * 2 + 1, none⟩) hgw).trans f2
   obtain ⟨n1, n2, n3, n4, n5⟩ := nums_le HK.out k (by have := HN.out; omega)
   have hz : ∀ n, (txt (vF 6 n)).size ≤ 7 := fun n => by rw [txt_size]; exact vF_length 6 n
   have z1 := hz (sAt l k).key.size
   have z2 := hz (atB l k)
   have z3 := hz (showB (sAt l k).pts).size
   have z4 := hz (fT l k)
   have z5 := hz (lT l k)
   have z6 := idx_size HK.out k (by have := HN.out; omega)
   have z7 := (HK.out.key k (by have := HN.out; omega)).2
   have z8 := showB_size (sAt l k).pts
   have z9 := atB_le HK.out k (by have := HN.out; omega)
   have s1 := upB_size l k
   have HI : Hid (txt (idxB l k) ++ txt (vF 6 (sAt l k).key.size) ++ (sAt l k).key ++ txt (vF 6 (atB l k)) ++ txt (vF 6 (showB (sAt l k).pts).size) ++ txt (vF 6 (fT l k)) ++ txt (vF 6 (lT l k)) = txt (idxB l (k + 1))) := idx_succ l k
   have HSu : Hid (txt (upB l k) ++ showB (sAt l k).pts = txt (upB l (k + 1))) := upB_succ l k
   have c1 := fun wx => spec_var (sAt l k).key.size wx n1
   have c2 := fun wx => spec_var (atB l k) wx n2
   have c3 := fun wx => spec_var (showB (sAt l k).pts).size wx (by omega)
   have c4 := fun wx => spec_var (fT l k) wx n4
   have c5 := fun wx => spec_var (lT l k) wx n5
   have HPn : Hid ((sAt l k).pts.length ≤ 60 ∧ 1 ≤ (sAt l k).pts.length) := ⟨hsk.2.2.1, hsk.2.1⟩
   clear hu hpl hsk htm e0' e1' hz n1 n2 n3 n4 n5 hgw hg hgp f2
   generalize fT l k = t0 at *
   generalize lT l k = t1 at *
   generalize hx : sAt l k = x at *
   clear hx
   obtain ⟨xk, xp⟩ := x
   simp only at *
   have SW : Hid (w.cell? ⟨gs, off + k * 2, none⟩ = some (.string xk) ∧ w.cell? ⟨gp, offp, none⟩ = some (.int .i64 (t0 : Int)) ∧ w.cell? ⟨gp, offp + (xp.length - 1) * 2, none⟩ = some (.int .i64 (t1 : Int))) := ⟨f1, hf0, hf1⟩
   clear f1 hf0 hf1
   have cs := specShowBlock xp (.slice (some ⟨gp, offp, none⟩) xp.length cap') wr B (HU.out.on (HB1.out.mono HB.out)) (by have := HPn.out; omega) (Nat.le_trans HB.out HB1.out.size)
   generalize hpn : xp.length = pn at *
   clear hpn
   generalize hsb : showB xp = sb at *
   generalize hw0 : txt (idxB l k) = ix at *
   generalize hw1 : txt (vF 6 xk.size) = y1 at *
   generalize hw3 : txt (vF 6 sb.size) = y3 at *
   generalize hw4 : txt (vF 6 t0) = y4 at *
   generalize hw5 : txt (vF 6 t1) = y5 at *
   generalize hw6 : txt (upB l k) = up at *
   rw [← s1] at c2 z2 HI z9
   clear s1
   generalize hw2 : txt (vF 6 up.size) = y2 at *
   clear hw0 hw1 hw2 hw3 hw4 hw5 hw6 hsb
   go_wp2_with fail
   refine cs.mono ?_
   rintro e Y0 ⟨rfl, hb0⟩
   have D0 : Hid (Below w.heap.size w Y0.drew) := (HB1.out.trans (hb0.mono HB1.out.size)).drew
   clear hb0 g2 cs
   have S0 : Hid (Y0.drew.cell? ⟨gs, off + k * 2, none⟩ = some (.string xk) ∧ Y0.drew.cell? ⟨gp, offp, none⟩ = some (.int .i64 (t0 : Int)) ∧ Y0.drew.cell? ⟨gp, offp + (pn - 1) * 2, none⟩ = some (.int .i64 (t1 : Int))) := ⟨(D0.out.cell (p := ⟨_, _, none⟩) HGW.out.1).trans SW.out.1, (D0.out.cell (p := ⟨_, _, none⟩) HGW.out.2).trans SW.out.2.1, (D0.out.cell (p := ⟨_, _, none⟩) HGW.out.2).trans SW.out.2.2⟩
   have q3 : (1 : Int) ≤ (pn : Int) := by have := HPn.out; omega
   have q7 : (pn : Int) ≤ 60 := by have := HPn.out; omega
   have e3 : ((pn : Int) - 1).toNat = pn - 1 := by omega
   have e9 : IntKind.i64.wrap ((pn : Int) - 1) = (pn : Int) - 1 := by rw [IntKind.wrap_i64]; omega
   have e5 : (pn : Int) - 1 < (pn : Int) := by omega
   have q6 : (0 : Int) < (pn : Int) := by omega
   have q8 : 0 < pn := by omega
   have a1 : ¬ 9223372036854775807 < ix.size + y1.size := by omega
   have a2 : ¬ 9223372036854775807 < ix.size + y1.size + xk.size := by omega
   have a3 : ¬ 9223372036854775807 < ix.size + y1.size + xk.size + y2.size := by omega
   have a4 : ¬ 9223372036854775807 < ix.size + y1.size + xk.size + y2.size + y3.size := by omega
   have a5 : ¬ 9223372036854775807 < ix.size + y1.size + xk.size + y2.size + y3.size + y4.size := by omega
   have a6 : ¬ 9223372036854775807 < ix.size + y1.size + xk.size + y2.size + y3.size + y4.size + y5.size := by omega
   have a7 : (up.size : Int) + (sb.size : Int) ≤ 9223372036854775807 := by omega
   have a8 : ¬ 9223372036854775807 < up.size + sb.size := by omega
   go_wp2_with fail
   refine wp_region_until (fun w' => w'.cell? ⟨gs, off + k * 2, none⟩ = some (.string xk) ∧ w'.cell? ⟨gp, offp, none⟩ = some (.int .i64 (t0 : Int)) ∧ w'.cell? ⟨gp, offp + (pn - 1) * 2, none⟩ = some (.int .i64 (t1 : Int))) (fun _ => false) 39 (by rfl) (by kernel_rfl) ?_
   refine until_take 0 (v := ?_) (by rfl) (by kernel_rfl) (by exact fun _ _ _ h => h) (by rfl) ?_ S0.out ?_
   rotate_left
   ·intro w hSw
    try dsimp only at hSw
    go_simp
    try with_reducible rfl
   try simp only [Act.put, setIfInBounds_toArray, set_cons_zero, set_cons_succ]
   refine until_take 1 (v := ?_) (by rfl) (by kernel_rfl) (by exact fun _ _ _ h => h) (by rfl) ?_ S0.out ?_
   rotate_left
   ·intro w hSw
    try dsimp only at hSw
    go_simp
    try with_reducible rfl
   try simp only [Act.put, setIfInBounds_toArray, set_cons_zero, set_cons_succ]
   refine until_take 2 (v := ?_) (by rfl) (by kernel_rfl) (by exact fun _ _ _ h => h) (by rfl) ?_ S0.out ?_
   rotate_left
   ·intro w hSw
    try dsimp only at hSw
    go_simp
    try with_reducible rfl
   try simp only [Act.put, setIfInBounds_toArray, set_cons_zero, set_cons_succ]
   refine until_take 3 (v := ?_) (by rfl) (by kernel_rfl) (by exact fun _ _ _ h => h) (by rfl) ?_ S0.out ?_
   rotate_left
   ·intro w hSw
    try dsimp only at hSw
    go_simp
    try with_reducible rfl
   try simp only [Act.put, setIfInBounds_toArray, set_cons_zero, set_cons_succ]
   refine until_take 4 (v := ?_) (by rfl) (by kernel_rfl) (by exact fun _ _ _ h => h) (by rfl) ?_ S0.out ?_
   rotate_left
   ·intro w hSw
    try dsimp only at hSw
    go_simp
    try with_reducible rfl
   try simp only [Act.put, setIfInBounds_toArray, set_cons_zero, set_cons_succ]
   refine until_take 5 (v := ?_) (by rfl) (by kernel_rfl) (by exact fun _ _ _ h => h) (by rfl) ?_ S0.out ?_
   rotate_left
   ·intro w hSw
    try dsimp only at hSw
    go_simp
    try with_reducible rfl
   try simp only [Act.put, setIfInBounds_toArray, set_cons_zero, set_cons_succ]
   refine until_take 6 (v := ?_) (by rfl) (by kernel_rfl) (by exact fun _ _ _ h => h) (by rfl) ?_ S0.out ?_
   rotate_left
   ·intro w hSw
    try dsimp only at hSw
    go_simp
    try with_reducible rfl
   try simp only [Act.put, setIfInBounds_toArray, set_cons_zero, set_cons_succ]
   refine until_take 9 (v := ?_) (by rfl) (by kernel_rfl) (by exact fun _ _ _ h => h) (by rfl) ?_ S0.out ?_
   rotate_left
   ·intro w hSw
    try dsimp only at hSw
    go_simp
    try with_reducible rfl
   try simp only [Act.put, setIfInBounds_toArray, set_cons_zero, set_cons_succ]
   refine until_take 10 (v := ?_) (by rfl) (by kernel_rfl) (by exact fun _ _ _ h => h) (by rfl) ?_ S0.out ?_
   rotate_left
   ·intro w hSw
    try dsimp only at hSw
    go_simp
    try with_reducible rfl
   try simp only [Act.put, setIfInBounds_toArray, set_cons_zero, set_cons_succ]
   refine until_take 11 (v := ?_) (by rfl) (by kernel_rfl) (by exact fun _ _ _ h => h) (by rfl) ?_ S0.out ?_
   rotate_left
   ·intro w hSw
    try dsimp only at hSw
    go_simp
    try with_reducible rfl
   try simp only [Act.put, setIfInBounds_toArray, set_cons_zero, set_cons_succ]
   refine until_take 12 (v := ?_) (by rfl) (by kernel_rfl) (by exact fun _ _ _ h => h) (by rfl) ?_ S0.out ?_
   rotate_left
   ·intro w hSw
    try dsimp only at hSw
    go_simp
    try with_reducible rfl
   try simp only [Act.put, setIfInBounds_toArray, set_cons_zero, set_cons_succ]
   refine until_take 13 (v := ?_) (by rfl) (by kernel_rfl) (by exact fun _ _ _ h => h) (by rfl) ?_ S0.out ?_
   rotate_left
   ·intro w hSw
    try dsimp only at hSw
    go_simp
    try with_reducible rfl
   try simp only [Act.put, setIfInBounds_toArray, set_cons_zero, set_cons_succ]
   refine until_take 15 (v := ?_) (by rfl) (by kernel_rfl) (by exact fun _ _ _ h => h) (by rfl) ?_ S0.out ?_
   rotate_left
   ·intro w hSw
    try dsimp only at hSw
    go_simp
    try with_reducible rfl
   try simp only [Act.put, setIfInBounds_toArray, set_cons_zero, set_cons_succ]
   refine until_take 16 (v := ?_) (by rfl) (by kernel_rfl) (by exact fun _ _ _ h => h) (by rfl) ?_ S0.out ?_
   rotate_left
   ·intro w hSw
    try dsimp only at hSw
    go_simp
    try with_reducible rfl
   try simp only [Act.put, setIfInBounds_toArray, set_cons_zero, set_cons_succ]
   refine until_take 19 (v := ?_) (by rfl) (by kernel_rfl) (by exact fun _ _ _ h => h) (by rfl) ?_ S0.out ?_
   rotate_left
   ·intro w hSw
    try dsimp only at hSw
    go_simp
    try with_reducible rfl
   try simp only [Act.put, setIfInBounds_toArray, set_cons_zero, set_cons_succ]
   refine until_take 20 (v := ?_) (by rfl) (by kernel_rfl) (by exact fun _ _ _ h => h) (by rfl) ?_ S0.out ?_
   rotate_left
   ·intro w hSw
    try dsimp only at hSw
    go_simp
    try with_reducible rfl
   try simp only [Act.put, setIfInBounds_toArray, set_cons_zero, set_cons_succ]
   refine until_take 23 (v := ?_) (by rfl) (by kernel_rfl) (by exact fun _ _ _ h => h) (by rfl) ?_ S0.out ?_
   rotate_left
   ·intro w hSw
    try dsimp only at hSw
    go_simp
    try with_reducible rfl
   try simp only [Act.put, setIfInBounds_toArray, set_cons_zero, set_cons_succ]
   refine until_take 24 (v := ?_) (by rfl) (by kernel_rfl) (by exact fun _ _ _ h => h) (by rfl) ?_ S0.out ?_
   rotate_left
   ·intro w hSw
    try dsimp only at hSw
    go_simp
    try with_reducible rfl
   try simp only [Act.put, setIfInBounds_toArray, set_cons_zero, set_cons_succ]
   refine until_take 25 (v := ?_) (by rfl) (by kernel_rfl) (by exact fun _ _ _ h => h) (by rfl) ?_ S0.out ?_
   rotate_left
   ·intro w hSw
    try dsimp only at hSw
    go_simp
    try with_reducible rfl
   try simp only [Act.put, setIfInBounds_toArray, set_cons_zero, set_cons_succ]
   refine until_take 26 (v := ?_) (by rfl) (by kernel_rfl) (by exact fun _ _ _ h => h) (by rfl) ?_ S0.out ?_
   rotate_left
   ·intro w hSw
    try dsimp only at hSw
    go_simp
    try with_reducible rfl
   try simp only [Act.put, setIfInBounds_toArray, set_cons_zero, set_cons_succ]
   refine until_take 29 (v := ?_) (by rfl) (by kernel_rfl) (by exact fun _ _ _ h => h) (by rfl) ?_ S0.out ?_
   rotate_left
   ·intro w hSw
    try dsimp only at hSw
    go_simp
    try with_reducible rfl
   try simp only [Act.put, setIfInBounds_toArray, set_cons_zero, set_cons_succ]
   refine until_take 30 (v := ?_) (by rfl) (by kernel_rfl) (by exact fun _ _ _ h => h) (by rfl) ?_ S0.out ?_
   rotate_left
   ·intro w hSw
    try dsimp only at hSw
    go_simp
    try with_reducible rfl
   try simp only [Act.put, setIfInBounds_toArray, set_cons_zero, set_cons_succ]
   refine until_take 31 (v := ?_) (by rfl) (by kernel_rfl) (by exact fun _ _ _ h => h) (by rfl) ?_ S0.out ?_
   rotate_left
   ·intro w hSw
    try dsimp only at hSw
    go_simp
    try with_reducible rfl
   try simp only [Act.put, setIfInBounds_toArray, set_cons_zero, set_cons_succ]
   refine until_take 32 (v := .int .i64 ((pn : Int) - 1)) (by rfl) (by kernel_rfl) (by exact fun _ _ _ h => h) (by rfl) ?_ S0.out ?_
   ·intro w hSw
    try dsimp only at hSw
    go_simp
    try rw [e9]
   try simp only [Act.put, setIfInBounds_toArray, set_cons_zero, set_cons_succ]
   refine until_take 33 (v := ?_) (by rfl) (by kernel_rfl) (by exact fun _ _ _ h => h) (by rfl) ?_ S0.out ?_
   rotate_left
   ·intro w hSw
    try dsimp only at hSw
    go_simp
    try with_reducible rfl
   try simp only [Act.put, setIfInBounds_toArray, set_cons_zero, set_cons_succ]
   refine until_take 34 (v := ?_) (by rfl) (by kernel_rfl) (by exact fun _ _ _ h => h) (by rfl) ?_ S0.out ?_
   rotate_left
   ·intro w hSw
    try dsimp only at hSw
    go_simp
    try with_reducible rfl
   try simp only [Act.put, setIfInBounds_toArray, set_cons_zero, set_cons_succ]
   refine until_take 35 (v := ?_) (by rfl) (by kernel_rfl) (by exact fun _ _ _ h => h) (by rfl) ?_ S0.out ?_
   rotate_left
   ·intro w hSw
    try dsimp only at hSw
    go_simp
    try with_reducible rfl
   try simp only [Act.put, setIfInBounds_toArray, set_cons_zero, set_cons_succ]
   refine until_one 7 (by rfl) (by kernel_rfl) (fun K hK => ?_)
   go_simp
   refine (c1 _).mono ?_
   rintro e Y1 ⟨rfl, hb1⟩
   have D1 : Hid (Below w.heap.size w Y1) := D0.out.trans (hb1.mono D0.out.size)
   have S1 : Hid (Y1.cell? ⟨gs, off + k * 2, none⟩ = some (.string xk) ∧ Y1.cell? ⟨gp, offp, none⟩ = some (.int .i64 (t0 : Int)) ∧ Y1.cell? ⟨gp, offp + (pn - 1) * 2, none⟩ = some (.int .i64 (t1 : Int))) := ⟨(D1.out.cell (p := ⟨_, _, none⟩) HGW.out.1).trans SW.out.1, (D1.out.cell (p := ⟨_, _, none⟩) HGW.out.2).trans SW.out.2.1, (D1.out.cell (p := ⟨_, _, none⟩) HGW.out.2).trans SW.out.2.2⟩
   clear hb1
   go_wp2_with fail
   refine hK.out _ _ (fun _ _ => S1.out) ?_
   clear hK K
   try simp only [Act.put, setIfInBounds_toArray, set_cons_zero, set_cons_succ]
   refine until_pure 8 (v := ?_) (by rfl) (by kernel_rfl) (by exact fun _ _ _ h => h) (by rfl) ?_ ?_
   rotate_left
   ·intro w
    go_simp
    try with_reducible rfl
   try simp only [Act.put, setIfInBounds_toArray, set_cons_zero, set_cons_succ]
   refine until_pure 14 (v := ?_) (by rfl) (by kernel_rfl) (by exact fun _ _ _ h => h) (by rfl) ?_ ?_
   rotate_left
   ·intro w
    go_simp
    try with_reducible rfl
   try simp only [Act.put, setIfInBounds_toArray, set_cons_zero, set_cons_succ]
   refine until_one 17 (by rfl) (by kernel_rfl) (fun K hK => ?_)
   go_simp
   refine (c2 _).mono ?_
   rintro e Y2 ⟨rfl, hb2⟩
   have D2 : Hid (Below w.heap.size w Y2) := D1.out.trans (hb2.mono D1.out.size)
   have S2 : Hid (Y2.cell? ⟨gs, off + k * 2, none⟩ = some (.string xk) ∧ Y2.cell? ⟨gp, offp, none⟩ = some (.int .i64 (t0 : Int)) ∧ Y2.cell? ⟨gp, offp + (pn - 1) * 2, none⟩ = some (.int .i64 (t1 : Int))) := ⟨(D2.out.cell (p := ⟨_, _, none⟩) HGW.out.1).trans SW.out.1, (D2.out.cell (p := ⟨_, _, none⟩) HGW.out.2).trans SW.out.2.1, (D2.out.cell (p := ⟨_, _, none⟩) HGW.out.2).trans SW.out.2.2⟩
   clear hb2
   go_wp2_with fail
   refine hK.out _ _ (fun _ _ => S2.out) ?_
   clear hK K
   try simp only [Act.put, setIfInBounds_toArray, set_cons_zero, set_cons_succ]
   refine until_pure 18 (v := ?_) (by rfl) (by kernel_rfl) (by exact fun _ _ _ h => h) (by rfl) ?_ ?_
   rotate_left
   ·intro w
    go_simp
    try with_reducible rfl
   try simp only [Act.put, setIfInBounds_toArray, set_cons_zero, set_cons_succ]
   refine until_one 21 (by rfl) (by kernel_rfl) (fun K hK => ?_)
   go_simp
   refine (c3 _).mono ?_
   rintro e Y3 ⟨rfl, hb3⟩
   have D3 : Hid (Below w.heap.size w Y3) := D2.out.trans (hb3.mono D2.out.size)
   have S3 : Hid (Y3.cell? ⟨gs, off + k * 2, none⟩ = some (.string xk) ∧ Y3.cell? ⟨gp, offp, none⟩ = some (.int .i64 (t0 : Int)) ∧ Y3.cell? ⟨gp, offp + (pn - 1) * 2, none⟩ = some (.int .i64 (t1 : Int))) := ⟨(D3.out.cell (p := ⟨_, _, none⟩) HGW.out.1).trans SW.out.1, (D3.out.cell (p := ⟨_, _, none⟩) HGW.out.2).trans SW.out.2.1, (D3.out.cell (p := ⟨_, _, none⟩) HGW.out.2).trans SW.out.2.2⟩
   clear hb3
   go_wp2_with fail
   refine hK.out _ _ (fun _ _ => S3.out) ?_
   clear hK K
   try simp only [Act.put, setIfInBounds_toArray, set_cons_zero, set_cons_succ]
   refine until_pure 22 (v := ?_) (by rfl) (by kernel_rfl) (by exact fun _ _ _ h => h) (by rfl) ?_ ?_
   rotate_left
   ·intro w
    go_simp
    try with_reducible rfl
   try simp only [Act.put, setIfInBounds_toArray, set_cons_zero, set_cons_succ]
   refine until_one 27 (by rfl) (by kernel_rfl) (fun K hK => ?_)
   go_simp
   refine (c4 _).mono ?_
   rintro e Y4 ⟨rfl, hb4⟩
   have D4 : Hid (Below w.heap.size w Y4) := D3.out.trans (hb4.mono D3.out.size)
   have S4 : Hid (Y4.cell? ⟨gs, off + k * 2, none⟩ = some (.string xk) ∧ Y4.cell? ⟨gp, offp, none⟩ = some (.int .i64 (t0 : Int)) ∧ Y4.cell? ⟨gp, offp + (pn - 1) * 2, none⟩ = some (.int .i64 (t1 : Int))) := ⟨(D4.out.cell (p := ⟨_, _, none⟩) HGW.out.1).trans SW.out.1, (D4.out.cell (p := ⟨_, _, none⟩) HGW.out.2).trans SW.out.2.1, (D4.out.cell (p := ⟨_, _, none⟩) HGW.out.2).trans SW.out.2.2⟩
   clear hb4
   go_wp2_with fail
   refine hK.out _ _ (fun _ _ => S4.out) ?_
   clear hK K
   try simp only [Act.put, setIfInBounds_toArray, set_cons_zero, set_cons_succ]
   refine until_pure 28 (v := ?_) (by rfl) (by kernel_rfl) (by exact fun _ _ _ h => h) (by rfl) ?_ ?_
   rotate_left
   ·intro w
    go_simp
    try with_reducible rfl
   try simp only [Act.put, setIfInBounds_toArray, set_cons_zero, set_cons_succ]
   refine until_one 36 (by rfl) (by kernel_rfl) (fun K hK => ?_)
   go_simp
   refine (c5 _).mono ?_
   rintro e Y5 ⟨rfl, hb5⟩
   have D5 : Hid (Below w.heap.size w Y5) := D4.out.trans (hb5.mono D4.out.size)
   have S5 : Hid (Y5.cell? ⟨gs, off + k * 2, none⟩ = some (.string xk) ∧ Y5.cell? ⟨gp, offp, none⟩ = some (.int .i64 (t0 : Int)) ∧ Y5.cell? ⟨gp, offp + (pn - 1) * 2, none⟩ = some (.int .i64 (t1 : Int))) := ⟨(D5.out.cell (p := ⟨_, _, none⟩) HGW.out.1).trans SW.out.1, (D5.out.cell (p := ⟨_, _, none⟩) HGW.out.2).trans SW.out.2.1, (D5.out.cell (p := ⟨_, _, none⟩) HGW.out.2).trans SW.out.2.2⟩
   clear hb5
   go_wp2_with fail
   refine hK.out _ _ (fun _ _ => S5.out) ?_
   clear hK K
   try simp only [Act.put, setIfInBounds_toArray, set_cons_zero, set_cons_succ]
   refine until_pure 37 (v := ?_) (by rfl) (by kernel_rfl) (by exact fun _ _ _ h => h) (by rfl) ?_ ?_
   rotate_left
   ·intro w
    go_simp
    try with_reducible rfl
   try simp only [Act.put, setIfInBounds_toArray, set_cons_zero, set_cons_succ]
   refine until_pure 38 (v := ?_) (by rfl) (by kernel_rfl) (by exact fun _ _ _ h => h) (by rfl) ?_ ?_
   rotate_left
   ·intro w
    go_simp
    try with_reducible rfl
   try simp only [Act.put, setIfInBounds_toArray, set_cons_zero, set_cons_succ]
   refine until_done (by kernel_rfl) ?_ _
   go_wp2_with fail
   go_roundw
   case rel => exact ⟨k + 1, by omega, by go_num, by rw [HSu.out], by rw [HI.out], D5.out⟩
   case measure => simp [intOf]; omega
  ·obtain rfl : k = n := by omega
   have HF4 : Hid (txt (upB l k) ++ txt (idxB l k) ++ fixed (txt (upB l k)).size 4 = txt (bodyF l)) := by
    have := body_four HK.out
    rw [HN.out] at this
    unfold Hid
    rw [← this, upB_size, txt_cat]
    unfold upB upI
    rw [List.append_assoc, HN.out]
   have HF8 : Hid (txt (bodyF l) ++ fixed (crc (txt (bodyF l))) 4 = txt (fileB l)) := file_four l
   have s1 := upB_size l k
   have s2 := idx_size HK.out k (by have := HN.out; omega)
   have s3 := atB_le HK.out k (by have := HN.out; omega)
   have s4 := bodyF_size HK.out
   have HC32 := crc_lt (txt (bodyF l))
   have z4 := four_small (txt (upB l k)).size
   have z8 := four_small (crc (txt (bodyF l)))
   have f4 := fun wx => spec_fixed (txt (upB l k)).size 4 wx (by omega) (by omega) (by omega)
   have f8 := fun wx => spec_fixed (crc (txt (bodyF l))) 4 wx (by omega) (by omega) (by omega)
   have cc := fun wx => spec_crc (txt (bodyF l)) wx (by omega)
   have hup : (txt (upB l k)).size ≤ 4504 := by rw [s1]; exact s3
   clear s1
   generalize hw6 : txt (upB l k) = up at *
   generalize hw0 : txt (idxB l k) = ix at *
   generalize hw1 : fixed up.size 4 = y1 at *
   generalize hb : txt (bodyF l) = bo at *
   generalize hw2 : fixed (crc bo) 4 = y2 at *
   generalize crc bo = cb at *
   clear hw6 hw0 hw1 hw2 hb
   have a1 : (up.size : Int) + (ix.size : Int) ≤ 9223372036854775807 := by omega
   have a2 : (up.size : Int) + (ix.size : Int) + (y1.size : Int) ≤ 9223372036854775807 := by omega
   have a3 : (bo.size : Int) + (y2.size : Int) ≤ 9223372036854775807 := by omega
   have HF4' := HF4.out
   go_wp2_with fail
   refine (f4 _).mono ?_
   rintro e Y1 ⟨rfl, hb1⟩
   have BY1 : Hid (Below w.heap.size w Y1) := HB1.out.trans (hb1.mono HB1.out.size)
   clear hb1
   go_wp2_with fail
   try rw [HF4']
   refine (cc _).mono ?_
   rintro e w' ⟨rfl, rfl⟩
   go_wp2_with fail
   refine (f8 _).mono ?_
   rintro e Y3 ⟨rfl, hb3⟩
   have BY3 : Hid (Below w.heap.size w Y3) := BY1.out.trans (hb3.mono BY1.out.size)
   clear hb3
   go_wp2_with fail
   go_ret
   refine ⟨?_, BY3.out⟩
   rw [HE.out, ← HF8.out]
   first | rfl | (rw [← HF4.out]; rfl)
end Go.Proofs.YtnilgemgjlhibaaGreatDoor
namespace Go.Proofs.YtnilgemgjlhibaaGreatDoor
open Go.ChangeShapes Go.WideShapes Go.ChangeAt Go.RowKit Go.PlainAid
set_option linter.unusedVariables false
theorem LKey.short {s : ByteArray} {L : List (Ser × Value)} (h : LKey s L) : SShort (L.map Prod.fst) := by
 refine ⟨by rw [List.length_map]; have := h.1; omega, fun x hx => ?_⟩
 obtain ⟨q, hq, rfl⟩ := List.mem_map.1 hx
 have := (h.2 q hq).1
 omega
theorem LKey.keys {s : ByteArray} {L : List (Ser × Value)} (h : LKey s L) (hs : s.size ≤ 1048576) : ∀ x ∈ L.map Prod.fst, x.key.size ≤ maxLen := by
 intro x hx
 obtain ⟨q, hq, rfl⟩ := List.mem_map.1 hx
 have := (h.2 q hq).2
 unfold maxLen
 omega
theorem rfs_no {s : ByteArray} {l : List Ser} (h : ∀ m, GoodF s m → l = m) (hne : fileT l ≠ s) : RfAns s [] false := .inr ⟨rfl, rfl, fun m hm => hne (by rw [h m hm]; exact hm.2.2)⟩
theorem rfs_yes {s : ByteArray} {l : List Ser} (h12 : 12 ≤ s.size) (he : fileT l = s) : RfAns s l true := by
 refine .inl ⟨rfl, GoodF.of ?_ (by omega) he⟩
 rcases Nat.eq_zero_or_pos l.length with h | h
 ·exfalso
  rw [fileT, if_neg (fun hh => by omega)] at he
  rw [← he, txt_size] at h12
  simp at h12
 ·exact h
set_option maxHeartbeats 2000000 in
theorem specReadFile (s : ByteArray) (w : World) (hs : s.size ≤ 1048576) : Calls Tryz.prog 9 #[.string s] w fun e w' => (∃ u L ok, RfAns s (L.map Prod.fst) ok ∧ e = .returned (.tuple #[u, .bool ok]) ∧ SerO w' w.heap.size u L) ∧ Below w.heap.size w w' := by
 have HS : Hid (s.size ≤ 1048576) := hs
 have c1 := specIndex s w hs
 clear hs
 go_enter Tryz.func9, Tryz.ntmps9
 go_wp2_with fail
 refine c1.mono ?_
 rintro e X1 ⟨⟨u, L, ok, rfl, hO, hK, hG, h12⟩, hb⟩
 have HO : Hid (SerO X1 w.heap.size u L) := hO
 have HK : Hid (LKey s L) := hK
 have HG : Hid (∀ m, GoodF s m → ok = true ∧ L.map Prod.fst = m) := hG
 have H12 : Hid (s.size < 12 → ok = false) := h12
 have B1 : Hid (Below w.heap.size w X1) := hb
 have BE : Hid (Below w.heap.size w (X1.alloc (.cells #[] 32))) := hb.alloc hb.size _
 have OE : Hid (SerO (X1.alloc (.cells #[] 32)) w.heap.size (.slice (some ⟨X1.heap.size, 0, none⟩) 0 0) []) := ⟨Owns.empty X1 w.heap.size 32 2 hb.size, fun p hp => (by cases hp), List.Pairwise.nil⟩
 clear hO hK hG h12 hb c1
 cases ok with
 | false =>
  have HN : Hid (RfAns s [] false) := .inr ⟨rfl, rfl, fun m hm => by have := (HG.out m hm).1; cases this⟩
  go_wp2_with fail
  refine bodyPost_ret (results_tmp2 rfl _ _ _) rfl ?_
  exact ⟨⟨_, [], false, HN.out, rfl, OE.out⟩, BE.out⟩
 | true =>
 have cF := specFileText (L.map Prod.fst) u X1 X1.heap.size HO.out.view HK.out.short (HK.out.keys HS.out) (Nat.le_refl _)
 have h12 : 12 ≤ s.size := by
  rcases Nat.lt_or_ge s.size 12 with h | h
  ·have := H12.out h
   cases this
  ·exact h
 have HH : Hid (12 ≤ s.size) := h12
 clear h12 BE OE
 by_cases hEq : fileT (L.map Prod.fst) = s
 ·have HY : Hid (RfAns s (L.map Prod.fst) true) := rfs_yes HH.out hEq
  rw [hEq] at cF
  clear hEq
  go_wp2_with fail
  refine cF.mono ?_
  rintro e Y ⟨rfl, hbY⟩
  have BY : Hid (Below w.heap.size w Y) := B1.out.trans (hbY.mono B1.out.size)
  have OY : Hid (SerO Y w.heap.size u L) := HO.out.on hbY
  clear hbY cF
  go_wp2_with fail
  refine bodyPost_ret (results_tmp2 rfl _ _ _) rfl ?_
  exact ⟨⟨_, L, true, HY.out, rfl, OY.out⟩, BY.out⟩
 ·have HN : Hid (RfAns s [] false) := rfs_no (fun m hm => (HG.out m hm).2) hEq
  have hne := bytes_ne hEq
  clear hEq
  go_wp2_with fail
  refine cF.mono ?_
  rintro e Y ⟨rfl, hbY⟩
  have BE : Hid (Below w.heap.size w (Y.alloc (.cells #[] 32))) := (B1.out.trans (hbY.mono B1.out.size)).alloc (Nat.le_trans B1.out.size hbY.size) _
  have OE : Hid (SerO (Y.alloc (.cells #[] 32)) w.heap.size (.slice (some ⟨Y.heap.size, 0, none⟩) 0 0) []) := ⟨Owns.empty Y w.heap.size 32 2 (Nat.le_trans B1.out.size hbY.size), fun p hp => (by cases hp), List.Pairwise.nil⟩
  clear hbY cF
  go_wp2_with fail
  refine bodyPost_ret (results_tmp2 rfl _ _ _) rfl ?_
  exact ⟨⟨_, [], false, HN.out, rfl, OE.out⟩, BE.out⟩
end Go.Proofs.YtnilgemgjlhibaaGreatDoor
namespace Go.Proofs.YtnilgemgjlhibaaGreatDoor
open Go.ChangeShapes Go.WideShapes Go.ChangeAt Go.RowKit Go.PlainAid
set_option linter.unusedVariables false
set_option maxHeartbeats 4000000 in
theorem specFileFind (s key : ByteArray) (w : World) (hs : s.size ≤ 1048576) : Calls Tryz.prog 4 #[.string s, .string key] w fun e w' => FfOk s key w' w.heap.size e ∧ Below w.heap.size w w' := by
 have c1 := specReadFile s w hs
 clear hs
 go_enter Tryz.func4, Tryz.ntmps4
 go_wp2_with fail
 refine c1.mono ?_
 rintro e X1 ⟨⟨u1, L1, ok1, hR, rfl, hO⟩, hb⟩
 have HR : Hid (RfAns s (L1.map Prod.fst) ok1) := hR
 have B1 : Hid (Below w.heap.size w X1) := hb
 have HO : Hid (SerO X1 w.heap.size u1 L1) := hO
 have HAt : Hid (∀ j, j < L1.length → sAt (L1.map Prod.fst) j = (L1.getD j default).1) := fun j hj => by
  unfold sAt
  rw [← getD_at _ j (by rw [List.length_map]; exact hj), ← getD_at L1 j hj, List.getElem_map]
 obtain ⟨A, cap, rfl, hl⟩ := sr_look hO.lies.1
 have HL : Hid (∀ j, j < L1.length → ∃ g off, A = some ⟨g, off, none⟩ ∧ g < X1.heap.size ∧ X1.cell? ⟨g, off + j * 2, none⟩ = some (.string (L1.getD j default).1.key) ∧ X1.cell? ⟨g, off + j * 2 + 1, none⟩ = some (L1.getD j default).2) := hl
 have HN5 : Hid (L1.length ≤ 5) := by have := hR.len; rw [List.length_map] at this; exact this
 have q1 : (L1.length : Int) ≤ 5 := by have := HN5.out; omega
 clear hR hb c1 hO hl
 generalize hn : L1.length = n at *
 have HN : Hid (L1.length = n) := hn
 clear hn
 have BE : Hid (Below w.heap.size w (X1.alloc (.cells #[] 38))) := B1.out.alloc B1.out.size _
 have OE : Hid (Owns (X1.alloc (.cells #[] 38)) w.heap.size 38 2 (.slice (some ⟨X1.heap.size, 0, none⟩) 0 0) (ptR [])) := Owns.empty X1 w.heap.size 38 2 B1.out.size
 go_wp2_with fail
 go_loop [8] (fun v8 => ∃ k : Nat, k ≤ n ∧ v8 = .int .i64 (k : Int) ∧ Hid (∀ i, i < k → (L1.getD i default).1.key ≠ key)) (fun i => n - (intOf i).toNat)
 case atStart => exact ⟨0, by omega, rfl, fun i hi => by omega⟩
 case round =>
  obtain ⟨k, hk, rfl, HJ⟩ := hrel
  by_cases hlt : k < n
  ·have q4 : (k : Int) < (n : Int) := by omega
   obtain ⟨g, off, rfl, hg, e1, e2⟩ := HL.out k hlt
   have hOk := HO.out.2.1 _ (getD_mem L1 k (by rw [HN.out]; exact hlt))
   obtain ⟨Ak, nk, ck, euk⟩ := hOk.shape
   rw [euk] at e2 hOk
   have HOk : Hid (Owns X1 w.heap.size 38 2 (.slice Ak nk ck) (ptR (L1.getD k default).1.pts)) := hOk
   clear hOk
   by_cases hkey : (L1.getD k default).1.key = key
   ·have HF : Hid (FfAns s key (L1.getD k default).1.pts true) := by
     rcases HR.out with ⟨_, h⟩ | ⟨_, h, _⟩
     ·refine .inl ⟨rfl, _, k, h, by rw [List.length_map, HN.out]; exact hlt, ?_, fun i hi => ?_, ?_⟩
      ·rw [HAt.out k hlt]; exact hkey
      ·rw [HAt.out i (by omega)]; exact HJ.out i hi
      ·rw [HAt.out k hlt]
     ·have := congrArg List.length h
      rw [List.length_map, HN.out] at this
      simp at this
      omega
    rw [hkey] at e1
    clear hkey
    go_wp2_with fail
    refine bodyPost_ret (results_tmp2 rfl _ _ _) rfl ?_
    exact ⟨⟨_, _, true, rfl, HF.out, HOk.out⟩, B1.out⟩
   ·have HK : Hid ((L1.getD k default).1.key ≠ key) := hkey
    have hne := bytes_ne hkey
    clear hkey
    generalize (L1.getD k default).1.key = xk at e1 hne
    go_wp2_with fail
    go_round
    case rel =>
     refine ⟨k + 1, by omega, by go_num, fun i hi => ?_⟩
     by_cases e : i = k
     ·rw [e]; exact HK.out
     ·exact HJ.out i (by omega)
    case measure => simp [intOf]; omega
  ·obtain rfl : k = n := by omega
   have HF : Hid (FfAns s key [] false) := by
    refine .inr ⟨rfl, rfl, fun m hm j hj => ?_⟩
    rcases HR.out with ⟨_, h⟩ | ⟨_, _, h⟩
    ·obtain rfl := hm.one h
     rw [List.length_map, HN.out] at hj
     rw [HAt.out j hj]
     exact HJ.out j hj
    ·exact absurd hm (h m)
   go_wp2_with fail
   refine bodyPost_ret (results_tmp2 rfl _ _ _) rfl ?_
   exact ⟨⟨_, [], false, rfl, HF.out, OE.out⟩, BE.out⟩
end Go.Proofs.YtnilgemgjlhibaaGreatDoor
namespace Go.Proofs.YtnilgemgjlhibaaGreatDoor
open Go.ChangeShapes Go.WideShapes Go.ChangeAt Go.RowKit Go.PlainAid
set_option linter.unusedVariables false
def IxI (s : ByteArray) (P : List Spot) : Prop := (∃ m, GoodF s m ∧ P = (List.range m.length).map (spotOf m)) ∨ ((∀ m, ¬ GoodF s m) ∧ P = [])
set_option maxHeartbeats 2000000 in
theorem indexOfV (s : ByteArray) (w : World) (hs : s.size ≤ 1048576) (hst : SumTab w) (a0 a1 a2 : Addr) (he : Errs w a0 a1 a2) : Calls Tryz.prog 11 #[.string s] w fun e w' => (∃ v P, e = .returned v ∧ IxI s P ∧ Owns w' w.heap.size 41 5 v (spR P)) ∧ Below w.heap.size w w' := by
 have HS : Hid (s.size ≤ 1048576) := hs
 have c1 := implReadFile s w hs hst a0 a1 a2 he
 clear hs hst he
 go_enter Tryz.func11, Tryz.ntmps11
 go_wp2_with fail
 refine c1.mono ?_
 rintro e X1 ⟨⟨u1, L1, ok1, hR, rfl, _⟩, hb⟩
 have HR : Hid (RfAns s (L1.map Prod.fst) ok1) := hR
 have B1 : Hid (Below w.heap.size w X1) := hb
 clear hR hb c1
 cases ok1 with
 | false =>
  have HN : Hid (IxI s []) := by
   rcases HR.out with ⟨h, _⟩ | ⟨_, _, h⟩
   ·cases h
   ·exact .inr ⟨h, rfl⟩
  go_wp2_with fail
  go_ret
  exact ⟨⟨_, [], rfl, HN.out, Owns.nil _ _ _ _⟩, B1.out⟩
 | true =>
 have HY : Hid (IxI s (spots s)) := by
  rcases HR.out with ⟨_, h⟩ | ⟨h, _⟩
  ·exact .inl ⟨_, h, h.read.2⟩
  ·cases h
 have C0 : Hid (CurB (X1.alloc (.cells #[.string s, .int .i64 0] 62)) X1.heap.size s 0 62) := Blk.new X1 _ _
 have B0 : Hid (Below w.heap.size w (X1.alloc (.cells #[.string s, .int .i64 0] 62))) := B1.out.alloc B1.out.size _
 go_wp2_with fail
 refine (readerOfV s X1).mono ?_
 rintro e W1 ⟨rfl, hW1⟩
 rw [← hW1] at C0 B0
 clear hW1
 go_wp2_with fail
 refine (readIndexV s 0 X1.heap.size W1 C0.out HS.out).mono ?_
 rintro e X2 ⟨⟨u2, rfl, hO⟩, _, hk⟩
 have B2 : Hid (Below w.heap.size w X2) := B0.out.trans (hk.1.mono B1.out.size)
 have O2 : Hid (Owns X2 w.heap.size 41 5 u2 (spR (spots s))) := hO.mono B0.out.size
 clear hO hk
 go_wp2_with fail
 go_ret
 exact ⟨⟨_, _, rfl, HY.out, O2.out⟩, B2.out⟩
end Go.Proofs.YtnilgemgjlhibaaGreatDoor
namespace Go.Proofs.YtnilgemgjlhibaaGreatDoor
open Go.ChangeShapes Go.WideShapes Go.ChangeAt Go.RowKit Go.PlainAid
set_option linter.unusedVariables false
set_option maxHeartbeats 4000000 in
theorem findBlockV (s key : ByteArray) (P : List Spot) (v : Value) (w : World) (BB : Nat) (hI : IxI s P) (hO : Lies w BB 5 v (spR P)) (hBB : BB ≤ w.heap.size) (hs : s.size ≤ 1048576) (hst : SumTab w) (a0 a1 a2 : Addr) (he : Errs w a0 a1 a2) : Calls Tryz.prog 10 #[.string s, v, .string key] w fun e w' => FfOk s key w' w.heap.size e ∧ Below w.heap.size w w' := by
 have HS : Hid (s.size ≤ 1048576) := hs
 have ST : Hid (SumTab w) := hst
 have ER : Hid (Errs w a0 a1 a2) := he
 clear hs hst he
 obtain ⟨X1, hX1⟩ : ∃ X1, X1 = w := ⟨_, rfl⟩
 rw [← hX1] at hO
 have HX1 : Hid (X1 = w) := hX1
 have B1 : Hid (Below w.heap.size w X1) := by unfold Hid; rw [hX1]; exact Below.refl _ _
 obtain ⟨A, c, rfl, hl⟩ := sp_look (hO.mono (show BB ≤ X1.heap.size by rw [hX1]; exact hBB))
 clear hX1
 have HIx : Hid (IxI s P) := hI
 have HNm : Hid (∀ m, GoodF s m → P = (List.range m.length).map (spotOf m)) := fun m hm => by
  rcases hI with ⟨m', h1, h2⟩ | ⟨h1, _⟩
  ·obtain rfl := hm.one h1
   exact h2
  ·exact absurd hm (h1 m)
 have HSo : Hid (1 ≤ P.length → ∃ m, GoodF s m) := fun h => by
  rcases hI with ⟨m', h1, h2⟩ | ⟨_, h2⟩
  ·exact ⟨m', h1⟩
  ·rw [h2] at h
   simp at h
 have HN5 : Hid (P.length ≤ 5) := by
  unfold Hid
  rcases hI with ⟨m', h1, h2⟩ | ⟨_, h2⟩
  ·rw [h2, List.length_map, List.length_range]
   exact h1.2.1.1
  ·rw [h2]
   simp
 have q1 : (P.length : Int) ≤ 5 := by have := HN5.out; omega
 have HL : Hid (∀ j, j < P.length → ∃ g off, A = some ⟨g, off, none⟩ ∧ g < X1.heap.size ∧
  X1.cell? ⟨g, off + j * 5, none⟩ = some (.string (P.getD j default).key) ∧ X1.cell? ⟨g, off + j * 5 + 1, none⟩ = some (.int .i64 ((P.getD j default).at' : Int)) ∧ X1.cell? ⟨g, off + j * 5 + 2, none⟩ = some (.int .i64 ((P.getD j default).size : Int)) ∧
  X1.cell? ⟨g, off + j * 5 + 3, none⟩ = some (.int .i64 ((P.getD j default).first : Int)) ∧ X1.cell? ⟨g, off + j * 5 + 4, none⟩ = some (.int .i64 ((P.getD j default).last : Int))) := hl
 clear hI hO hl hBB
 generalize hn : P.length = n at *
 have HN : Hid (P.length = n) := hn
 clear hn
 obtain rfl : w = X1 := HX1.out.symm
 go_enter Tryz.func10, Tryz.ntmps10
 go_wp2_with fail
 go_loopw [12] (fun v12 wr => ∃ k : Nat, k ≤ n ∧ v12 = .int .i64 (k : Int) ∧ Hid (∀ i, i < k → (P.getD i default).key ≠ key) ∧ Below w.heap.size w wr) (fun i _ => n - (intOf i).toNat)
 case atStart => exact ⟨0, by omega, rfl, fun i hi => by omega, Below.refl _ _⟩
 case round =>
  obtain ⟨k, hk, rfl, HJ, hb⟩ := hrel
  have HB : Hid (Below w.heap.size w wr) := hb
  clear hb
  by_cases hlt : k < n
  ·have q4 : (k : Int) < (n : Int) := by omega
   obtain ⟨g, off, rfl, hg, e0, e1, e2, e3, e4⟩ := HL.out k hlt
   rw [← HB.out.cell (p := ⟨_, _, none⟩) hg] at e0 e1 e2 e3 e4
   obtain ⟨m, hm⟩ := HSo.out (by omega)
   have hPm := HNm.out m hm
   have hln : m.length = n := by rw [← HN.out, hPm, List.length_map, List.length_range]
   have HAt : Hid (∀ i, i < n → P.getD i default = spotOf m i) := fun i hi => by rw [hPm]; exact range_get m m.length i (by rw [hln]; exact hi)
   have HMg : Hid (GoodF s m ∧ m.length = n) := ⟨hm, hln⟩
   have HX : Hid (P.getD k default = spotOf m k) := HAt.out k hlt
   have HFit : Hid ((P.getD k default).at' ≤ 562949953421311 ∧ (P.getD k default).size ≤ 562949953421311) := by
    unfold Hid
    rw [HX.out]
    have := nums_le hm.2.1 k (by omega)
    exact ⟨this.2.1, this.2.2.1⟩
   have HBk : Hid (rbP (blkA s (P.getD k default)) = (sAt m k).pts ∧ (P.getD k default).key = (sAt m k).key) := by
    unfold Hid
    rw [HX.out]
    refine ⟨?_, rfl⟩
    have := ser_read hm.2.1 k (by omega)
    rw [← hm.text] at this
    exact congrArg Ser.pts this
   have BW : Hid (Below w.heap.size w wr) := B1.out.trans (HB.out.mono B1.out.size)
   clear hPm hln hm HX
   generalize hx : P.getD k default = x at *
   have HXk : Hid (P.getD k default = x) := hx
   clear hx hg
   obtain ⟨xk, xa, xz, xf, xl⟩ := x
   simp only at e0 e1 e2 e3 e4 HFit HBk
   have HBa : Hid (∀ cs, Below w.heap.size w (wr.alloc (.cells cs 41))) := fun cs => HB.out.alloc HB.out.size _
   by_cases hkey : xk = key
   ·have HF : Hid (FfAns s key (sAt m k).pts true) := by
     refine .inl ⟨rfl, m, k, HMg.out.1, by rw [HMg.out.2]; exact hlt, by rw [← HBk.out.2]; exact hkey, fun i hi => ?_, rfl⟩
     have h1 := HJ.out i hi
     rw [HAt.out i (by omega)] at h1
     exact h1
    subst hkey
    have KB0 : Hid (Blk (wr.alloc (.cells #[.string xk, .int .i64 (xa : Int), .int .i64 (xz : Int), .int .i64 (xf : Int), .int .i64 (xl : Int)] 41)).drew wr.heap.size #[.string xk, .int .i64 (xa : Int), .int .i64 (xz : Int), .int .i64 (xf : Int), .int .i64 (xl : Int)] 41) := Blk.new wr _ _
    have BB0 : Hid (Below w.heap.size w (wr.alloc (.cells #[.string xk, .int .i64 (xa : Int), .int .i64 (xz : Int), .int .i64 (xf : Int), .int .i64 (xl : Int)] 41)).drew) := (BW.out.alloc BW.out.size _).drew
    have S0 : Hid ((wr.alloc (.cells #[.string xk, .int .i64 (xa : Int), .int .i64 (xz : Int), .int .i64 (xf : Int), .int .i64 (xl : Int)] 41)).drew.cell? ⟨wr.heap.size, 0, none⟩ = some (.string xk) ∧ (wr.alloc (.cells #[.string xk, .int .i64 (xa : Int), .int .i64 (xz : Int), .int .i64 (xf : Int), .int .i64 (xl : Int)] 41)).drew.cell? ⟨wr.heap.size, 1, none⟩ = some (.int .i64 (xa : Int)) ∧ (wr.alloc (.cells #[.string xk, .int .i64 (xa : Int), .int .i64 (xz : Int), .int .i64 (xf : Int), .int .i64 (xl : Int)] 41)).drew.cell? ⟨wr.heap.size, 2, none⟩ = some (.int .i64 (xz : Int)) ∧ (wr.alloc (.cells #[.string xk, .int .i64 (xa : Int), .int .i64 (xz : Int), .int .i64 (xf : Int), .int .i64 (xl : Int)] 41)).drew.cell? ⟨wr.heap.size, 3, none⟩ = some (.int .i64 (xf : Int)) ∧ (wr.alloc (.cells #[.string xk, .int .i64 (xa : Int), .int .i64 (xz : Int), .int .i64 (xf : Int), .int .i64 (xl : Int)] 41)).drew.cell? ⟨wr.heap.size, 4, none⟩ = some (.int .i64 (xl : Int))) := ⟨KB0.out.cell 0 _ rfl, KB0.out.cell 1 _ rfl, KB0.out.cell 2 _ rfl, KB0.out.cell 3 _ rfl, KB0.out.cell 4 _ rfl⟩
    have cR := readerOfV s (wr.alloc (.cells #[.string xk, .int .i64 (xa : Int), .int .i64 (xz : Int), .int .i64 (xf : Int), .int .i64 (xl : Int)] 41)).drew
    go_wp2_with fail
    refine wp_region_until (fun w' => w'.cell? ⟨wr.heap.size, 0, none⟩ = some (.string xk) ∧ w'.cell? ⟨wr.heap.size, 1, none⟩ = some (.int .i64 (xa : Int)) ∧ w'.cell? ⟨wr.heap.size, 2, none⟩ = some (.int .i64 (xz : Int)) ∧ w'.cell? ⟨wr.heap.size, 3, none⟩ = some (.int .i64 (xf : Int)) ∧ w'.cell? ⟨wr.heap.size, 4, none⟩ = some (.int .i64 (xl : Int))) (fun _ => false) 6 (by rfl) (by kernel_rfl) ?_
    refine until_take 0 (v := ?_) (by rfl) (by kernel_rfl) (by exact fun _ _ _ h => h) (by rfl) ?_ S0.out ?_
    rotate_left
    ·intro w hSw
     try dsimp only at hSw
     go_simp
     try with_reducible rfl
    try simp only [Act.put, setIfInBounds_toArray, set_cons_zero, set_cons_succ]
    refine until_take 2 (v := ?_) (by rfl) (by kernel_rfl) (by exact fun _ _ _ h => h) (by rfl) ?_ S0.out ?_
    rotate_left
    ·intro w hSw
     try dsimp only at hSw
     go_simp
     try with_reducible rfl
    try simp only [Act.put, setIfInBounds_toArray, set_cons_zero, set_cons_succ]
    refine until_one 1 (by rfl) (by kernel_rfl) (fun K hK => ?_)
    go_simp
    refine cR.mono ?_
    rintro e Y1 ⟨rfl, hY1⟩
    have C1 : Hid (CurB Y1 (wr.alloc (.cells #[.string xk, .int .i64 (xa : Int), .int .i64 (xz : Int), .int .i64 (xf : Int), .int .i64 (xl : Int)] 41)).drew.heap.size s 0 62) := by rw [hY1]; exact Blk.new _ _ _
    have KB1 : Hid (Blk Y1 wr.heap.size #[.string xk, .int .i64 (xa : Int), .int .i64 (xz : Int), .int .i64 (xf : Int), .int .i64 (xl : Int)] 41) := by rw [hY1]; exact KB0.out.alloc _
    have BB1 : Hid (Below w.heap.size w Y1) := by rw [hY1]; exact BB0.out.alloc BB0.out.size _
    have GG : Hid (w.heap.size ≤ (wr.alloc (.cells #[.string xk, .int .i64 (xa : Int), .int .i64 (xz : Int), .int .i64 (xf : Int), .int .i64 (xl : Int)] 41)).drew.heap.size ∧ wr.heap.size ≠ (wr.alloc (.cells #[.string xk, .int .i64 (xa : Int), .int .i64 (xz : Int), .int .i64 (xf : Int), .int .i64 (xl : Int)] 41)).drew.heap.size) := ⟨BB0.out.size, by have := KB0.out.lt; omega⟩
    generalize (wr.alloc (.cells #[.string xk, .int .i64 (xa : Int), .int .i64 (xz : Int), .int .i64 (xf : Int), .int .i64 (xl : Int)] 41)).drew.heap.size = gr at *
    clear hY1 cR BB0 KB0
    go_wp2_with fail
    refine hK.out _ _ (fun _ _ => ⟨KB1.out.cell 0 _ rfl, KB1.out.cell 1 _ rfl, KB1.out.cell 2 _ rfl, KB1.out.cell 3 _ rfl, KB1.out.cell 4 _ rfl⟩) ?_
    clear hK K
    try simp only [Act.put, setIfInBounds_toArray, set_cons_zero, set_cons_succ]
    refine until_one 3 (by rfl) (by kernel_rfl) (fun K hK => ?_)
    go_simp
    refine (readBlockV s 0 gr ⟨xk, xa, xz, xf, xl⟩ Y1 w C1.out HS.out HFit.out BB1.out GG.out.1 ST.out a0 a1 a2 ER.out).mono ?_
    rintro e Y2 ⟨⟨v2, rfl, hO2⟩, _, hk2⟩
    rw [HBk.out.1] at hO2
    have KB2 : Hid (Blk Y2 wr.heap.size #[.string xk, .int .i64 (xa : Int), .int .i64 (xz : Int), .int .i64 (xf : Int), .int .i64 (xl : Int)] 41) := hk2.blk KB1.out GG.out.2
    have BB2 : Hid (Below w.heap.size w Y2) := BB1.out.trans (hk2.1.mono GG.out.1)
    have O2 : Hid (Owns Y2 w.heap.size 38 2 v2 (ptR (sAt m k).pts)) := hO2.mono BB1.out.size
    clear hk2 hO2
    go_wp2_with fail
    refine hK.out _ _ (fun _ _ => ⟨KB2.out.cell 0 _ rfl, KB2.out.cell 1 _ rfl, KB2.out.cell 2 _ rfl, KB2.out.cell 3 _ rfl, KB2.out.cell 4 _ rfl⟩) ?_
    clear hK K
    try simp only [Act.put, setIfInBounds_toArray, set_cons_zero, set_cons_succ]
    refine until_pure 4 (v := ?_) (by rfl) (by kernel_rfl) (by exact fun _ _ _ h => h) (by rfl) ?_ ?_
    rotate_left
    ·intro w
     go_simp
     try with_reducible rfl
    try simp only [Act.put, setIfInBounds_toArray, set_cons_zero, set_cons_succ]
    refine until_pure 5 (v := ?_) (by rfl) (by kernel_rfl) (by exact fun _ _ _ h => h) (by rfl) ?_ ?_
    rotate_left
    ·intro w
     go_simp
     try with_reducible rfl
    try simp only [Act.put, setIfInBounds_toArray, set_cons_zero, set_cons_succ]
    refine until_done (by kernel_rfl) ?_ _
    go_wp2_with fail
    refine bodyPost_ret (results_tmp2 rfl _ _ _) rfl ?_
    exact ⟨⟨_, _, true, rfl, HF.out, O2.out⟩, BB2.out⟩
   ·have HKn : Hid (xk ≠ key) := hkey
    have hne := bytes_ne hkey
    clear hkey
    go_wp2_with fail
    go_roundw
    case rel =>
     refine ⟨k + 1, by omega, by go_num, fun i hi => ?_, HBa.out _⟩
     by_cases e : i = k
     ·rw [e, HXk.out]; exact HKn.out
     ·exact HJ.out i (by omega)
    case measure => simp [intOf]; omega
  ·obtain rfl : k = n := by omega
   have BW : Hid (Below w.heap.size w wr) := B1.out.trans (HB.out.mono B1.out.size)
   have HF : Hid (FfAns s key [] false) := by
    refine .inr ⟨rfl, rfl, fun m hm j hj => ?_⟩
    have hPm := HNm.out m hm
    have hln : m.length = k := by rw [← HN.out, hPm, List.length_map, List.length_range]
    have h1 := HJ.out j (by omega)
    rw [hPm, range_get m m.length j hj] at h1
    exact h1
   go_wp2_with fail
   refine bodyPost_ret (results_tmp2 rfl _ _ _) rfl ?_
   exact ⟨⟨_, [], false, rfl, HF.out, Owns.nil _ _ _ _⟩, BW.out⟩
end Go.Proofs.YtnilgemgjlhibaaGreatDoor
namespace Go.Proofs.YtnilgemgjlhibaaGreatDoor
open Go.ChangeShapes Go.WideShapes Go.ChangeAt Go.RowKit Go.PlainAid
set_option linter.unusedVariables false
set_option maxHeartbeats 4000000 in
theorem implFileFind (s key : ByteArray) (w : World) (hs : s.size ≤ 1048576) (hst : SumTab w) (a0 a1 a2 : Addr) (he : Errs w a0 a1 a2) : Calls Tryz.prog 5 #[.string s, .string key] w fun e w' => FfOk s key w' w.heap.size e ∧ Below w.heap.size w w' := by
 have c1 := indexOfV s w hs hst a0 a1 a2 he
 go_enter Tryz.func5, Tryz.ntmps5
 go_wp2_with fail
 refine c1.mono ?_
 rintro e X1 ⟨⟨v, P, rfl, hI, hO⟩, hb⟩
 have c2 := findBlockV s key P v X1 X1.heap.size hI hO.lies (Nat.le_refl _) hs (hst.on hb) a0 a1 a2 (he.on hb)
 clear c1
 go_wp2_with fail
 refine c2.mono ?_
 rintro e X2 ⟨⟨v2, l2, ok, rfl, hA, hO2⟩, hb2⟩
 have HA : Hid (FfAns s key l2 ok) := hA
 have HO2 : Hid (Owns X2 w.heap.size 38 2 v2 (ptR l2)) := hO2.mono hb.size
 have HB2 : Hid (Below w.heap.size w X2) := hb.trans (hb2.mono hb.size)
 clear hA hO2 hb2 c2 hI hO hb hst he hs
 go_wp2_with fail
 refine bodyPost_ret (results_tmp2 rfl _ _ _) rfl ?_
 exact ⟨⟨_, l2, ok, rfl, HA.out, HO2.out⟩, HB2.out⟩
end Go.Proofs.YtnilgemgjlhibaaGreatDoor
namespace Go.Proofs.YtnilgemgjlhibaaGreatDoor
open Go.ChangeShapes Go.WideShapes Go.ChangeAt Go.RowKit Go.PlainAid
set_option linter.unusedVariables false
set_option maxHeartbeats 4000000 in
theorem law_fnExactFileFind (s key : ByteArray) (w : World) (hs : s.size ≤ maxLen) (hkk : key.size ≤ maxLen) (hst : SumTab w) (a0 a1 a2 : Addr) (he : Errs w a0 a1 a2) : Calls Tryz.prog 3 #[.string s, .string key] w fun e w' => e = .returned (.bool true) ∧ Below w.heap.size w w' := by
 have ST : Hid (SumTab w) := hst
 have ER : Hid (Errs w a0 a1 a2) := he
 have q0 : (s.size : Int) ≤ 9223372036854775807 := by unfold maxLen at hs; omega
 have q0' : (key.size : Int) ≤ 9223372036854775807 := by unfold maxLen at hkk; omega
 clear hst he hs hkk
 by_cases hbig : (1048576 : Int) < (s.size : Int)
 ·go_enter Tryz.func3, Tryz.ntmps3
  go_wp2_with fail
  go_ret
  exact ⟨rfl, Below.refl _ _⟩
 have HS : Hid (s.size ≤ 1048576) := by unfold Hid; omega
 have q1 : (s.size : Int) ≤ 1048576 := by omega
 clear hbig
 by_cases hbig : (1048576 : Int) < (key.size : Int)
 ·go_enter Tryz.func3, Tryz.ntmps3
  go_wp2_with fail
  go_ret
  exact ⟨rfl, Below.refl _ _⟩
 have q2 : (key.size : Int) ≤ 1048576 := by omega
 clear hbig
 go_enter Tryz.func3, Tryz.ntmps3
 go_wp2_with fail
 refine (specFileFind s key w HS.out).mono ?_
 rintro e w1 ⟨⟨u1, l1, ok1, rfl, hR1, hO1⟩, hb1⟩
 have B1 : Hid (Below w.heap.size w w1) := hb1
 have O1 : Hid (Owns w1 w.heap.size 38 2 u1 (ptR l1)) := hO1
 have R1 : Hid (FfAns s key l1 ok1) := hR1
 clear hb1 hO1 hR1
 go_wp2_with fail
 refine (implFileFind s key w1 HS.out (ST.out.on B1.out) a0 a1 a2 (ER.out.on B1.out)).mono ?_
 rintro e w2 ⟨⟨u2, l2, ok2, rfl, hR2, hO2⟩, hb2⟩
 obtain ⟨rfl, rfl⟩ := hR2.one R1.out
 have HLn : Hid (l2.length ≤ 60) := hR2.len
 have C2 : Hid (Below w1.heap.size w1 w2) := hb2
 have B2 : Hid (Below w.heap.size w w2) := B1.out.trans (hb2.mono B1.out.size)
 have O2 : Hid (Owns w2 w1.heap.size 38 2 u2 (ptR l2)) := hO2
 clear hb2 hO2 hR2
 have hok : (ok2 != ok2) = false := by cases ok2 <;> rfl
 go_wp2_with fail
 refine (eqPointS l2 u2 u1 w2 w2.heap.size O2.out.lies (O1.out.on C2.out).lies (by have := HLn.out; omega) (Nat.le_refl _)).mono ?_
 rintro e w3 ⟨rfl, hb3⟩
 have C3 : Hid (Below w1.heap.size w1 w3) := C2.out.trans (hb3.mono C2.out.size)
 have B3 : Hid (Below w.heap.size w w3) := B2.out.trans (hb3.mono B2.out.size)
 have O3 : Hid (Owns w3 w1.heap.size 38 2 u2 (ptR l2)) := O2.out.on hb3
 clear hb3
 have cm := markPointS 1 w1.heap.size u2 (ptR l2) w3 O3.out (by rw [ptR_length]; have := HLn.out; omega) (by omega)
 rw [ptR_length] at cm
 have c5 := fun wx (h : Owns wx w1.heap.size 38 2 u2 (newR (mkPt 1) l2.length)) => heldPointS 1 l2.length u2 wx wx.heap.size h.lies (by have := HLn.out; omega) (by omega)
 generalize hkk : 1 + 2 * l2.length = kk at *
 have dk : decide ((kk : Int) < 0) = false := decide_eq_false (by omega)
 clear hkk
 go_wp2_with fail
 refine cm.mono ?_
 rintro e w4 ⟨rfl, hM, hb4, _⟩
 have C4 : Hid (Below w1.heap.size w1 w4) := C3.out.trans hb4
 have B4 : Hid (Below w.heap.size w w4) := B3.out.trans (hb4.mono B1.out.size)
 have M4 : Hid (Owns w4 w1.heap.size 38 2 u2 (newR (mkPt 1) l2.length)) := hM
 clear hM hb4 cm
 go_wp2_with fail
 refine (c5 _ M4.out).mono ?_
 rintro e w5 ⟨rfl, rfl⟩
 go_wp2_with fail
 refine (implFileFind s key w4 HS.out (ST.out.on B4.out) a0 a1 a2 (ER.out.on B4.out)).mono ?_
 rintro e w6 ⟨⟨u3, l3, ok3, rfl, hR3, hO3⟩, hb6⟩
 obtain ⟨rfl, rfl⟩ := hR3.one R1.out
 have C6 : Hid (Below w1.heap.size w1 w6) := C4.out.trans (hb6.mono C4.out.size)
 have B6 : Hid (Below w.heap.size w w6) := B4.out.trans (hb6.mono B4.out.size)
 have M6 : Hid (Owns w6 w1.heap.size 38 2 u2 (newR (mkPt 1) l3.length)) := M4.out.on hb6
 have O6 : Hid (Owns w6 w4.heap.size 38 2 u3 (ptR l3)) := hO3
 clear hb6 hO3 hR3
 go_wp2_with fail
 refine (eqPointS l3 u3 u1 w6 w6.heap.size O6.out.lies (O1.out.on C6.out).lies (by have := HLn.out; omega) (Nat.le_refl _)).mono ?_
 rintro e w7 ⟨rfl, hb7⟩
 have B7 : Hid (Below w.heap.size w w7) := B6.out.trans (hb7.mono B6.out.size)
 have M7 : Hid (Owns w7 w1.heap.size 38 2 u2 (newR (mkPt 1) l3.length)) := M6.out.on hb7
 clear hb7
 go_wp2_with fail
 refine (c5 _ M7.out).mono ?_
 rintro e w8 ⟨rfl, rfl⟩
 go_wp2_with fail
 go_ret
 exact ⟨rfl, B7.out⟩
end Go.Proofs.YtnilgemgjlhibaaGreatDoor
