/- FlTextS FlReadS -/
import Derived.Test.YtpmgndgkmffcnaaGreatDoorQd29
import Derived.Test.YtpmgndgkmffcnaaGreatDoorQd33
import Derived.Test.YtpmgndgkmffcnaaGreatDoorQd7
import Derived.WalkKit
import Derived.ProofKit
import Derived.OpenShut
import Derived.Below
import Derived.WalkSmall
import Derived.BigQuiet
import Derived.Deep.QuietTactic
import Derived.Deep.RegionWith
import Derived.Handy
import Derived.Test.YtpmgndgkmffcnaaGreatDoorQd32
open List (setIfInBounds_toArray set_cons_zero set_cons_succ)
namespace Go.Proofs.YtpmgndgkmffcnaaGreatDoor
open Go.ChangeShapes Go.WideShapes Go.ChangeAt Go.RowKit Go.PlainAid
set_option linter.unusedVariables false
theorem idx_succ (l : List Ser) (k : Nat) : txt (idxB l k) ++ txt (vF 6 (sAt l k).key.size) ++ (sAt l k).key ++ txt (vF 6 (atB l k)) ++ txt (vF 6 (showB (sAt l k).pts).size) ++ txt (vF 6 (fT l k)) ++ txt (vF 6 (lT l k)) = txt (idxB l (k + 1)) := by
 conv => lhs; arg 1; arg 1; arg 1; arg 1; arg 2; rw [← txt_bl (sAt l k).key]
 simp only [txt_cat]
 congr 1
 unfold idxB
 rw [cat_succ]
 unfold spB blkB
 rw [bl_length]
 simp only [List.append_assoc]
theorem idx_size {l : List Ser} (h : SOk l) (k : Nat) (hk : k ≤ l.length) : (txt (idxB l k)).size ≤ 215 := by
 have h2 := idxB_length h k hk
 have := h.1
 rw [txt_size]
 omega
set_option maxHeartbeats 4000000 in
theorem specFileText (l : List Ser) (v : Value) (w : World) (B : Nat) (hv : SerV w B v l) (hn : SShort l) (hf : ∀ x ∈ l, x.key.size ≤ maxLen) (hB : B ≤ w.heap.size) : Calls Tryz.prog 76 #[v] w fun e w' => e = .returned (.string (fileT l)) ∧ Below w.heap.size w w' := by
 have c1 := specSeriesOk l v w B hv hn hf hB
 obtain ⟨A, cap, rfl, hl⟩ := hv.look
 have HV0 : Hid (SerV w B (.slice A l.length cap) l) := hv
 have HL : Hid (∀ j, j < l.length → ∃ g off u, A = some ⟨g, off, none⟩ ∧ g < B ∧ w.cell? ⟨g, off + j * 2, none⟩ = some (.string (sAt l j).key) ∧ w.cell? ⟨g, off + j * 2 + 1, none⟩ = some u ∧ Lies w B 2 u (ptR (sAt l j).pts)) := hl
 have HB : Hid (B ≤ w.heap.size) := hB
 have q0 : (l.length : Int) ≤ 1048576 := by have := hn.1; omega
 clear hl hn hv hB hf
 by_cases hok : ¬ SOk l
 ·have HE : Hid (fileT l = ⟨#[]⟩) := fileT_no (fun hh => hok hh.2)
  rw [decide_eq_false hok] at c1
  clear hok
  go_enter Tryz.func76, Tryz.ntmps76
  go_wp2_with fail
  refine c1.mono ?_
  rintro e w1 ⟨rfl, hL⟩
  have hb1 := hL.below
  clear hL
  go_wp2_with fail
  go_ret
  exact ⟨by rw [HE.out]; rfl, hb1⟩
 have HK : Hid (SOk l) := (Decidable.not_not (p := SOk l)).1 hok
 rw [decide_eq_true HK.out] at c1
 by_cases h0 : l.length = 0
 ·have HE : Hid (fileT l = ⟨#[]⟩) := fileT_no (fun hh => by omega)
  rw [h0] at c1 ⊢
  clear hok h0 q0 HV0
  go_enter Tryz.func76, Tryz.ntmps76
  go_wp2_with fail
  refine c1.mono ?_
  rintro e w1 ⟨rfl, hL⟩
  have hb1 := hL.below
  clear hL
  go_wp2_with fail
  go_ret
  exact ⟨by rw [HE.out]; rfl, hb1⟩
 have d0 : ((l.length : Int) == 0) = false := by rw [beq_eq_false_iff_ne]; omega
 have d1 : decide ((l.length : Int) = 0) = false := decide_eq_false (by omega)
 have HE : Hid (fileT l = txt (fileB l)) := fileT_yes ⟨by omega, HK.out⟩
 have q1 : (l.length : Int) ≤ 5 := by have := HK.out.1; omega
 clear hok h0
 generalize hN : l.length = n at *
 have HN : Hid (l.length = n) := hN
 clear hN
 go_enter Tryz.func76, Tryz.ntmps76
 go_wp2_with fail
 refine c1.mono ?_
 rintro e w1 ⟨rfl, hL⟩
 have B1 : Hid (Below w.heap.size w w1) := hL.below
 clear hL c1
 go_wp2_with fail
 go_loopw [3, 4, 5] (fun v3 v4 v5 wr => ∃ k : Nat, k ≤ n ∧ v5 = .int .i64 (k : Int) ∧ v3 = .string (txt (upB l k)) ∧ v4 = .string (txt (idxB l k)) ∧ Below w.heap.size w wr) (fun _ _ i _ => n - (intOf i).toNat)
 case atStart => exact ⟨0, by omega, rfl, rfl, rfl, B1.out⟩
 case round =>
  obtain ⟨k, hk, rfl, rfl, rfl, hb⟩ := hrel
  have HB1 : Hid (Below w.heap.size w wr) := hb
  clear hb
  by_cases hlt : k < n
  ·have q4 : (k : Int) < (n : Int) := by omega
   obtain ⟨gs, off, us, rfl, hg, f1, f2, hu⟩ := HL.out k hlt
   have hgw : gs < w.heap.size := Nat.lt_of_lt_of_le hg HB.out
   obtain ⟨A', cap', rfl, hpl⟩ := pt_look hu
   have hsk := HK.out.2 k (by have := HN.out; omega)
   obtain ⟨gp, offp, rfl, hgp, hf0, _⟩ := hpl 0 (by have := hsk.2.1; omega)
   obtain ⟨gp', offp', e', _, hf1, _⟩ := hpl ((sAt l k).pts.length - 1) (by have := hsk.2.1; omega)
   cases e'
   rw [show offp + 0 * 2 = offp by omega] at hf0
   have HGW : Hid (gs < w.heap.size ∧ gp < w.heap.size) := ⟨hgw, Nat.lt_of_lt_of_le hgp HB.out⟩
   have htm := HK.out.times k (by have := HN.out; omega)
   have e0' : tAt (sAt l k).pts 0 = (fT l k : Int) := by unfold fT; omega
   have e1' : tAt (sAt l k).pts ((sAt l k).pts.length - 1) = (lT l k : Int) := by unfold lT; omega
   change w.cell? ⟨gp, offp, none⟩ = some (.int .i64 (tAt (sAt l k).pts 0)) at hf0
   change w.cell? ⟨gp, offp + ((sAt l k).pts.length - 1) * 2, none⟩ = some (.int .i64 (tAt (sAt l k).pts ((sAt l k).pts.length - 1))) at hf1
   rw [e0'] at hf0
   rw [e1'] at hf1
   have HU : Hid (Lies w B 2 (.slice (some ⟨gp, offp, none⟩) (sAt l k).pts.length cap') (ptR (sAt l k).pts)) := hu
   have g2 := (HB1.out.cell (p := ⟨gs, off + k * 2 + 1, none⟩) hgw).trans f2
   obtain ⟨n1, n2, n3, n4, n5⟩ := nums_le HK.out k (by have := HN.out; omega)
   have hz : ∀ n, (txt (vF 6 n)).size ≤ 7 := fun n => by rw [txt_size]; exact vF_length 6 n
   have z1 := hz (sAt l k).key.size
   have z2 := hz (atB l k)
   have z3 := hz (showB (sAt l k).pts).size
   have z4 := hz (fT l k)
   have z5 := hz (lT l k)
   have z6 := idx_size HK.out k (by have := HN.out; omega)
   have z7 := (HK.out.key k (by have := HN.out; omega)).2
   have z8 := showB_size (sAt l k).pts
   have z9 := atB_le HK.out k (by have := HN.out; omega)
   have s1 := upB_size l k
   have HI : Hid (txt (idxB l k) ++ txt (vF 6 (sAt l k).key.size) ++ (sAt l k).key ++ txt (vF 6 (atB l k)) ++ txt (vF 6 (showB (sAt l k).pts).size) ++ txt (vF 6 (fT l k)) ++ txt (vF 6 (lT l k)) = txt (idxB l (k + 1))) := idx_succ l k
   have HSu : Hid (txt (upB l k) ++ showB (sAt l k).pts = txt (upB l (k + 1))) := upB_succ l k
   have c1 := fun wx => spec_var (sAt l k).key.size wx n1
   have c2 := fun wx => spec_var (atB l k) wx n2
   have c3 := fun wx => spec_var (showB (sAt l k).pts).size wx (by omega)
   have c4 := fun wx => spec_var (fT l k) wx n4
   have c5 := fun wx => spec_var (lT l k) wx n5
   have HPn : Hid ((sAt l k).pts.length ≤ 60 ∧ 1 ≤ (sAt l k).pts.length) := ⟨hsk.2.2.1, hsk.2.1⟩
   clear hu hpl hsk htm e0' e1' hz n1 n2 n3 n4 n5 hgw hg hgp f2
   generalize fT l k = t0 at *
   generalize lT l k = t1 at *
   generalize hx : sAt l k = x at *
   clear hx
   obtain ⟨xk, xp⟩ := x
   simp only at *
   have SW : Hid (w.cell? ⟨gs, off + k * 2, none⟩ = some (.string xk) ∧ w.cell? ⟨gp, offp, none⟩ = some (.int .i64 (t0 : Int)) ∧ w.cell? ⟨gp, offp + (xp.length - 1) * 2, none⟩ = some (.int .i64 (t1 : Int))) := ⟨f1, hf0, hf1⟩
   clear f1 hf0 hf1
   have cs := specShowBlock xp (.slice (some ⟨gp, offp, none⟩) xp.length cap') wr B (HU.out.on (HB1.out.mono HB.out)) (by have := HPn.out; omega) (Nat.le_trans HB.out HB1.out.size)
   generalize hpn : xp.length = pn at *
   clear hpn
   generalize hsb : showB xp = sb at *
   generalize hw0 : txt (idxB l k) = ix at *
   generalize hw1 : txt (vF 6 xk.size) = y1 at *
   generalize hw3 : txt (vF 6 sb.size) = y3 at *
   generalize hw4 : txt (vF 6 t0) = y4 at *
   generalize hw5 : txt (vF 6 t1) = y5 at *
   generalize hw6 : txt (upB l k) = up at *
   rw [← s1] at c2 z2 HI z9
   clear s1
   generalize hw2 : txt (vF 6 up.size) = y2 at *
   clear hw0 hw1 hw2 hw3 hw4 hw5 hw6 hsb
   go_wp2_with fail
   refine cs.mono ?_
   rintro e Y0 ⟨rfl, hb0⟩
   have D0 : Hid (Below w.heap.size w Y0.drew) := (HB1.out.trans (hb0.mono HB1.out.size)).drew
   clear hb0 g2 cs
   have S0 : Hid (Y0.drew.cell? ⟨gs, off + k * 2, none⟩ = some (.string xk) ∧ Y0.drew.cell? ⟨gp, offp, none⟩ = some (.int .i64 (t0 : Int)) ∧ Y0.drew.cell? ⟨gp, offp + (pn - 1) * 2, none⟩ = some (.int .i64 (t1 : Int))) := ⟨(D0.out.cell (p := ⟨_, _, none⟩) HGW.out.1).trans SW.out.1, (D0.out.cell (p := ⟨_, _, none⟩) HGW.out.2).trans SW.out.2.1, (D0.out.cell (p := ⟨_, _, none⟩) HGW.out.2).trans SW.out.2.2⟩
   have q3 : (1 : Int) ≤ (pn : Int) := by have := HPn.out; omega
   have q7 : (pn : Int) ≤ 60 := by have := HPn.out; omega
   have e3 : ((pn : Int) - 1).toNat = pn - 1 := by omega
   have e9 : IntKind.i64.wrap ((pn : Int) - 1) = (pn : Int) - 1 := by rw [IntKind.wrap_i64]; omega
   have e5 : (pn : Int) - 1 < (pn : Int) := by omega
   have q6 : (0 : Int) < (pn : Int) := by omega
   have q8 : 0 < pn := by omega
   have a1 : ¬ 9223372036854775807 < ix.size + y1.size := by omega
   have a2 : ¬ 9223372036854775807 < ix.size + y1.size + xk.size := by omega
   have a3 : ¬ 9223372036854775807 < ix.size + y1.size + xk.size + y2.size := by omega
   have a4 : ¬ 9223372036854775807 < ix.size + y1.size + xk.size + y2.size + y3.size := by omega
   have a5 : ¬ 9223372036854775807 < ix.size + y1.size + xk.size + y2.size + y3.size + y4.size := by omega
   have a6 : ¬ 9223372036854775807 < ix.size + y1.size + xk.size + y2.size + y3.size + y4.size + y5.size := by omega
   have a7 : (up.size : Int) + (sb.size : Int) ≤ 9223372036854775807 := by omega
   have a8 : ¬ 9223372036854775807 < up.size + sb.size := by omega
   go_wp2_with fail
   refine wp_region_until (fun w' => w'.cell? ⟨gs, off + k * 2, none⟩ = some (.string xk) ∧ w'.cell? ⟨gp, offp, none⟩ = some (.int .i64 (t0 : Int)) ∧ w'.cell? ⟨gp, offp + (pn - 1) * 2, none⟩ = some (.int .i64 (t1 : Int))) (fun _ => false) 39 (by rfl) (by kernel_rfl) ?_
   refine until_take 0 (v := ?_) (by rfl) (by kernel_rfl) (by exact fun _ _ _ h => h) (by rfl) ?_ S0.out ?_
   rotate_left
   ·intro w hSw
    try dsimp only at hSw
    go_simp
    try with_reducible rfl
   try simp only [Act.put, setIfInBounds_toArray, set_cons_zero, set_cons_succ]
   refine until_take 1 (v := ?_) (by rfl) (by kernel_rfl) (by exact fun _ _ _ h => h) (by rfl) ?_ S0.out ?_
   rotate_left
   ·intro w hSw
    try dsimp only at hSw
    go_simp
    try with_reducible rfl
   try simp only [Act.put, setIfInBounds_toArray, set_cons_zero, set_cons_succ]
   refine until_take 2 (v := ?_) (by rfl) (by kernel_rfl) (by exact fun _ _ _ h => h) (by rfl) ?_ S0.out ?_
   rotate_left
   ·intro w hSw
    try dsimp only at hSw
    go_simp
    try with_reducible rfl
   try simp only [Act.put, setIfInBounds_toArray, set_cons_zero, set_cons_succ]
   refine until_take 3 (v := ?_) (by rfl) (by kernel_rfl) (by exact fun _ _ _ h => h) (by rfl) ?_ S0.out ?_
   rotate_left
   ·intro w hSw
    try dsimp only at hSw
    go_simp
    try with_reducible rfl
   try simp only [Act.put, setIfInBounds_toArray, set_cons_zero, set_cons_succ]
   refine until_take 4 (v := ?_) (by rfl) (by kernel_rfl) (by exact fun _ _ _ h => h) (by rfl) ?_ S0.out ?_
   rotate_left
   ·intro w hSw
    try dsimp only at hSw
    go_simp
    try with_reducible rfl
   try simp only [Act.put, setIfInBounds_toArray, set_cons_zero, set_cons_succ]
   refine until_take 5 (v := ?_) (by rfl) (by kernel_rfl) (by exact fun _ _ _ h => h) (by rfl) ?_ S0.out ?_
   rotate_left
   ·intro w hSw
    try dsimp only at hSw
    go_simp
    try with_reducible rfl
   try simp only [Act.put, setIfInBounds_toArray, set_cons_zero, set_cons_succ]
   refine until_take 6 (v := ?_) (by rfl) (by kernel_rfl) (by exact fun _ _ _ h => h) (by rfl) ?_ S0.out ?_
   rotate_left
   ·intro w hSw
    try dsimp only at hSw
    go_simp
    try with_reducible rfl
   try simp only [Act.put, setIfInBounds_toArray, set_cons_zero, set_cons_succ]
   refine until_take 9 (v := ?_) (by rfl) (by kernel_rfl) (by exact fun _ _ _ h => h) (by rfl) ?_ S0.out ?_
   rotate_left
   ·intro w hSw
    try dsimp only at hSw
    go_simp
    try with_reducible rfl
   try simp only [Act.put, setIfInBounds_toArray, set_cons_zero, set_cons_succ]
   refine until_take 10 (v := ?_) (by rfl) (by kernel_rfl) (by exact fun _ _ _ h => h) (by rfl) ?_ S0.out ?_
   rotate_left
   ·intro w hSw
    try dsimp only at hSw
    go_simp
    try with_reducible rfl
   try simp only [Act.put, setIfInBounds_toArray, set_cons_zero, set_cons_succ]
   refine until_take 11 (v := ?_) (by rfl) (by kernel_rfl) (by exact fun _ _ _ h => h) (by rfl) ?_ S0.out ?_
   rotate_left
   ·intro w hSw
    try dsimp only at hSw
    go_simp
    try with_reducible rfl
   try simp only [Act.put, setIfInBounds_toArray, set_cons_zero, set_cons_succ]
   refine until_take 12 (v := ?_) (by rfl) (by kernel_rfl) (by exact fun _ _ _ h => h) (by rfl) ?_ S0.out ?_
   rotate_left
   ·intro w hSw
    try dsimp only at hSw
    go_simp
    try with_reducible rfl
   try simp only [Act.put, setIfInBounds_toArray, set_cons_zero, set_cons_succ]
   refine until_take 13 (v := ?_) (by rfl) (by kernel_rfl) (by exact fun _ _ _ h => h) (by rfl) ?_ S0.out ?_
   rotate_left
   ·intro w hSw
    try dsimp only at hSw
    go_simp
    try with_reducible rfl
   try simp only [Act.put, setIfInBounds_toArray, set_cons_zero, set_cons_succ]
   refine until_take 15 (v := ?_) (by rfl) (by kernel_rfl) (by exact fun _ _ _ h => h) (by rfl) ?_ S0.out ?_
   rotate_left
   ·intro w hSw
    try dsimp only at hSw
    go_simp
    try with_reducible rfl
   try simp only [Act.put, setIfInBounds_toArray, set_cons_zero, set_cons_succ]
   refine until_take 16 (v := ?_) (by rfl) (by kernel_rfl) (by exact fun _ _ _ h => h) (by rfl) ?_ S0.out ?_
   rotate_left
   ·intro w hSw
    try dsimp only at hSw
    go_simp
    try with_reducible rfl
   try simp only [Act.put, setIfInBounds_toArray, set_cons_zero, set_cons_succ]
   refine until_take 19 (v := ?_) (by rfl) (by kernel_rfl) (by exact fun _ _ _ h => h) (by rfl) ?_ S0.out ?_
   rotate_left
   ·intro w hSw
    try dsimp only at hSw
    go_simp
    try with_reducible rfl
   try simp only [Act.put, setIfInBounds_toArray, set_cons_zero, set_cons_succ]
   refine until_take 20 (v := ?_) (by rfl) (by kernel_rfl) (by exact fun _ _ _ h => h) (by rfl) ?_ S0.out ?_
   rotate_left
   ·intro w hSw
    try dsimp only at hSw
    go_simp
    try with_reducible rfl
   try simp only [Act.put, setIfInBounds_toArray, set_cons_zero, set_cons_succ]
   refine until_take 23 (v := ?_) (by rfl) (by kernel_rfl) (by exact fun _ _ _ h => h) (by rfl) ?_ S0.out ?_
   rotate_left
   ·intro w hSw
    try dsimp only at hSw
    go_simp
    try with_reducible rfl
   try simp only [Act.put, setIfInBounds_toArray, set_cons_zero, set_cons_succ]
   refine until_take 24 (v := ?_) (by rfl) (by kernel_rfl) (by exact fun _ _ _ h => h) (by rfl) ?_ S0.out ?_
   rotate_left
   ·intro w hSw
    try dsimp only at hSw
    go_simp
    try with_reducible rfl
   try simp only [Act.put, setIfInBounds_toArray, set_cons_zero, set_cons_succ]
   refine until_take 25 (v := ?_) (by rfl) (by kernel_rfl) (by exact fun _ _ _ h => h) (by rfl) ?_ S0.out ?_
   rotate_left
   ·intro w hSw
    try dsimp only at hSw
    go_simp
    try with_reducible rfl
   try simp only [Act.put, setIfInBounds_toArray, set_cons_zero, set_cons_succ]
   refine until_take 26 (v := ?_) (by rfl) (by kernel_rfl) (by exact fun _ _ _ h => h) (by rfl) ?_ S0.out ?_
   rotate_left
   ·intro w hSw
    try dsimp only at hSw
    go_simp
    try with_reducible rfl
   try simp only [Act.put, setIfInBounds_toArray, set_cons_zero, set_cons_succ]
   refine until_take 29 (v := ?_) (by rfl) (by kernel_rfl) (by exact fun _ _ _ h => h) (by rfl) ?_ S0.out ?_
   rotate_left
   ·intro w hSw
    try dsimp only at hSw
    go_simp
    try with_reducible rfl
   try simp only [Act.put, setIfInBounds_toArray, set_cons_zero, set_cons_succ]
   refine until_take 30 (v := ?_) (by rfl) (by kernel_rfl) (by exact fun _ _ _ h => h) (by rfl) ?_ S0.out ?_
   rotate_left
   ·intro w hSw
    try dsimp only at hSw
    go_simp
    try with_reducible rfl
   try simp only [Act.put, setIfInBounds_toArray, set_cons_zero, set_cons_succ]
   refine until_take 31 (v := ?_) (by rfl) (by kernel_rfl) (by exact fun _ _ _ h => h) (by rfl) ?_ S0.out ?_
   rotate_left
   ·intro w hSw
    try dsimp only at hSw
    go_simp
    try with_reducible rfl
   try simp only [Act.put, setIfInBounds_toArray, set_cons_zero, set_cons_succ]
   refine until_take 32 (v := .int .i64 ((pn : Int) - 1)) (by rfl) (by kernel_rfl) (by exact fun _ _ _ h => h) (by rfl) ?_ S0.out ?_
   ·intro w hSw
    try dsimp only at hSw
    go_simp
    try rw [e9]
   try simp only [Act.put, setIfInBounds_toArray, set_cons_zero, set_cons_succ]
   refine until_take 33 (v := ?_) (by rfl) (by kernel_rfl) (by exact fun _ _ _ h => h) (by rfl) ?_ S0.out ?_
   rotate_left
   ·intro w hSw
    try dsimp only at hSw
    go_simp
    try with_reducible rfl
   try simp only [Act.put, setIfInBounds_toArray, set_cons_zero, set_cons_succ]
   refine until_take 34 (v := ?_) (by rfl) (by kernel_rfl) (by exact fun _ _ _ h => h) (by rfl) ?_ S0.out ?_
   rotate_left
   ·intro w hSw
    try dsimp only at hSw
    go_simp
    try with_reducible rfl
   try simp only [Act.put, setIfInBounds_toArray, set_cons_zero, set_cons_succ]
   refine until_take 35 (v := ?_) (by rfl) (by kernel_rfl) (by exact fun _ _ _ h => h) (by rfl) ?_ S0.out ?_
   rotate_left
   ·intro w hSw
    try dsimp only at hSw
    go_simp
    try with_reducible rfl
   try simp only [Act.put, setIfInBounds_toArray, set_cons_zero, set_cons_succ]
   refine until_one 7 (by rfl) (by kernel_rfl) (fun K hK => ?_)
   go_simp
   refine (c1 _).mono ?_
   rintro e Y1 ⟨rfl, hb1⟩
   have D1 : Hid (Below w.heap.size w Y1) := D0.out.trans (hb1.mono D0.out.size)
   have S1 : Hid (Y1.cell? ⟨gs, off + k * 2, none⟩ = some (.string xk) ∧ Y1.cell? ⟨gp, offp, none⟩ = some (.int .i64 (t0 : Int)) ∧ Y1.cell? ⟨gp, offp + (pn - 1) * 2, none⟩ = some (.int .i64 (t1 : Int))) := ⟨(D1.out.cell (p := ⟨_, _, none⟩) HGW.out.1).trans SW.out.1, (D1.out.cell (p := ⟨_, _, none⟩) HGW.out.2).trans SW.out.2.1, (D1.out.cell (p := ⟨_, _, none⟩) HGW.out.2).trans SW.out.2.2⟩
   clear hb1
   go_wp2_with fail
   refine hK.out _ _ (fun _ _ => S1.out) ?_
   clear hK K
   try simp only [Act.put, setIfInBounds_toArray, set_cons_zero, set_cons_succ]
   refine until_pure 8 (v := ?_) (by rfl) (by kernel_rfl) (by exact fun _ _ _ h => h) (by rfl) ?_ ?_
   rotate_left
   ·intro w
    go_simp
    try with_reducible rfl
   try simp only [Act.put, setIfInBounds_toArray, set_cons_zero, set_cons_succ]
   refine until_pure 14 (v := ?_) (by rfl) (by kernel_rfl) (by exact fun _ _ _ h => h) (by rfl) ?_ ?_
   rotate_left
   ·intro w
    go_simp
    try with_reducible rfl
   try simp only [Act.put, setIfInBounds_toArray, set_cons_zero, set_cons_succ]
   refine until_one 17 (by rfl) (by kernel_rfl) (fun K hK => ?_)
   go_simp
   refine (c2 _).mono ?_
   rintro e Y2 ⟨rfl, hb2⟩
   have D2 : Hid (Below w.heap.size w Y2) := D1.out.trans (hb2.mono D1.out.size)
   have S2 : Hid (Y2.cell? ⟨gs, off + k * 2, none⟩ = some (.string xk) ∧ Y2.cell? ⟨gp, offp, none⟩ = some (.int .i64 (t0 : Int)) ∧ Y2.cell? ⟨gp, offp + (pn - 1) * 2, none⟩ = some (.int .i64 (t1 : Int))) := ⟨(D2.out.cell (p := ⟨_, _, none⟩) HGW.out.1).trans SW.out.1, (D2.out.cell (p := ⟨_, _, none⟩) HGW.out.2).trans SW.out.2.1, (D2.out.cell (p := ⟨_, _, none⟩) HGW.out.2).trans SW.out.2.2⟩
   clear hb2
   go_wp2_with fail
   refine hK.out _ _ (fun _ _ => S2.out) ?_
   clear hK K
   try simp only [Act.put, setIfInBounds_toArray, set_cons_zero, set_cons_succ]
   refine until_pure 18 (v := ?_) (by rfl) (by kernel_rfl) (by exact fun _ _ _ h => h) (by rfl) ?_ ?_
   rotate_left
   ·intro w
    go_simp
    try with_reducible rfl
   try simp only [Act.put, setIfInBounds_toArray, set_cons_zero, set_cons_succ]
   refine until_one 21 (by rfl) (by kernel_rfl) (fun K hK => ?_)
   go_simp
   refine (c3 _).mono ?_
   rintro e Y3 ⟨rfl, hb3⟩
   have D3 : Hid (Below w.heap.size w Y3) := D2.out.trans (hb3.mono D2.out.size)
   have S3 : Hid (Y3.cell? ⟨gs, off + k * 2, none⟩ = some (.string xk) ∧ Y3.cell? ⟨gp, offp, none⟩ = some (.int .i64 (t0 : Int)) ∧ Y3.cell? ⟨gp, offp + (pn - 1) * 2, none⟩ = some (.int .i64 (t1 : Int))) := ⟨(D3.out.cell (p := ⟨_, _, none⟩) HGW.out.1).trans SW.out.1, (D3.out.cell (p := ⟨_, _, none⟩) HGW.out.2).trans SW.out.2.1, (D3.out.cell (p := ⟨_, _, none⟩) HGW.out.2).trans SW.out.2.2⟩
   clear hb3
   go_wp2_with fail
   refine hK.out _ _ (fun _ _ => S3.out) ?_
   clear hK K
   try simp only [Act.put, setIfInBounds_toArray, set_cons_zero, set_cons_succ]
   refine until_pure 22 (v := ?_) (by rfl) (by kernel_rfl) (by exact fun _ _ _ h => h) (by rfl) ?_ ?_
   rotate_left
   ·intro w
    go_simp
    try with_reducible rfl
   try simp only [Act.put, setIfInBounds_toArray, set_cons_zero, set_cons_succ]
   refine until_one 27 (by rfl) (by kernel_rfl) (fun K hK => ?_)
   go_simp
   refine (c4 _).mono ?_
   rintro e Y4 ⟨rfl, hb4⟩
   have D4 : Hid (Below w.heap.size w Y4) := D3.out.trans (hb4.mono D3.out.size)
   have S4 : Hid (Y4.cell? ⟨gs, off + k * 2, none⟩ = some (.string xk) ∧ Y4.cell? ⟨gp, offp, none⟩ = some (.int .i64 (t0 : Int)) ∧ Y4.cell? ⟨gp, offp + (pn - 1) * 2, none⟩ = some (.int .i64 (t1 : Int))) := ⟨(D4.out.cell (p := ⟨_, _, none⟩) HGW.out.1).trans SW.out.1, (D4.out.cell (p := ⟨_, _, none⟩) HGW.out.2).trans SW.out.2.1, (D4.out.cell (p := ⟨_, _, none⟩) HGW.out.2).trans SW.out.2.2⟩
   clear hb4
   go_wp2_with fail
   refine hK.out _ _ (fun _ _ => S4.out) ?_
   clear hK K
   try simp only [Act.put, setIfInBounds_toArray, set_cons_zero, set_cons_succ]
   refine until_pure 28 (v := ?_) (by rfl) (by kernel_rfl) (by exact fun _ _ _ h => h) (by rfl) ?_ ?_
   rotate_left
   ·intro w
    go_simp
    try with_reducible rfl
   try simp only [Act.put, setIfInBounds_toArray, set_cons_zero, set_cons_succ]
   refine until_one 36 (by rfl) (by kernel_rfl) (fun K hK => ?_)
   go_simp
   refine (c5 _).mono ?_
   rintro e Y5 ⟨rfl, hb5⟩
   have D5 : Hid (Below w.heap.size w Y5) := D4.out.trans (hb5.mono D4.out.size)
   have S5 : Hid (Y5.cell? ⟨gs, off + k * 2, none⟩ = some (.string xk) ∧ Y5.cell? ⟨gp, offp, none⟩ = some (.int .i64 (t0 : Int)) ∧ Y5.cell? ⟨gp, offp + (pn - 1) * 2, none⟩ = some (.int .i64 (t1 : Int))) := ⟨(D5.out.cell (p := ⟨_, _, none⟩) HGW.out.1).trans SW.out.1, (D5.out.cell (p := ⟨_, _, none⟩) HGW.out.2).trans SW.out.2.1, (D5.out.cell (p := ⟨_, _, none⟩) HGW.out.2).trans SW.out.2.2⟩
   clear hb5
   go_wp2_with fail
   refine hK.out _ _ (fun _ _ => S5.out) ?_
   clear hK K
   try simp only [Act.put, setIfInBounds_toArray, set_cons_zero, set_cons_succ]
   refine until_pure 37 (v := ?_) (by rfl) (by kernel_rfl) (by exact fun _ _ _ h => h) (by rfl) ?_ ?_
   rotate_left
   ·intro w
    go_simp
    try with_reducible rfl
   try simp only [Act.put, setIfInBounds_toArray, set_cons_zero, set_cons_succ]
   refine until_pure 38 (v := ?_) (by rfl) (by kernel_rfl) (by exact fun _ _ _ h => h) (by rfl) ?_ ?_
   rotate_left
   ·intro w
    go_simp
    try with_reducible rfl
   try simp only [Act.put, setIfInBounds_toArray, set_cons_zero, set_cons_succ]
   refine until_done (by kernel_rfl) ?_ _
   go_wp2_with fail
   go_roundw
   case rel => exact ⟨k + 1, by omega, by go_num, by rw [HSu.out], by rw [HI.out], D5.out⟩
   case measure => simp [intOf]; omega
  ·obtain rfl : k = n := by omega
   have HF4 : Hid (txt (upB l k) ++ txt (idxB l k) ++ fixed (txt (upB l k)).size 4 = txt (bodyF l)) := by
    have := body_four HK.out
    rw [HN.out] at this
    unfold Hid
    rw [← this, upB_size, txt_cat]
    unfold upB upI
    rw [List.append_assoc, HN.out]
   have HF8 : Hid (txt (bodyF l) ++ fixed (crc (txt (bodyF l))) 4 = txt (fileB l)) := file_four l
   have s1 := upB_size l k
   have s2 := idx_size HK.out k (by have := HN.out; omega)
   have s3 := atB_le HK.out k (by have := HN.out; omega)
   have s4 := bodyF_size HK.out
   have HC32 := crc_lt (txt (bodyF l))
   have z4 := four_small (txt (upB l k)).size
   have z8 := four_small (crc (txt (bodyF l)))
   have f4 := fun wx => spec_fixed (txt (upB l k)).size 4 wx (by omega) (by omega) (by omega)
   have f8 := fun wx => spec_fixed (crc (txt (bodyF l))) 4 wx (by omega) (by omega) (by omega)
   have cc := fun wx => spec_crc (txt (bodyF l)) wx (by omega)
   have hup : (txt (upB l k)).size ≤ 4504 := by rw [s1]; exact s3
   clear s1
   generalize hw6 : txt (upB l k) = up at *
   generalize hw0 : txt (idxB l k) = ix at *
   generalize hw1 : fixed up.size 4 = y1 at *
   generalize hb : txt (bodyF l) = bo at *
   generalize hw2 : fixed (crc bo) 4 = y2 at *
   generalize crc bo = cb at *
   clear hw6 hw0 hw1 hw2 hb
   have a1 : (up.size : Int) + (ix.size : Int) ≤ 9223372036854775807 := by omega
   have a2 : (up.size : Int) + (ix.size : Int) + (y1.size : Int) ≤ 9223372036854775807 := by omega
   have a3 : (bo.size : Int) + (y2.size : Int) ≤ 9223372036854775807 := by omega
   have HF4' := HF4.out
   go_wp2_with fail
   refine (f4 _).mono ?_
   rintro e Y1 ⟨rfl, hb1⟩
   have BY1 : Hid (Below w.heap.size w Y1) := HB1.out.trans (hb1.mono HB1.out.size)
   clear hb1
   go_wp2_with fail
   try rw [HF4']
   refine (cc _).mono ?_
   rintro e w' ⟨rfl, rfl⟩
   go_wp2_with fail
   refine (f8 _).mono ?_
   rintro e Y3 ⟨rfl, hb3⟩
   have BY3 : Hid (Below w.heap.size w Y3) := BY1.out.trans (hb3.mono BY1.out.size)
   clear hb3
   go_wp2_with fail
   go_ret
   refine ⟨?_, BY3.out⟩
   rw [HE.out, ← HF8.out]
   first | rfl | (rw [← HF4.out]; rfl)
end Go.Proofs.YtpmgndgkmffcnaaGreatDoor
namespace Go.Proofs.YtpmgndgkmffcnaaGreatDoor
open Go.ChangeShapes Go.WideShapes Go.ChangeAt Go.RowKit Go.PlainAid
set_option linter.unusedVariables false
theorem LKey.short {s : ByteArray} {L : List (Ser × Value)} (h : LKey s L) : SShort (L.map Prod.fst) := by
 refine ⟨by rw [List.length_map]; have := h.1; omega, fun x hx => ?_⟩
 obtain ⟨q, hq, rfl⟩ := List.mem_map.1 hx
 have := (h.2 q hq).1
 omega
theorem LKey.keys {s : ByteArray} {L : List (Ser × Value)} (h : LKey s L) (hs : s.size ≤ 1048576) : ∀ x ∈ L.map Prod.fst, x.key.size ≤ maxLen := by
 intro x hx
 obtain ⟨q, hq, rfl⟩ := List.mem_map.1 hx
 have := (h.2 q hq).2
 unfold maxLen
 omega
theorem rfs_no {s : ByteArray} {l : List Ser} (h : ∀ m, GoodF s m → l = m) (hne : fileT l ≠ s) : RfAns s [] false := .inr ⟨rfl, rfl, fun m hm => hne (by rw [h m hm]; exact hm.2.2)⟩
theorem rfs_yes {s : ByteArray} {l : List Ser} (h12 : 12 ≤ s.size) (he : fileT l = s) : RfAns s l true := by
 refine .inl ⟨rfl, GoodF.of ?_ (by omega) he⟩
 rcases Nat.eq_zero_or_pos l.length with h | h
 ·exfalso
  rw [fileT, if_neg (fun hh => by omega)] at he
  rw [← he, txt_size] at h12
  simp at h12
 ·exact h
set_option maxHeartbeats 2000000 in
theorem specReadFile (s : ByteArray) (w : World) (hs : s.size ≤ 1048576) : Calls Tryz.prog 70 #[.string s] w fun e w' => (∃ u L ok, RfAns s (L.map Prod.fst) ok ∧ e = .returned (.tuple #[u, .bool ok]) ∧ SerO w' w.heap.size u L) ∧ Below w.heap.size w w' := by
 have HS : Hid (s.size ≤ 1048576) := hs
 have c1 := specIndex s w hs
 clear hs
 go_enter Tryz.func70, Tryz.ntmps70
 go_wp2_with fail
 refine c1.mono ?_
 rintro e X1 ⟨⟨u, L, ok, rfl, hO, hK, hG, h12⟩, hb⟩
 have HO : Hid (SerO X1 w.heap.size u L) := hO
 have HK : Hid (LKey s L) := hK
 have HG : Hid (∀ m, GoodF s m → ok = true ∧ L.map Prod.fst = m) := hG
 have H12 : Hid (s.size < 12 → ok = false) := h12
 have B1 : Hid (Below w.heap.size w X1) := hb
 have BE : Hid (Below w.heap.size w (X1.alloc (.cells #[] 58))) := hb.alloc hb.size _
 have OE : Hid (SerO (X1.alloc (.cells #[] 58)) w.heap.size (.slice (some ⟨X1.heap.size, 0, none⟩) 0 0) []) := ⟨Owns.empty X1 w.heap.size 58 2 hb.size, fun p hp => (by cases hp), List.Pairwise.nil⟩
 clear hO hK hG h12 hb c1
 cases ok with
 | false =>
  have HN : Hid (RfAns s [] false) := .inr ⟨rfl, rfl, fun m hm => by have := (HG.out m hm).1; cases this⟩
  go_wp2_with fail
  refine bodyPost_ret (results_tmp2 rfl _ _ _) rfl ?_
  exact ⟨⟨_, [], false, HN.out, rfl, OE.out⟩, BE.out⟩
 | true =>
 have cF := specFileText (L.map Prod.fst) u X1 X1.heap.size HO.out.view HK.out.short (HK.out.keys HS.out) (Nat.le_refl _)
 have h12 : 12 ≤ s.size := by
  rcases Nat.lt_or_ge s.size 12 with h | h
  ·have := H12.out h
   cases this
  ·exact h
 have HH : Hid (12 ≤ s.size) := h12
 clear h12 BE OE
 by_cases hEq : fileT (L.map Prod.fst) = s
 ·have HY : Hid (RfAns s (L.map Prod.fst) true) := rfs_yes HH.out hEq
  rw [hEq] at cF
  clear hEq
  go_wp2_with fail
  refine cF.mono ?_
  rintro e Y ⟨rfl, hbY⟩
  have BY : Hid (Below w.heap.size w Y) := B1.out.trans (hbY.mono B1.out.size)
  have OY : Hid (SerO Y w.heap.size u L) := HO.out.on hbY
  clear hbY cF
  go_wp2_with fail
  refine bodyPost_ret (results_tmp2 rfl _ _ _) rfl ?_
  exact ⟨⟨_, L, true, HY.out, rfl, OY.out⟩, BY.out⟩
 ·have HN : Hid (RfAns s [] false) := rfs_no (fun m hm => (HG.out m hm).2) hEq
  have hne := bytes_ne hEq
  clear hEq
  go_wp2_with fail
  refine cF.mono ?_
  rintro e Y ⟨rfl, hbY⟩
  have BE : Hid (Below w.heap.size w (Y.alloc (.cells #[] 58))) := (B1.out.trans (hbY.mono B1.out.size)).alloc (Nat.le_trans B1.out.size hbY.size) _
  have OE : Hid (SerO (Y.alloc (.cells #[] 58)) w.heap.size (.slice (some ⟨Y.heap.size, 0, none⟩) 0 0) []) := ⟨Owns.empty Y w.heap.size 58 2 (Nat.le_trans B1.out.size hbY.size), fun p hp => (by cases hp), List.Pairwise.nil⟩
  clear hbY cF
  go_wp2_with fail
  refine bodyPost_ret (results_tmp2 rfl _ _ _) rfl ?_
  exact ⟨⟨_, [], false, HN.out, rfl, OE.out⟩, BE.out⟩
end Go.Proofs.YtpmgndgkmffcnaaGreatDoor
