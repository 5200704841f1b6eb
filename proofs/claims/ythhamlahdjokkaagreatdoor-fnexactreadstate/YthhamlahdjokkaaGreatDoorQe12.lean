/- SrOkS -/
import Derived.Test.YthhamlahdjokkaaGreatDoorQe7
open List (setIfInBounds_toArray set_cons_zero set_cons_succ)
namespace Go.Proofs.YthhamlahdjokkaaGreatDoor
open Go.ChangeShapes Go.WideShapes Go.ChangeAt Go.RowKit Go.PlainAid
set_option linter.unusedVariables false
set_option maxHeartbeats 8000000 in
theorem specSeriesOk (l : List Ser) (v : Value) (w : World) (B : Nat) (hv : SerV w B v l) (hn : SShort l) (hf : ∀ x ∈ l,x.key.size ≤ maxLen) (hB : B ≤ w.heap.size) : Calls Tryz.prog 58 #[v] w fun e w' => e = .returned (.bool (decide (SOk l))) ∧ Like w w' := by
 obtain ⟨A,cap,rfl,hl⟩ := hv.look
 have HL : Hid (∀ j,j < l.length → ∃ g off u,A = some ⟨g,off,none⟩ ∧ g < B ∧ w.cell? ⟨g,off + j * 2,none⟩ = some (.string (sAt l j).key) ∧ w.cell? ⟨g,off + j * 2 + 1,none⟩ = some u ∧ Lies w B 2 u (ptR (sAt l j).pts)) := hl
 have HB : Hid (B ≤ w.heap.size) := hB
 have HF : Hid (∀ j,j < l.length → (sAt l j).key.size ≤ maxLen ∧ (sAt l j).pts.length ≤ 1048576) := fun j hj => ⟨hf _ (getD_mem l j hj),hn.2 _ (getD_mem l j hj)⟩
 have HD : Hid (∀ b,(b = true ↔ SOk l) → decide (SOk l) = b) := fun b hb => dec_of b hb
 have HV : Hid (SOk l ↔ l.length ≤ 5 ∧ ∀ j,j < l.length → (KOk (sAt l j).key ∧ (0 < j → ahd (sAt l (j - 1)).key (sAt l j).key = true)) ∧ 1 ≤ (sAt l j).pts.length ∧ POk (sAt l j).pts) := Iff.rfl
 have q0 : (l.length : Int) ≤ 1048576 := by have := hn.1; omega
 clear hl hn hv hB hf
 generalize hN : l.length = n at *
 clear hN
 by_cases h2 : (5 : Int) < (n : Int)
 ·go_enter Tryz.func58,Tryz.ntmps58
  go_wp2
  go_ret
  refine ⟨?_,Like.refl _⟩
  rw [HD.out false]
  ·rfl
  rw [HV.out]
  exact ⟨fun h => (by cases h),fun h => by omega⟩
 have q1 : (n : Int) ≤ 5 := by omega
 clear h2
 go_enter Tryz.func58,Tryz.ntmps58
 go_wp2_with fail
 go_loopw [3] (fun v3 wr => ∃ k : Nat,k ≤ n ∧ v3 = .int .i64 (k : Int) ∧ Like w wr ∧ Hid (∀ j,j < k → (KOk (sAt l j).key ∧ (0 < j → ahd (sAt l (j - 1)).key (sAt l j).key = true)) ∧ 1 ≤ (sAt l j).pts.length ∧ POk (sAt l j).pts)) (fun i _ => n - (intOf i).toNat)
 case atStart => exact ⟨0,by omega,rfl,Like.refl _,fun j hj => by omega⟩
 case round =>
  obtain ⟨k,hk,rfl,hLk,HJ⟩ := hrel
  by_cases hlt : k < n
  ·have q2 : (k : Int) < (n : Int) := by omega
   obtain ⟨g,off,u,rfl,hg,e1,e2,hu⟩ := HL.out k hlt
   obtain ⟨g',off',u',e',hg',e0,_⟩ := HL.out (k - 1) (by omega)
   cases e'
   rw [← cell?_heap hLk.1] at e1 e2 e0
   have hfk := HF.out k hlt
   have HK : Hid ((sAt l k).key.size ≤ maxLen) := hfk.1
   have HPn : Hid ((sAt l k).pts.length ≤ 1048576) := hfk.2
   obtain ⟨A',cap',rfl,_⟩ := pt_look hu
   have HU := hQz hu
   have HNo : Hid ((¬ KOk (sAt l k).key ∨ (0 < k ∧ ahd (sAt l (k - 1)).key (sAt l k).key = false) ∨ (sAt l k).pts.length = 0 ∨ ¬ POk (sAt l k).pts) → decide (SOk l) = false) := fun h => by
    apply HD.out
    rw [HV.out]
    refine ⟨fun h => (by cases h),fun h2 => ?_⟩
    have h3 := h2.2 k hlt
    rcases h with h | h | h | h
    ·exact absurd h3.1.1 h
    ·have := h3.1.2 h.1
     rw [h.2] at this
     cases this
    ·omega
    ·exact absurd h3.2.2 h
   have HJ2 : Hid ((KOk (sAt l k).key ∧ (0 < k → ahd (sAt l (k - 1)).key (sAt l k).key = true)) ∧ 1 ≤ (sAt l k).pts.length ∧ POk (sAt l k).pts → ∀ j,j < k + 1 → (KOk (sAt l j).key ∧ (0 < j → ahd (sAt l (j - 1)).key (sAt l j).key = true)) ∧ 1 ≤ (sAt l j).pts.length ∧ POk (sAt l j).pts) := fun h j hj => by
    by_cases e : j = k
    ·rw [e]; exact h
    ·exact HJ.out j (by omega)
   clear hu hfk
   generalize hpk : (sAt l (k - 1)).key = pk at *
   generalize hx : sAt l k = x at *
   clear hx hpk hg hg'
   obtain ⟨xk,xp⟩ := x
   simp only at e1 e2 HK HPn HU HNo HJ2
   have c1 := fun wx => specKey xk wx HK.out
   have c2 := fun (wx : World) (hl : Like w wx) => specPointsOk xp (.slice A' xp.length cap') wx B (HU.out.heap hl.1) HPn.out (by rw [hl.1]; exact HB.out)
   generalize hpn : xp.length = pn at *
   clear hpn
   have S0 : Hid (wr.drew.cell? ⟨g,off + k * 2,none⟩ = some (.string xk) ∧ wr.drew.cell? ⟨g,off + k * 2 + 1,none⟩ = some (.slice A' pn cap') ∧ wr.drew.cell? ⟨g,off + (k - 1) * 2,none⟩ = some (.string pk)) := ⟨e1,e2,e0⟩
   have HLD : Hid (Like w wr.drew) := hLk
   clear e1 e2 e0
   by_cases k1 : ¬ KOk xk
   ·rw [decide_eq_false k1] at c1
    have K1 : Hid (¬ KOk xk) := k1
    clear k1
    go_wp2_with fail
    refine wp_region_until (fun w' => w'.cell? ⟨g,off + k * 2,none⟩ = some (.string xk) ∧ w'.cell? ⟨g,off + k * 2 + 1,none⟩ = some (.slice A' pn cap') ∧ w'.cell? ⟨g,off + (k - 1) * 2,none⟩ = some (.string pk)) (fun _ => false) 43 (by rfl) (by kernel_rfl) ?_
    refine tKf 0 S0.out ?_
    refine tKf 1 S0.out ?_
    refine tKf 2 S0.out ?_
    refine tKf 3 S0.out ?_
    refine tKf 4 S0.out ?_
    refine uNe 5 (fun K hK => ?_)
    go_simp
    refine (c1 _).mono ?_
    rintro e w' ⟨rfl,rfl⟩
    go_wp2_with fail
    refine hK.out _ _ (fun _ h => h) ?_
    clear hK K
    try simp only [Act.put,zQ1,zQ2,zQ3]
    refine tKf 6 S0.out ?_
    refine tKf 7 S0.out ?_
    refine sKf 8 ?_
    refine sKf 9 ?_
    refine sKf 10 ?_
    refine sKf 11 ?_
    refine sKf 12 ?_
    refine sKf 13 ?_
    refine sKf 14 ?_
    refine sKf 15 ?_
    refine sKf 16 ?_
    refine sKf 17 ?_
    refine sKf 18 ?_
    refine sKf 19 ?_
    refine sKf 20 ?_
    refine sKf 21 ?_
    refine sKf 22 ?_
    refine sKf 23 ?_
    refine tKf 24 S0.out ?_
    refine tKf 25 S0.out ?_
    refine sKf 26 ?_
    refine sKf 27 ?_
    refine sKf 28 ?_
    refine sKf 29 ?_
    refine sKf 30 ?_
    refine sKf 31 ?_
    refine sKf 32 ?_
    refine tKf 33 S0.out ?_
    refine tKf 34 S0.out ?_
    refine sKf 35 ?_
    refine sKf 36 ?_
    refine sKf 37 ?_
    refine sKf 38 ?_
    refine sKf 39 ?_
    refine sKf 40 ?_
    refine sKf 41 ?_
    refine tKf 42 S0.out ?_
    refine until_done (by kernel_rfl) ?_ _
    go_wp2_with fail
    go_ret
    exact ⟨by rw [HNo.out (.inl K1.out)]; rfl,HLD.out⟩
   have K1 : Hid (KOk xk) := (Decidable.not_not (p := KOk xk)).1 k1
   rw [decide_eq_true K1.out] at c1
   clear k1
   by_cases hk0 : k = 0
   ·have d0 : decide ((0 : Int) < (k : Int)) = false := decide_eq_false (by omega)
    have d1 : decide (0 < k) = false := decide_eq_false (by omega)
    have HK0 : Hid (k = 0) := hk0
    clear hk0
    by_cases k3 : pn = 0
    ·have K3 : Hid (pn = 0) := k3
     subst k3
     go_wp2_with fail
     refine wp_region_until (fun w' => w'.cell? ⟨g,off + k * 2,none⟩ = some (.string xk) ∧ w'.cell? ⟨g,off + k * 2 + 1,none⟩ = some (.slice A' 0 cap') ∧ w'.cell? ⟨g,off + (k - 1) * 2,none⟩ = some (.string pk)) (fun _ => false) 43 (by rfl) (by kernel_rfl) ?_
     refine tKf 0 S0.out ?_
     refine tKf 1 S0.out ?_
     refine tKf 2 S0.out ?_
     refine tKf 3 S0.out ?_
     refine tKf 4 S0.out ?_
     refine uNe 5 (fun K hK => ?_)
     go_simp
     refine (c1 _).mono ?_
     rintro e w' ⟨rfl,rfl⟩
     go_wp2_with fail
     refine hK.out _ _ (fun _ h => h) ?_
     clear hK K
     try simp only [Act.put,zQ1,zQ2,zQ3]
     refine tKf 6 S0.out ?_
     refine tKf 7 S0.out ?_
     refine tKf 8 S0.out ?_
     refine tKf 9 S0.out ?_
     refine tKf 10 S0.out ?_
     refine sKf 11 ?_
     refine sKf 12 ?_
     refine sKf 13 ?_
     refine sKf 14 ?_
     refine sKf 15 ?_
     refine sKf 16 ?_
     refine sKf 17 ?_
     refine sKf 18 ?_
     refine sKf 19 ?_
     refine sKf 20 ?_
     refine sKf 21 ?_
     refine sKf 22 ?_
     refine tKf 23 S0.out ?_
     refine tKf 24 S0.out ?_
     refine tKf 25 S0.out ?_
     refine tKf 26 S0.out ?_
     refine tKf 27 S0.out ?_
     refine tKf 28 S0.out ?_
     refine tKf 29 S0.out ?_
     refine tKf 30 S0.out ?_
     refine tKf 31 S0.out ?_
     refine tKf 32 S0.out ?_
     refine tKf 33 S0.out ?_
     refine tKf 34 S0.out ?_
     refine sKf 35 ?_
     refine sKf 36 ?_
     refine sKf 37 ?_
     refine sKf 38 ?_
     refine sKf 39 ?_
     refine sKf 40 ?_
     refine sKf 41 ?_
     refine tKf 42 S0.out ?_
     refine until_done (by kernel_rfl) ?_ _
     go_wp2_with fail
     go_ret
     exact ⟨by rw [HNo.out (.inr (.inr (.inl K3.out)))]; rfl,HLD.out⟩
    have K3 : Hid (1 ≤ pn) := by unfold Hid; omega
    have d3 : decide ((pn : Int) = 0) = false := decide_eq_false (by omega)
    have d4 : ((pn : Int) == 0) = false := by rw [beq_eq_false_iff_ne]; omega
    clear k3
    by_cases k4 : ¬ POk xp
    ·rw [decide_eq_false k4] at c2
     have K4 : Hid (¬ POk xp) := k4
     clear k4
     go_wp2_with fail
     refine wp_region_until (fun w' => w'.cell? ⟨g,off + k * 2,none⟩ = some (.string xk) ∧ w'.cell? ⟨g,off + k * 2 + 1,none⟩ = some (.slice A' pn cap') ∧ w'.cell? ⟨g,off + (k - 1) * 2,none⟩ = some (.string pk)) (fun _ => false) 43 (by rfl) (by kernel_rfl) ?_
     refine tKf 0 S0.out ?_
     refine tKf 1 S0.out ?_
     refine tKf 2 S0.out ?_
     refine tKf 3 S0.out ?_
     refine tKf 4 S0.out ?_
     refine uNe 5 (fun K hK => ?_)
     go_simp
     refine (c1 _).mono ?_
     rintro e w' ⟨rfl,rfl⟩
     go_wp2_with fail
     refine hK.out _ _ (fun _ h => h) ?_
     clear hK K
     try simp only [Act.put,zQ1,zQ2,zQ3]
     refine tKf 6 S0.out ?_
     refine tKf 7 S0.out ?_
     refine tKf 8 S0.out ?_
     refine tKf 9 S0.out ?_
     refine tKf 10 S0.out ?_
     refine sKf 11 ?_
     refine sKf 12 ?_
     refine sKf 13 ?_
     refine sKf 14 ?_
     refine sKf 15 ?_
     refine sKf 16 ?_
     refine sKf 17 ?_
     refine sKf 18 ?_
     refine sKf 19 ?_
     refine sKf 20 ?_
     refine sKf 21 ?_
     refine sKf 22 ?_
     refine tKf 23 S0.out ?_
     refine tKf 24 S0.out ?_
     refine tKf 25 S0.out ?_
     refine tKf 26 S0.out ?_
     refine tKf 27 S0.out ?_
     refine tKf 28 S0.out ?_
     refine tKf 29 S0.out ?_
     refine tKf 30 S0.out ?_
     refine tKf 31 S0.out ?_
     refine tKf 32 S0.out ?_
     refine tKf 33 S0.out ?_
     refine tKf 34 S0.out ?_
     refine tKf 35 S0.out ?_
     refine tKf 36 S0.out ?_
     refine tKf 37 S0.out ?_
     refine tKf 38 S0.out ?_
     refine tKf 39 S0.out ?_
     refine uNe 40 (fun K hK => ?_)
     go_simp
     refine (c2 _ HLD.out).mono ?_
     rintro e w' ⟨rfl,hLi⟩
     go_wp2_with fail
     refine hK.out _ _ (fun _ h => ⟨(cell?_heap hLi.1 _).trans h.1,(cell?_heap hLi.1 _).trans h.2.1,(cell?_heap hLi.1 _).trans h.2.2⟩) ?_
     clear hK K
     have L2 : Hid (Like w w') := ⟨hLi.1.trans HLD.out.1,hLi.2.1.trans HLD.out.2.1,hLi.2.2.1.trans HLD.out.2.2.1,hLi.2.2.2.trans HLD.out.2.2.2⟩
     have S2 : Hid ((fun w' => w'.cell? ⟨g,off + k * 2,none⟩ = some (.string xk) ∧ w'.cell? ⟨g,off + k * 2 + 1,none⟩ = some (.slice A' pn cap') ∧ w'.cell? ⟨g,off + (k - 1) * 2,none⟩ = some (.string pk)) w') := ⟨(cell?_heap hLi.1 _).trans S0.out.1,(cell?_heap hLi.1 _).trans S0.out.2.1,(cell?_heap hLi.1 _).trans S0.out.2.2⟩
     clear hLi
     try simp only [Act.put,zQ1,zQ2,zQ3]
     refine tKf 41 S2.out ?_
     refine tKf 42 S2.out ?_
     refine until_done (by kernel_rfl) ?_ _
     go_wp2_with fail
     go_ret
     exact ⟨by rw [HNo.out (.inr (.inr (.inr K4.out)))]; rfl,L2.out⟩
    have K4 : Hid (POk xp) := (Decidable.not_not (p := POk xp)).1 k4
    rw [decide_eq_true K4.out] at c2
    clear k4
    go_wp2_with fail
    refine wp_region_until (fun w' => w'.cell? ⟨g,off + k * 2,none⟩ = some (.string xk) ∧ w'.cell? ⟨g,off + k * 2 + 1,none⟩ = some (.slice A' pn cap') ∧ w'.cell? ⟨g,off + (k - 1) * 2,none⟩ = some (.string pk)) (fun _ => false) 43 (by rfl) (by kernel_rfl) ?_
    refine tKf 0 S0.out ?_
    refine tKf 1 S0.out ?_
    refine tKf 2 S0.out ?_
    refine tKf 3 S0.out ?_
    refine tKf 4 S0.out ?_
    refine uNe 5 (fun K hK => ?_)
    go_simp
    refine (c1 _).mono ?_
    rintro e w' ⟨rfl,rfl⟩
    go_wp2_with fail
    refine hK.out _ _ (fun _ h => h) ?_
    clear hK K
    try simp only [Act.put,zQ1,zQ2,zQ3]
    refine tKf 6 S0.out ?_
    refine tKf 7 S0.out ?_
    refine tKf 8 S0.out ?_
    refine tKf 9 S0.out ?_
    refine tKf 10 S0.out ?_
    refine sKf 11 ?_
    refine sKf 12 ?_
    refine sKf 13 ?_
    refine sKf 14 ?_
    refine sKf 15 ?_
    refine sKf 16 ?_
    refine sKf 17 ?_
    refine sKf 18 ?_
    refine sKf 19 ?_
    refine sKf 20 ?_
    refine sKf 21 ?_
    refine sKf 22 ?_
    refine tKf 23 S0.out ?_
    refine tKf 24 S0.out ?_
    refine tKf 25 S0.out ?_
    refine tKf 26 S0.out ?_
    refine tKf 27 S0.out ?_
    refine tKf 28 S0.out ?_
    refine tKf 29 S0.out ?_
    refine tKf 30 S0.out ?_
    refine tKf 31 S0.out ?_
    refine tKf 32 S0.out ?_
    refine tKf 33 S0.out ?_
    refine tKf 34 S0.out ?_
    refine tKf 35 S0.out ?_
    refine tKf 36 S0.out ?_
    refine tKf 37 S0.out ?_
    refine tKf 38 S0.out ?_
    refine tKf 39 S0.out ?_
    refine uNe 40 (fun K hK => ?_)
    go_simp
    refine (c2 _ HLD.out).mono ?_
    rintro e w' ⟨rfl,hLi⟩
    go_wp2_with fail
    refine hK.out _ _ (fun _ h => ⟨(cell?_heap hLi.1 _).trans h.1,(cell?_heap hLi.1 _).trans h.2.1,(cell?_heap hLi.1 _).trans h.2.2⟩) ?_
    clear hK K
    have L2 : Hid (Like w w') := ⟨hLi.1.trans HLD.out.1,hLi.2.1.trans HLD.out.2.1,hLi.2.2.1.trans HLD.out.2.2.1,hLi.2.2.2.trans HLD.out.2.2.2⟩
    have S2 : Hid ((fun w' => w'.cell? ⟨g,off + k * 2,none⟩ = some (.string xk) ∧ w'.cell? ⟨g,off + k * 2 + 1,none⟩ = some (.slice A' pn cap') ∧ w'.cell? ⟨g,off + (k - 1) * 2,none⟩ = some (.string pk)) w') := ⟨(cell?_heap hLi.1 _).trans S0.out.1,(cell?_heap hLi.1 _).trans S0.out.2.1,(cell?_heap hLi.1 _).trans S0.out.2.2⟩
    clear hLi
    try simp only [Act.put,zQ1,zQ2,zQ3]
    refine tKf 41 S2.out ?_
    refine tKf 42 S2.out ?_
    refine until_done (by kernel_rfl) ?_ _
    go_wp2_with fail
    go_roundw
    case rel => exact ⟨k + 1,by omega,by go_num,L2.out,HJ2.out ⟨⟨K1.out,fun h => absurd h (by have := HK0.out; omega)⟩,K3.out,K4.out⟩⟩
    case measure => simp [intOf]; omega
   have q3 : (0 : Int) < (k : Int) := by omega
   have q4 : decide (0 < k) = true := decide_eq_true (by omega)
   have q5 : 0 < k := by omega
   have e3 : ((k : Int) - 1).toNat = k - 1 := by omega
   have e9 : IntKind.i64.wrap ((k : Int) - 1) = (k : Int) - 1 := by rw [IntKind.wrap_i64]; omega
   have e4 : (1 : Int) ≤ (k : Int) := by omega
   have e5 : (k : Int) - 1 < (n : Int) := by omega
   cases k2 : ahd pk xk with
   | false =>
    have hle : Op.bytesLess pk.toList xk.toList = false := k2
    have K2 : Hid (ahd pk xk = false) := k2
    clear k2
    go_wp2_with fail
    refine wp_region_until (fun w' => w'.cell? ⟨g,off + k * 2,none⟩ = some (.string xk) ∧ w'.cell? ⟨g,off + k * 2 + 1,none⟩ = some (.slice A' pn cap') ∧ w'.cell? ⟨g,off + (k - 1) * 2,none⟩ = some (.string pk)) (fun _ => false) 43 (by rfl) (by kernel_rfl) ?_
    refine tKf 0 S0.out ?_
    refine tKf 1 S0.out ?_
    refine tKf 2 S0.out ?_
    refine tKf 3 S0.out ?_
    refine tKf 4 S0.out ?_
    refine uNe 5 (fun K hK => ?_)
    go_simp
    refine (c1 _).mono ?_
    rintro e w' ⟨rfl,rfl⟩
    go_wp2_with fail
    refine hK.out _ _ (fun _ h => h) ?_
    clear hK K
    try simp only [Act.put,zQ1,zQ2,zQ3]
    refine tKf 6 S0.out ?_
    refine tKf 7 S0.out ?_
    refine tKf 8 S0.out ?_
    refine tKf 9 S0.out ?_
    refine tKf 10 S0.out ?_
    refine tKf 11 S0.out ?_
    refine tKf 12 S0.out ?_
    refine tKe 13 (v := .int .i64 ((k : Int) - 1)) S0.out ?_ ?_
    ·intro w hSw
     try dsimp only at hSw
     go_simp
     try rw [e9]
    try simp only [Act.put,zQ1,zQ2,zQ3]
    refine tKf 14 S0.out ?_
    refine tKf 15 S0.out ?_
    refine tKf 16 S0.out ?_
    refine tKf 17 S0.out ?_
    refine tKf 18 S0.out ?_
    refine tKf 19 S0.out ?_
    refine tKf 20 S0.out ?_
    refine tKf 21 S0.out ?_
    refine tKf 22 S0.out ?_
    refine tKf 23 S0.out ?_
    refine tKf 24 S0.out ?_
    refine tKf 25 S0.out ?_
    refine sKf 26 ?_
    refine sKf 27 ?_
    refine sKf 28 ?_
    refine sKf 29 ?_
    refine sKf 30 ?_
    refine sKf 31 ?_
    refine sKf 32 ?_
    refine tKf 33 S0.out ?_
    refine tKf 34 S0.out ?_
    refine sKf 35 ?_
    refine sKf 36 ?_
    refine sKf 37 ?_
    refine sKf 38 ?_
    refine sKf 39 ?_
    refine sKf 40 ?_
    refine sKf 41 ?_
    refine tKf 42 S0.out ?_
    refine until_done (by kernel_rfl) ?_ _
    go_wp2_with fail
    go_ret
    exact ⟨by rw [HNo.out (.inr (.inl ⟨q5,K2.out⟩))]; rfl,HLD.out⟩
   | true =>
   have hle : Op.bytesLess pk.toList xk.toList = true := k2
   have K2 : Hid (ahd pk xk = true) := k2
   clear k2
   by_cases k3 : pn = 0
   ·have K3 : Hid (pn = 0) := k3
    subst k3
    go_wp2_with fail
    refine wp_region_until (fun w' => w'.cell? ⟨g,off + k * 2,none⟩ = some (.string xk) ∧ w'.cell? ⟨g,off + k * 2 + 1,none⟩ = some (.slice A' 0 cap') ∧ w'.cell? ⟨g,off + (k - 1) * 2,none⟩ = some (.string pk)) (fun _ => false) 43 (by rfl) (by kernel_rfl) ?_
    refine tKf 0 S0.out ?_
    refine tKf 1 S0.out ?_
    refine tKf 2 S0.out ?_
    refine tKf 3 S0.out ?_
    refine tKf 4 S0.out ?_
    refine uNe 5 (fun K hK => ?_)
    go_simp
    refine (c1 _).mono ?_
    rintro e w' ⟨rfl,rfl⟩
    go_wp2_with fail
    refine hK.out _ _ (fun _ h => h) ?_
    clear hK K
    try simp only [Act.put,zQ1,zQ2,zQ3]
    refine tKf 6 S0.out ?_
    refine tKf 7 S0.out ?_
    refine tKf 8 S0.out ?_
    refine tKf 9 S0.out ?_
    refine tKf 10 S0.out ?_
    refine tKf 11 S0.out ?_
    refine tKf 12 S0.out ?_
    refine tKe 13 (v := .int .i64 ((k : Int) - 1)) S0.out ?_ ?_
    ·intro w hSw
     try dsimp only at hSw
     go_simp
     try rw [e9]
    try simp only [Act.put,zQ1,zQ2,zQ3]
    refine tKf 14 S0.out ?_
    refine tKf 15 S0.out ?_
    refine tKf 16 S0.out ?_
    refine tKf 17 S0.out ?_
    refine tKf 18 S0.out ?_
    refine tKf 19 S0.out ?_
    refine tKf 20 S0.out ?_
    refine tKf 21 S0.out ?_
    refine tKf 22 S0.out ?_
    refine tKf 23 S0.out ?_
    refine tKf 24 S0.out ?_
    refine tKf 25 S0.out ?_
    refine tKf 26 S0.out ?_
    refine tKf 27 S0.out ?_
    refine tKf 28 S0.out ?_
    refine tKf 29 S0.out ?_
    refine tKf 30 S0.out ?_
    refine tKf 31 S0.out ?_
    refine tKf 32 S0.out ?_
    refine tKf 33 S0.out ?_
    refine tKf 34 S0.out ?_
    refine sKf 35 ?_
    refine sKf 36 ?_
    refine sKf 37 ?_
    refine sKf 38 ?_
    refine sKf 39 ?_
    refine sKf 40 ?_
    refine sKf 41 ?_
    refine tKf 42 S0.out ?_
    refine until_done (by kernel_rfl) ?_ _
    go_wp2_with fail
    go_ret
    exact ⟨by rw [HNo.out (.inr (.inr (.inl K3.out)))]; rfl,HLD.out⟩
   have K3 : Hid (1 ≤ pn) := by unfold Hid; omega
   have d3 : decide ((pn : Int) = 0) = false := decide_eq_false (by omega)
   have d4 : ((pn : Int) == 0) = false := by rw [beq_eq_false_iff_ne]; omega
   clear k3
   by_cases k4 : ¬ POk xp
   ·rw [decide_eq_false k4] at c2
    have K4 : Hid (¬ POk xp) := k4
    clear k4
    go_wp2_with fail
    refine wp_region_until (fun w' => w'.cell? ⟨g,off + k * 2,none⟩ = some (.string xk) ∧ w'.cell? ⟨g,off + k * 2 + 1,none⟩ = some (.slice A' pn cap') ∧ w'.cell? ⟨g,off + (k - 1) * 2,none⟩ = some (.string pk)) (fun _ => false) 43 (by rfl) (by kernel_rfl) ?_
    refine tKf 0 S0.out ?_
    refine tKf 1 S0.out ?_
    refine tKf 2 S0.out ?_
    refine tKf 3 S0.out ?_
    refine tKf 4 S0.out ?_
    refine uNe 5 (fun K hK => ?_)
    go_simp
    refine (c1 _).mono ?_
    rintro e w' ⟨rfl,rfl⟩
    go_wp2_with fail
    refine hK.out _ _ (fun _ h => h) ?_
    clear hK K
    try simp only [Act.put,zQ1,zQ2,zQ3]
    refine tKf 6 S0.out ?_
    refine tKf 7 S0.out ?_
    refine tKf 8 S0.out ?_
    refine tKf 9 S0.out ?_
    refine tKf 10 S0.out ?_
    refine tKf 11 S0.out ?_
    refine tKf 12 S0.out ?_
    refine tKe 13 (v := .int .i64 ((k : Int) - 1)) S0.out ?_ ?_
    ·intro w hSw
     try dsimp only at hSw
     go_simp
     try rw [e9]
    try simp only [Act.put,zQ1,zQ2,zQ3]
    refine tKf 14 S0.out ?_
    refine tKf 15 S0.out ?_
    refine tKf 16 S0.out ?_
    refine tKf 17 S0.out ?_
    refine tKf 18 S0.out ?_
    refine tKf 19 S0.out ?_
    refine tKf 20 S0.out ?_
    refine tKf 21 S0.out ?_
    refine tKf 22 S0.out ?_
    refine tKf 23 S0.out ?_
    refine tKf 24 S0.out ?_
    refine tKf 25 S0.out ?_
    refine tKf 26 S0.out ?_
    refine tKf 27 S0.out ?_
    refine tKf 28 S0.out ?_
    refine tKf 29 S0.out ?_
    refine tKf 30 S0.out ?_
    refine tKf 31 S0.out ?_
    refine tKf 32 S0.out ?_
    refine tKf 33 S0.out ?_
    refine tKf 34 S0.out ?_
    refine tKf 35 S0.out ?_
    refine tKf 36 S0.out ?_
    refine tKf 37 S0.out ?_
    refine tKf 38 S0.out ?_
    refine tKf 39 S0.out ?_
    refine uNe 40 (fun K hK => ?_)
    go_simp
    refine (c2 _ HLD.out).mono ?_
    rintro e w' ⟨rfl,hLi⟩
    go_wp2_with fail
    refine hK.out _ _ (fun _ h => ⟨(cell?_heap hLi.1 _).trans h.1,(cell?_heap hLi.1 _).trans h.2.1,(cell?_heap hLi.1 _).trans h.2.2⟩) ?_
    clear hK K
    have L2 : Hid (Like w w') := ⟨hLi.1.trans HLD.out.1,hLi.2.1.trans HLD.out.2.1,hLi.2.2.1.trans HLD.out.2.2.1,hLi.2.2.2.trans HLD.out.2.2.2⟩
    have S2 : Hid ((fun w' => w'.cell? ⟨g,off + k * 2,none⟩ = some (.string xk) ∧ w'.cell? ⟨g,off + k * 2 + 1,none⟩ = some (.slice A' pn cap') ∧ w'.cell? ⟨g,off + (k - 1) * 2,none⟩ = some (.string pk)) w') := ⟨(cell?_heap hLi.1 _).trans S0.out.1,(cell?_heap hLi.1 _).trans S0.out.2.1,(cell?_heap hLi.1 _).trans S0.out.2.2⟩
    clear hLi
    try simp only [Act.put,zQ1,zQ2,zQ3]
    refine tKf 41 S2.out ?_
    refine tKf 42 S2.out ?_
    refine until_done (by kernel_rfl) ?_ _
    go_wp2_with fail
    go_ret
    exact ⟨by rw [HNo.out (.inr (.inr (.inr K4.out)))]; rfl,L2.out⟩
   have K4 : Hid (POk xp) := (Decidable.not_not (p := POk xp)).1 k4
   rw [decide_eq_true K4.out] at c2
   clear k4
   go_wp2_with fail
   refine wp_region_until (fun w' => w'.cell? ⟨g,off + k * 2,none⟩ = some (.string xk) ∧ w'.cell? ⟨g,off + k * 2 + 1,none⟩ = some (.slice A' pn cap') ∧ w'.cell? ⟨g,off + (k - 1) * 2,none⟩ = some (.string pk)) (fun _ => false) 43 (by rfl) (by kernel_rfl) ?_
   refine tKf 0 S0.out ?_
   refine tKf 1 S0.out ?_
   refine tKf 2 S0.out ?_
   refine tKf 3 S0.out ?_
   refine tKf 4 S0.out ?_
   refine uNe 5 (fun K hK => ?_)
   go_simp
   refine (c1 _).mono ?_
   rintro e w' ⟨rfl,rfl⟩
   go_wp2_with fail
   refine hK.out _ _ (fun _ h => h) ?_
   clear hK K
   try simp only [Act.put,zQ1,zQ2,zQ3]
   refine tKf 6 S0.out ?_
   refine tKf 7 S0.out ?_
   refine tKf 8 S0.out ?_
   refine tKf 9 S0.out ?_
   refine tKf 10 S0.out ?_
   refine tKf 11 S0.out ?_
   refine tKf 12 S0.out ?_
   refine tKe 13 (v := .int .i64 ((k : Int) - 1)) S0.out ?_ ?_
   ·intro w hSw
    try dsimp only at hSw
    go_simp
    try rw [e9]
   try simp only [Act.put,zQ1,zQ2,zQ3]
   refine tKf 14 S0.out ?_
   refine tKf 15 S0.out ?_
   refine tKf 16 S0.out ?_
   refine tKf 17 S0.out ?_
   refine tKf 18 S0.out ?_
   refine tKf 19 S0.out ?_
   refine tKf 20 S0.out ?_
   refine tKf 21 S0.out ?_
   refine tKf 22 S0.out ?_
   refine tKf 23 S0.out ?_
   refine tKf 24 S0.out ?_
   refine tKf 25 S0.out ?_
   refine tKf 26 S0.out ?_
   refine tKf 27 S0.out ?_
   refine tKf 28 S0.out ?_
   refine tKf 29 S0.out ?_
   refine tKf 30 S0.out ?_
   refine tKf 31 S0.out ?_
   refine tKf 32 S0.out ?_
   refine tKf 33 S0.out ?_
   refine tKf 34 S0.out ?_
   refine tKf 35 S0.out ?_
   refine tKf 36 S0.out ?_
   refine tKf 37 S0.out ?_
   refine tKf 38 S0.out ?_
   refine tKf 39 S0.out ?_
   refine uNe 40 (fun K hK => ?_)
   go_simp
   refine (c2 _ HLD.out).mono ?_
   rintro e w' ⟨rfl,hLi⟩
   go_wp2_with fail
   refine hK.out _ _ (fun _ h => ⟨(cell?_heap hLi.1 _).trans h.1,(cell?_heap hLi.1 _).trans h.2.1,(cell?_heap hLi.1 _).trans h.2.2⟩) ?_
   clear hK K
   have L2 : Hid (Like w w') := ⟨hLi.1.trans HLD.out.1,hLi.2.1.trans HLD.out.2.1,hLi.2.2.1.trans HLD.out.2.2.1,hLi.2.2.2.trans HLD.out.2.2.2⟩
   have S2 : Hid ((fun w' => w'.cell? ⟨g,off + k * 2,none⟩ = some (.string xk) ∧ w'.cell? ⟨g,off + k * 2 + 1,none⟩ = some (.slice A' pn cap') ∧ w'.cell? ⟨g,off + (k - 1) * 2,none⟩ = some (.string pk)) w') := ⟨(cell?_heap hLi.1 _).trans S0.out.1,(cell?_heap hLi.1 _).trans S0.out.2.1,(cell?_heap hLi.1 _).trans S0.out.2.2⟩
   clear hLi
   try simp only [Act.put,zQ1,zQ2,zQ3]
   refine tKf 41 S2.out ?_
   refine tKf 42 S2.out ?_
   refine until_done (by kernel_rfl) ?_ _
   go_wp2_with fail
   go_roundw
   case rel => exact ⟨k + 1,by omega,by go_num,L2.out,HJ2.out ⟨⟨K1.out,fun _ => K2.out⟩,K3.out,K4.out⟩⟩
   case measure => simp [intOf]; omega
  ·obtain rfl : k = n := by omega
   go_wp2_with fail
   go_ret
   refine ⟨?_,hLk⟩
   rw [HD.out true]
   ·rfl
   rw [HV.out]
   exact ⟨fun _ => ⟨by omega,HJ.out⟩,fun _ => rfl⟩
end Go.Proofs.YthhamlahdjokkaaGreatDoor
