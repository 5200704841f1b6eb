/- SrOk FlText FlReadI StRow SeLaw BkLaw EgS2 -/
import Derived.Test.YthhamlahdjokkaaGreatDoorRows
import Derived.Test.YthhamlahdjokkaaGreatDoorQh3
import Derived.Test.YthhamlahdjokkaaGreatDoorQh5
import Derived.Test.YthhamlahdjokkaaGreatDoorQh1
import Derived.WalkKit
import Derived.ProofKit
import Derived.OpenShut
import Derived.Below
import Derived.WalkSmall
import Derived.BigQuiet
import Derived.Deep.QuietTactic
import Derived.Deep.RegionWith
import Derived.Test.YthhamlahdjokkaaGreatDoorQh7
import Derived.Test.YthhamlahdjokkaaGreatDoorQh0
import Derived.Handy
import Derived.Test.YthhamlahdjokkaaGreatDoorQh4
import Derived.Test.YthhamlahdjokkaaGreatDoorQh6
import Derived.WalkLawsBesides
import Derived.Outline
open List (setIfInBounds_toArray set_cons_zero set_cons_succ)
namespace Go.Proofs.YthhamlahdjokkaaGreatDoor
open Go.ChangeShapes Go.WideShapes Go.ChangeAt Go.RowKit Go.PlainAid
set_option linter.unusedVariables false
set_option maxHeartbeats 1000000 in
theorem implIsKey (s : ByteArray) (w : World) (hs : s.size ≤ maxLen) : Calls Tryz.prog 116 #[.string s] w fun e w' => e = .returned (.bool (decide (KOk s))) ∧ w = w' := by
 have hbt := get_bn s
 have q0 : (s.size : Int) ≤ 9223372036854775807 := by unfold maxLen at hs; omega
 have HD : Hid (∀ b, (b = true ↔ KOk s) → decide (KOk s) = b) := fun b hb => dec_of b hb
 have HV : Hid (KOk s ↔ 1 ≤ s.size ∧ s.size ≤ 8 ∧ ∀ j, j < s.size → 97 ≤ bn s j ∧ bn s j ≤ 122) := Iff.rfl
 clear hs
 by_cases h0 : s.size = 0
 ·obtain rfl : s = ⟨#[]⟩ := by
   have e : s.data.toList = [] := List.eq_nil_of_length_eq_zero (by rw [Array.length_toList]; exact h0)
   rw [← txt_toList s, e]
   rfl
  clear HV hbt q0 h0
  have he : decide (KOk ⟨#[]⟩) = false := HD.out false ⟨fun h => (by cases h), fun h => absurd h.1 (by simp [ByteArray.size])⟩
  rw [he]
  go_enter Tryz.func116, Tryz.ntmps116
  go_wp2
  go_ret
  exact ⟨rfl, rfl⟩
 have hne : s.toList.isEmpty = false := by
  rw [Lib.toList_data]
  cases e : s.data.toList with
  | nil => exact absurd (by rw [ByteArray.size, ← Array.length_toList, e]; rfl) h0
  | cons a l => rfl
 have H1 : Hid (1 ≤ s.size) := by unfold Hid; omega
 by_cases h2 : (8 : Int) < (s.size : Int)
 ·go_enter Tryz.func116, Tryz.ntmps116
  go_wp2
  go_ret
  refine ⟨?_, rfl⟩
  rw [HD.out false]
  ·rfl
  rw [HV.out]
  exact ⟨fun h => (by cases h), fun h => by omega⟩
 have q1 : (s.size : Int) ≤ 8 := by omega
 have q2 : decide ((8 : Int) < (s.size : Int)) = false := decide_eq_false h2
 clear h2 h0
 go_enter Tryz.func116, Tryz.ntmps116
 go_wp2_with fail
 go_loop [13] (fun v => ∃ k : Nat, k ≤ s.size ∧ v = .int .i64 (k : Int) ∧ Hid (∀ j, j < k → 97 ≤ bn s j ∧ bn s j ≤ 122)) (fun i => s.size - (intOf i).toNat)
 case atStart => exact ⟨0, by omega, rfl, fun j hj => by omega⟩
 case round =>
  obtain ⟨k, hk, rfl, HJ⟩ := hrel
  by_cases hlt : k < s.size
  ·have q4 : (k : Int) < (s.size : Int) := by omega
   have r2 := bn_lt s k
   have HNo : Hid ((bn s k < 97 ∨ 122 < bn s k) → decide (KOk s) = false) := fun h => by
    apply HD.out
    rw [HV.out]
    refine ⟨fun h => (by cases h), fun h2 => ?_⟩
    have := h2.2.2 k hlt
    omega
   by_cases c2 : (bn s k : Int) < 97
   ·go_wp2_with fail
    go_ret
    exact ⟨by rw [HNo.out (.inl (by omega))]; rfl, rfl⟩
   have d2 : decide ((bn s k : Int) < 97) = false := decide_eq_false c2
   by_cases c3 : (122 : Int) < (bn s k : Int)
   ·go_wp2_with fail
    go_ret
    exact ⟨by rw [HNo.out (.inr (by omega))]; rfl, rfl⟩
   have d3 : decide ((122 : Int) < (bn s k : Int)) = false := decide_eq_false c3
   go_wp2_with fail
   go_round
   case rel =>
    refine ⟨k + 1, by omega, by go_num, fun j hj => ?_⟩
    by_cases e : j = k
    ·rw [e]
     omega
    ·exact HJ.out j (by omega)
   case measure => simp [intOf]; omega
  ·obtain rfl : k = s.size := by omega
   go_wp2_with fail
   go_ret
   refine ⟨?_, rfl⟩
   rw [HD.out true]
   ·rfl
   rw [HV.out]
   exact ⟨fun _ => ⟨H1.out, by omega, HJ.out⟩, fun _ => rfl⟩
set_option maxHeartbeats 1000000 in
theorem specKey (s : ByteArray) (w : World) (hs : s.size ≤ maxLen) : Calls Tryz.prog 101 #[.string s] w fun e w' => e = .returned (.bool (decide (KOk s))) ∧ w = w' := by
 have hbt := get_bn s
 have q0 : (s.size : Int) ≤ 9223372036854775807 := by unfold maxLen at hs; omega
 have HD : Hid (∀ b, (b = true ↔ KOk s) → decide (KOk s) = b) := fun b hb => dec_of b hb
 have HV : Hid (KOk s ↔ 1 ≤ s.size ∧ s.size ≤ 8 ∧ ∀ j, j < s.size → 97 ≤ bn s j ∧ bn s j ≤ 122) := Iff.rfl
 clear hs
 by_cases h2 : (s.size : Int) < 1 ∨ (8 : Int) < (s.size : Int)
 ·have c1 := fun wx => in_no (s.size : Int) 1 8 wx h2
  have H2 : Hid ((s.size : Int) < 1 ∨ (8 : Int) < (s.size : Int)) := h2
  clear h2
  go_enter Tryz.func101, Tryz.ntmps101
  go_wp2_with fail
  refine (c1 _).mono ?_
  rintro e w' ⟨rfl, rfl⟩
  go_wp2_with fail
  go_ret
  refine ⟨?_, rfl⟩
  rw [HD.out false]
  ·rfl
  rw [HV.out]
  have := H2.out
  exact ⟨fun h => (by cases h), fun h => by omega⟩
 have c1 := fun wx => in_yes (s.size : Int) 1 8 wx (by omega) (by omega)
 have q1 : (s.size : Int) ≤ 8 := by omega
 have H1 : Hid (1 ≤ s.size) := by unfold Hid; omega
 clear h2
 go_enter Tryz.func101, Tryz.ntmps101
 go_wp2_with fail
 refine (c1 _).mono ?_
 rintro e w' ⟨rfl, rfl⟩
 go_wp2_with fail
 go_loop [3] (fun v => ∃ k : Nat, k ≤ s.size ∧ v = .int .i64 (k : Int) ∧ Hid (∀ j, j < k → 97 ≤ bn s j ∧ bn s j ≤ 122)) (fun i => s.size - (intOf i).toNat)
 case atStart => exact ⟨0, by omega, rfl, fun j hj => by omega⟩
 case round =>
  obtain ⟨k, hk, rfl, HJ⟩ := hrel
  by_cases hlt : k < s.size
  ·have q4 : (k : Int) < (s.size : Int) := by omega
   have r2 := bn_lt s k
   have HNo : Hid ((bn s k < 97 ∨ 122 < bn s k) → decide (KOk s) = false) := fun h => by
    apply HD.out
    rw [HV.out]
    refine ⟨fun h => (by cases h), fun h2 => ?_⟩
    have := h2.2.2 k hlt
    omega
   by_cases c2 : (bn s k : Int) < 97
   ·go_wp2_with fail
    go_ret
    exact ⟨by rw [HNo.out (.inl (by omega))]; rfl, rfl⟩
   have d2 : decide ((bn s k : Int) < 97) = false := decide_eq_false c2
   by_cases c3 : (122 : Int) < (bn s k : Int)
   ·go_wp2_with fail
    go_ret
    exact ⟨by rw [HNo.out (.inr (by omega))]; rfl, rfl⟩
   have d3 : decide ((122 : Int) < (bn s k : Int)) = false := decide_eq_false c3
   go_wp2_with fail
   go_round
   case rel =>
    refine ⟨k + 1, by omega, by go_num, fun j hj => ?_⟩
    by_cases e : j = k
    ·rw [e]
     omega
    ·exact HJ.out j (by omega)
   case measure => simp [intOf]; omega
  ·obtain rfl : k = s.size := by omega
   go_wp2_with fail
   go_ret
   refine ⟨?_, rfl⟩
   rw [HD.out true]
   ·rfl
   rw [HV.out]
   exact ⟨fun _ => ⟨H1.out, by omega, HJ.out⟩, fun _ => rfl⟩
set_option maxHeartbeats 4000000 in
theorem implSeriesOk (l : List Ser) (v : Value) (w : World) (B : Nat) (hv : SerV w B v l) (hn : SShort l) (hf : ∀ x ∈ l, x.key.size ≤ maxLen) (hB : B ≤ w.heap.size) : Calls Tryz.prog 80 #[v] w fun e w' => e = .returned (.bool (decide (SOk l))) ∧ Below w.heap.size w w' := by
 obtain ⟨A, cap, rfl, hl⟩ := hv.look
 have HL : Hid (∀ j, j < l.length → ∃ g off u, A = some ⟨g, off, none⟩ ∧ g < B ∧ w.cell? ⟨g, off + j * 2, none⟩ = some (.string (sAt l j).key) ∧ w.cell? ⟨g, off + j * 2 + 1, none⟩ = some u ∧ Lies w B 2 u (ptR (sAt l j).pts)) := hl
 have HB : Hid (B ≤ w.heap.size) := hB
 have HF : Hid (∀ j, j < l.length → (sAt l j).key.size ≤ maxLen ∧ (sAt l j).pts.length ≤ 1048576) := fun j hj => ⟨hf _ (getD_mem l j hj), hn.2 _ (getD_mem l j hj)⟩
 have HD : Hid (∀ b, (b = true ↔ SOk l) → decide (SOk l) = b) := fun b hb => dec_of b hb
 have HV : Hid (SOk l ↔ l.length ≤ 5 ∧ ∀ j, j < l.length → (KOk (sAt l j).key ∧ (0 < j → ahd (sAt l (j - 1)).key (sAt l j).key = true)) ∧ 1 ≤ (sAt l j).pts.length ∧ POk (sAt l j).pts) := Iff.rfl
 have q0 : (l.length : Int) ≤ 1048576 := by have := hn.1; omega
 clear hl hn hv hB hf
 generalize hN : l.length = n at *
 clear hN
 by_cases h2 : (5 : Int) < (n : Int)
 ·go_enter Tryz.func80, Tryz.ntmps80
  go_wp2
  go_ret
  refine ⟨?_, Below.refl _ _⟩
  rw [HD.out false]
  ·rfl
  rw [HV.out]
  exact ⟨fun h => (by cases h), fun h => by omega⟩
 have q1 : (n : Int) ≤ 5 := by omega
 clear h2
 go_enter Tryz.func80, Tryz.ntmps80
 go_wp2_with fail
 go_loopw [3, 11] (fun v3 v11 wr => ∃ (k : Nat) (m : ByteArray), k ≤ n ∧ v11 = .int .i64 (k : Int) ∧ v3 = .string m ∧ Hid ((k = 0 → m = ⟨#[]⟩) ∧ (0 < k → m = (sAt l (k - 1)).key)) ∧ Below w.heap.size w wr ∧ Hid (∀ j, j < k → (KOk (sAt l j).key ∧ (0 < j → ahd (sAt l (j - 1)).key (sAt l j).key = true)) ∧ 1 ≤ (sAt l j).pts.length ∧ POk (sAt l j).pts)) (fun _ i _ => n - (intOf i).toNat)
 case atStart => exact ⟨0, ⟨#[]⟩, by omega, rfl, rfl, ⟨fun _ => rfl, fun h => by omega⟩, Below.refl _ _, fun j hj => by omega⟩
 case round =>
  obtain ⟨k, m, hk, rfl, rfl, HM, hb, HJ⟩ := hrel
  have HB1 : Hid (Below w.heap.size w wr) := hb
  clear hb
  by_cases hlt : k < n
  ·have q2 : (k : Int) < (n : Int) := by omega
   obtain ⟨g, off, u, rfl, hg, e1, e2, hu⟩ := HL.out k hlt
   have hgw : g < w.heap.size := Nat.lt_of_lt_of_le hg HB.out
   rw [← HB1.out.cell (p := ⟨_, _, none⟩) hgw] at e1
   rw [← HB1.out.cell (p := ⟨_, _, none⟩) hgw] at e2
   have hfk := HF.out k hlt
   have HK : Hid ((sAt l k).key.size ≤ maxLen) := hfk.1
   have HPn : Hid ((sAt l k).pts.length ≤ 1048576) := hfk.2
   obtain ⟨A', cap', rfl, _⟩ := pt_look hu
   have HU : Hid (Lies wr B 2 (.slice A' (sAt l k).pts.length cap') (ptR (sAt l k).pts)) := hu.on (HB1.out.mono HB.out)
   clear hu hfk
   have HX : Hid ((ahd m (sAt l k).key = true ↔ (0 < k → ahd (sAt l (k - 1)).key (sAt l k).key = true)) ∨ ¬ KOk (sAt l k).key) := by
    by_cases hkk : KOk (sAt l k).key
    ·left
     by_cases h0 : k = 0
     ·rw [HM.out.1 h0]
      exact ⟨fun _ h => by omega, fun _ => ahd_empty _ hkk.1⟩
     ·rw [HM.out.2 (by omega)]
      exact ⟨fun h _ => h, fun h => h (by omega)⟩
    ·exact .inr hkk
   have HNo : Hid ((¬ KOk (sAt l k).key ∨ ahd m (sAt l k).key = false ∨ (sAt l k).pts.length = 0 ∨ ¬ POk (sAt l k).pts) → decide (SOk l) = false) := fun h => by
    apply HD.out
    rw [HV.out]
    refine ⟨fun h => (by cases h), fun h2 => ?_⟩
    have h3 := h2.2 k hlt
    rcases h with h | h | h | h
    ·exact absurd h3.1.1 h
    ·rcases HX.out with hx | hx
     ·have := hx.2 h3.1.2
      rw [h] at this
      cases this
     ·exact absurd h3.1.1 hx
    ·omega
    ·exact absurd h3.2.2 h
   have HYes : Hid ((KOk (sAt l k).key ∧ ahd m (sAt l k).key = true ∧ 1 ≤ (sAt l k).pts.length ∧ POk (sAt l k).pts) → (KOk (sAt l k).key ∧ (0 < k → ahd (sAt l (k - 1)).key (sAt l k).key = true)) ∧ 1 ≤ (sAt l k).pts.length ∧ POk (sAt l k).pts) := fun h => by
    rcases HX.out with hx | hx
    ·exact ⟨⟨h.1, hx.1 h.2.1⟩, h.2.2⟩
    ·exact absurd h.1 hx
   have HM2 : Hid (∀ x, x = sAt l k → ((k + 1 = 0 → x.key = ⟨#[]⟩) ∧ (0 < k + 1 → x.key = (sAt l (k + 1 - 1)).key))) := fun x hx => ⟨fun h => by omega, fun _ => by rw [Nat.add_sub_cancel, hx]⟩
   have HJ2 : Hid ((KOk (sAt l k).key ∧ (0 < k → ahd (sAt l (k - 1)).key (sAt l k).key = true)) ∧ 1 ≤ (sAt l k).pts.length ∧ POk (sAt l k).pts → ∀ j, j < k + 1 → (KOk (sAt l j).key ∧ (0 < j → ahd (sAt l (j - 1)).key (sAt l j).key = true)) ∧ 1 ≤ (sAt l j).pts.length ∧ POk (sAt l j).pts) := fun h j hj => by
    by_cases e : j = k
    ·rw [e]; exact h
    ·exact HJ.out j (by omega)
   clear HX
   generalize hx : sAt l k = x at *
   have HXx : Hid (x = sAt l k) := hx.symm
   clear hx hgw hg
   obtain ⟨xk, xp⟩ := x
   simp only at e1 e2 HK HPn HU HNo HYes HJ2
   have c1 := fun wx => implIsKey xk wx HK.out
   have HWa : Hid (∀ cs, Below w.heap.size w (wr.alloc (.cells cs 101))) := fun cs => HB1.out.alloc HB1.out.size _
   have HWu : Hid (∀ cs, Below wr.heap.size wr (wr.alloc (.cells cs 101))) := fun cs => (Below.refl _ wr).alloc (Nat.le_refl _) _
   by_cases k1 : ¬ KOk xk
   ·rw [decide_eq_false k1] at c1
    have K1 : Hid (¬ KOk xk) := k1
    clear k1
    go_wp2_with fail
    refine (c1 _).mono ?_
    rintro e w' ⟨rfl, rfl⟩
    go_wp2_with fail
    go_ret
    exact ⟨by rw [HNo.out (.inl K1.out)]; rfl, HWa.out _⟩
   have K1 : Hid (KOk xk) := (Decidable.not_not (p := KOk xk)).1 k1
   rw [decide_eq_true K1.out] at c1
   clear k1
   cases k2 : ahd m xk with
   | false =>
    have KN : Hid (decide (SOk l) = false) := HNo.out (.inr (.inl k2))
    rcases ahd_no k2 with hle | rfl
    ·clear k2
     go_wp2_with fail
     refine (c1 _).mono ?_
     rintro e w' ⟨rfl, rfl⟩
     go_wp2_with fail
     go_ret
     exact ⟨by rw [KN.out]; rfl, HWa.out _⟩
    ·have hle := less_irrefl xk.toList
     clear k2
     go_wp2_with fail
     refine (c1 _).mono ?_
     rintro e w' ⟨rfl, rfl⟩
     go_wp2_with fail
     go_ret
     exact ⟨by rw [KN.out]; rfl, HWa.out _⟩
   | true =>
   obtain ⟨hle, hle2⟩ := ahd_yes k2
   have K2 : Hid (ahd m xk = true) := k2
   clear k2
   by_cases k3 : xp.length = 0
   ·have K3 : Hid (xp.length = 0) := k3
    rw [k3] at HU e2
    clear k3
    go_wp2_with fail
    refine (c1 _).mono ?_
    rintro e w' ⟨rfl, rfl⟩
    go_wp2_with fail
    go_ret
    exact ⟨by rw [HNo.out (.inr (.inr (.inl K3.out)))]; rfl, HWa.out _⟩
   have K3 : Hid (1 ≤ xp.length) := by unfold Hid; omega
   have d3 : decide ((xp.length : Int) = 0) = false := decide_eq_false (by omega)
   have d4 : ((xp.length : Int) == 0) = false := by rw [beq_eq_false_iff_ne]; omega
   have c2 := fun (cs : Array Value) => implPointsOk xp (.slice A' xp.length cap') (wr.alloc (.cells cs 101)) B (HU.out.on ((HWu.out cs).mono (Nat.le_trans HB.out HB1.out.size))) HPn.out (Nat.le_trans HB.out (HWa.out cs).size)
   clear k3
   generalize hpn : xp.length = pn at *
   by_cases k4 : ¬ POk xp
   ·rw [decide_eq_false k4] at c2
    have K4 : Hid (¬ POk xp) := k4
    clear k4
    go_wp2_with fail
    refine (c1 _).mono ?_
    rintro e w' ⟨rfl, rfl⟩
    go_wp2_with fail
    refine (c2 _).mono ?_
    rintro e w' ⟨rfl, hb2⟩
    have B2 : Hid (Below w.heap.size w w') := (HWa.out _).trans (hb2.mono (HWa.out _).size)
    clear hb2
    go_wp2_with fail
    go_ret
    exact ⟨by rw [HNo.out (.inr (.inr (.inr K4.out)))]; rfl, B2.out⟩
   have K4 : Hid (POk xp) := (Decidable.not_not (p := POk xp)).1 k4
   rw [decide_eq_true K4.out] at c2
   clear k4
   go_wp2_with fail
   refine (c1 _).mono ?_
   rintro e w' ⟨rfl, rfl⟩
   go_wp2_with fail
   refine (c2 _).mono ?_
   rintro e w' ⟨rfl, hb2⟩
   have B2 : Hid (Below w.heap.size w w') := (HWa.out _).trans (hb2.mono (HWa.out _).size)
   have m0 := (Blk.new wr #[.string xk, .slice A' pn cap'] 101).on hb2 (by rw [World.size_alloc]; omega)
   have m1 := m0.cell 0 _ rfl
   clear hb2 m0
   go_wp2_with fail
   go_roundw
   case rel => exact ⟨k + 1, xk, by omega, by go_num, rfl, HM2.out ⟨xk, xp⟩ rfl, B2.out, HJ2.out (HYes.out ⟨K1.out, K2.out, K3.out, K4.out⟩)⟩
   case measure => simp [intOf]; omega
  ·obtain rfl : k = n := by omega
   go_wp2_with fail
   go_ret
   refine ⟨?_, HB1.out⟩
   rw [HD.out true]
   ·rfl
   rw [HV.out]
   exact ⟨fun _ => ⟨by omega, HJ.out⟩, fun _ => rfl⟩
end Go.Proofs.YthhamlahdjokkaaGreatDoor
namespace Go.Proofs.YthhamlahdjokkaaGreatDoor
open Go.ChangeShapes Go.WideShapes Go.ChangeAt Go.RowKit Go.PlainAid
set_option linter.unusedVariables false
def upB (l : List Ser) (k : Nat) : List UInt8 := magic ++ blks l k
def upI (l : List Ser) (k : Nat) : List UInt8 := magic ++ (blks l l.length ++ idxB l k)
theorem upB_zero (l : List Ser) : (⟨#[]⟩ : ByteArray) ++ ⟨#[116, 115, 98, 49]⟩ = txt (upB l 0) := by
 show txt [] ++ txt magic = _
 rw [txt_cat, upB, blks, cat_zero, List.append_nil, List.nil_append]
theorem upB_succ (l : List Ser) (k : Nat) : txt (upB l k) ++ showB (sAt l k).pts = txt (upB l (k + 1)) := by
 conv => lhs; arg 2; rw [← txt_bl (showB (sAt l k).pts)]
 rw [txt_cat]
 unfold upB blks
 rw [cat_succ, List.append_assoc]
 rfl
theorem upB_size (l : List Ser) (k : Nat) : (txt (upB l k)).size = atB l k := by rw [txt_size, upB, List.length_append]; rfl
theorem upI_zero (l : List Ser) : upB l l.length = upI l 0 := by unfold upB upI idxB; rw [cat_zero, List.append_nil]
theorem upI_succ (l : List Ser) (k : Nat) : txt (upI l k) ++ txt (spB l k) = txt (upI l (k + 1)) := by
 rw [txt_cat]
 unfold upI idxB
 rw [cat_succ]
 simp only [List.append_assoc]
theorem upI_size {l : List Ser} (h : SOk l) (k : Nat) (hk : k ≤ l.length) : (txt (upI l k)).size ≤ 5000 := by
 have h1 := blks_length l l.length
 have h2 := idxB_length h k hk
 have := h.1
 rw [txt_size, upI, List.length_append, List.length_append]
 have : magic.length = 4 := rfl
 omega
theorem body_four {l : List Ser} (h : SOk l) : txt (upI l l.length) ++ fixed (atB l l.length) 4 = txt (bodyF l) := by
 have := atB_le h l.length (Nat.le_refl _)
 rw [fixed_four _ (by omega), four, txt_cat]
 unfold upI bodyF
 simp only [List.append_assoc]
theorem file_four (l : List Ser) : txt (bodyF l) ++ fixed (crc (txt (bodyF l))) 4 = txt (fileB l) := by
 rw [fixed_four _ (crc_lt _), four, txt_cat]
 rfl
theorem spot_is {l : List Ser} (h : SOk l) (k : Nat) (hk : k < l.length) : (⟨(sAt l k).key, (txt (upB l k)).size, (showB (sAt l k).pts).size, (tAt (sAt l k).pts 0).toNat, (tAt (sAt l k).pts ((sAt l k).pts.length - 1)).toNat⟩ : Spot) = spotOf l k := by
 unfold spotOf
 rw [upB_size, ← bl_length]
 rfl
theorem spotOf_fits {l : List Ser} (h : SOk l) (k : Nat) (hk : k < l.length) : SpFits (spotOf l k) := by
 obtain ⟨h1, h2, h3, h4, h5⟩ := nums_le h k hk
 have := h.key k hk
 exact ⟨show (sAt l k).key.size ≤ 1048576 by omega, h2, h3, h4, h5⟩
theorem spots_snoc (l : List Ser) (k : Nat) : (List.range (k + 1)).map (spotOf l) = (List.range k).map (spotOf l) ++ [spotOf l k] := by rw [List.range_succ, List.map_append]; rfl
theorem range_get (l : List Ser) (n k : Nat) (hk : k < n) : ((List.range n).map (spotOf l)).getD k default = spotOf l k := by
 rw [← getD_at _ k (by simpa using hk), List.getElem_map, List.getElem_range]
theorem fileT_no {l : List Ser} (h : ¬ (1 ≤ l.length ∧ SOk l)) : fileT l = ⟨#[]⟩ := by unfold fileT; rw [if_neg h]; rfl
theorem fileT_yes {l : List Ser} (h : 1 ≤ l.length ∧ SOk l) : fileT l = txt (fileB l) := by unfold fileT; rw [if_pos h]
theorem bodyF_size {l : List Ser} (h : SOk l) : (txt (bodyF l)).size ≤ 5000 := by rw [txt_size]; exact (bodyF_length h).2
theorem four_small (n : Nat) : (fixed n 4).size ≤ 4 := by
 unfold fixed
 split <;> rw [txt_size]
 ·rw [low_length]; omega
 ·simp
set_option maxHeartbeats 4000000 in
theorem implFileText (l : List Ser) (v : Value) (w : World) (B : Nat) (hv : SerV w B v l) (hn : SShort l) (hf : ∀ x ∈ l, x.key.size ≤ maxLen) (hB : B ≤ w.heap.size) (hst : SumTab w) : Calls Tryz.prog 43 #[v] w fun e w' => e = .returned (.string (fileT l)) ∧ Below w.heap.size w w' := by
 have c1 := implSeriesOk l v w B hv hn hf hB
 have ST : Hid (SumTab w) := hst
 clear hst
 obtain ⟨A, cap, rfl, hl⟩ := hv.look
 have HV0 : Hid (SerV w B (.slice A l.length cap) l) := hv
 have HL : Hid (∀ j, j < l.length → ∃ g off u, A = some ⟨g, off, none⟩ ∧ g < B ∧ w.cell? ⟨g, off + j * 2, none⟩ = some (.string (sAt l j).key) ∧ w.cell? ⟨g, off + j * 2 + 1, none⟩ = some u ∧ Lies w B 2 u (ptR (sAt l j).pts)) := hl
 have HB : Hid (B ≤ w.heap.size) := hB
 have q0 : (l.length : Int) ≤ 1048576 := by have := hn.1; omega
 clear hl hn hv hB hf
 by_cases h0 : l.length = 0
 ·have HE : Hid (fileT l = ⟨#[]⟩) := fileT_no (fun hh => by omega)
  rw [h0]
  clear c1 h0 q0 HV0
  go_enter Tryz.func43, Tryz.ntmps43
  go_wp2_with fail
  go_ret
  exact ⟨by rw [HE.out]; rfl, Below.refl _ _⟩
 have d0 : ((l.length : Int) == 0) = false := by rw [beq_eq_false_iff_ne]; omega
 have d1 : decide ((l.length : Int) = 0) = false := decide_eq_false (by omega)
 by_cases hok : ¬ SOk l
 ·have HE : Hid (fileT l = ⟨#[]⟩) := fileT_no (fun hh => hok hh.2)
  rw [decide_eq_false hok] at c1
  clear hok
  go_enter Tryz.func43, Tryz.ntmps43
  go_wp2_with fail
  refine c1.mono ?_
  rintro e w1 ⟨rfl, hb1⟩
  go_wp2_with fail
  go_ret
  exact ⟨by rw [HE.out]; rfl, hb1⟩
 have HK : Hid (SOk l) := (Decidable.not_not (p := SOk l)).1 hok
 rw [decide_eq_true HK.out] at c1
 have HE : Hid (fileT l = txt (fileB l)) := fileT_yes ⟨by omega, HK.out⟩
 have H1 : Hid (1 ≤ l.length) := by unfold Hid; omega
 have q1 : (l.length : Int) ≤ 5 := by have := HK.out.1; omega
 clear hok h0
 generalize hN : l.length = n at *
 have HN : Hid (l.length = n) := hN
 clear hN
 go_enter Tryz.func43, Tryz.ntmps43
 go_wp2_with fail
 refine c1.mono ?_
 rintro e w1 ⟨rfl, hb1⟩
 have B1 : Hid (Below w.heap.size w w1) := hb1
 have C1 : Hid (CurB (w1.alloc (.cells #[.string ⟨#[]⟩, .int .i64 0] 123)) w1.heap.size ⟨#[]⟩ 0 123) := Blk.new w1 _ _
 have HG : Hid (w.heap.size ≤ w1.heap.size) := hb1.size
 have B1a : Hid (Below w.heap.size w (w1.alloc (.cells #[.string ⟨#[]⟩, .int .i64 0] 123))) := hb1.alloc hb1.size _
 clear hb1 c1
 generalize hg : w1.heap.size = g at *
 go_wp2_with fail
 refine (writeV ⟨#[]⟩ ⟨#[116, 115, 98, 49]⟩ _ g 0 C1.out (by simp [ByteArray.size])).mono ?_
 rintro e X0 ⟨⟨uu, rfl⟩, hC, hk⟩
 rw [upB_zero l, upB_size] at hC
 have B0 : Hid (Below w.heap.size w X0) := B1a.out.trans (hk.1.mono HG.out)
 have C0 : Hid (CurB X0 g (txt (upB l 0)) (atB l 0) 123) := hC
 clear hk hC hg
 go_wp2_with fail
 go_loopw [4, 21] (fun v4 v21 wr => ∃ k : Nat, k ≤ n ∧ v21 = .int .i64 (k : Int) ∧ Owns wr w.heap.size 127 5 v4 (spR ((List.range k).map (spotOf l))) ∧ CurB wr g (txt (upB l k)) (atB l k) 123 ∧ Below w.heap.size w wr) (fun _ i _ => n - (intOf i).toNat)
 case atStart => exact ⟨0, by omega, rfl, Owns.nil _ _ _ _, C0.out, B0.out⟩
 case round =>
  obtain ⟨k, hk, rfl, hO, hC, hb⟩ := hrel
  have HO : Hid (Owns wr w.heap.size 127 5 u4 (spR ((List.range k).map (spotOf l)))) := hO
  have HC : Hid (CurB wr g (txt (upB l k)) (atB l k) 123) := hC
  have HB1 : Hid (Below w.heap.size w wr) := hb
  clear hO hC hb
  by_cases hlt : k < n
  ·have q4 : (k : Int) < (n : Int) := by omega
   obtain ⟨gs, off, us, rfl, hg, e1, e2, hu⟩ := HL.out k hlt
   have hgw : gs < w.heap.size := Nat.lt_of_lt_of_le hg HB.out
   rw [← HB1.out.cell (p := ⟨_, _, none⟩) hgw] at e1
   rw [← HB1.out.cell (p := ⟨_, _, none⟩) hgw] at e2
   have HU : Hid (Lies wr B 2 us (ptR (sAt l k).pts)) := hu.on (HB1.out.mono HB.out)
   obtain ⟨A', cap', rfl, _⟩ := pt_look hu
   have hsk := HK.out.2 k (by have := HN.out; omega)
   have HP1 : Hid (1 ≤ (sAt l k).pts.length ∧ POk (sAt l k).pts) := hsk.2
   have HSp : Hid ((⟨(sAt l k).key, (txt (upB l k)).size, (showB (sAt l k).pts).size, (tAt (sAt l k).pts 0).toNat, (tAt (sAt l k).pts ((sAt l k).pts.length - 1)).toNat⟩ : Spot) = spotOf l k) := spot_is HK.out k (by have := HN.out; omega)
   have HSu : Hid (txt (upB l k) ++ showB (sAt l k).pts = txt (upB l (k + 1))) := upB_succ l k
   have HSz : Hid ((txt (upB l k)).size = atB l k ∧ (txt (upB l (k + 1))).size = atB l (k + 1) ∧ atB l k ≤ 4504) := ⟨upB_size l k, upB_size l (k + 1), atB_le HK.out k (by have := HN.out; omega)⟩
   clear hu hsk
   have HWa : Hid (∀ cs, Below w.heap.size w (wr.alloc (.cells cs 101))) := fun cs => HB1.out.alloc HB1.out.size _
   have HWu : Hid (∀ cs, Below wr.heap.size wr (wr.alloc (.cells cs 101))) := fun cs => (Below.refl _ wr).alloc (Nat.le_refl _) _
   generalize hx : sAt l k = x at *
   clear hx hgw hg
   obtain ⟨xk, xp⟩ := x
   simp only at e1 e2 HU HP1 HSp HSu
   have cw := fun (cs : Array Value) => writeBlockV (txt (upB l k)) ⟨xk, xp⟩ (.slice A' xp.length cap') (wr.alloc (.cells cs 101)) g B (by rw [HSz.out.1]; exact Blk.alloc HC.out _) (HU.out.on ((HWu.out cs).mono (Nat.le_trans HB.out HB1.out.size))) HP1.out.1 HP1.out.2 (Nat.le_trans HB.out HG.out) (by rw [HSz.out.1]; have := HSz.out; omega) (ST.out.on (HWa.out cs))
   simp only [HSp.out, HSu.out, HSz.out.2.1] at cw
   unfold vSr vSp at cw
   generalize hpn : xp.length = pn at *
   go_wp2_with fail
   refine (cw _).mono ?_
   rintro e X1 ⟨rfl, hC1, hk1⟩
   have C1 : Hid (CurB X1 g (txt (upB l (k + 1))) (atB l (k + 1)) 123) := hC1
   have B1 : Hid (Below w.heap.size w X1) := (HWa.out _).trans (hk1.1.mono HG.out)
   have O1 : Hid (Owns X1 w.heap.size 127 5 u4 (spR ((List.range k).map (spotOf l)))) := hk1.owns (HO.out.alloc _) ((HO.out.alloc (.cells #[.string xk, .slice A' pn cap'] 101)).notBlk (Blk.alloc HC.out (.cells #[.string xk, .slice A' pn cap'] 101)) (by decide))
   have NB : Hid (u4.ownBlock ≠ some g) := O1.out.notBlk C1.out (by decide)
   have Z1 : w.heap.size ≤ X1.heap.size := B1.out.size
   have L2 : Hid ((spR ((List.range k).map (spotOf l))).length ≤ 2097152) := by unfold Hid; rw [spR_length, List.length_map, List.length_range]; omega
   clear hC1 hk1 cw
   go_wp2_with (at_builtin; refine wpList_append_row (w := X1) rfl (.tmp 25) (.tmp 28) 125 127 (.agg #[.string ⟨#[]⟩, .int .i64 0, .int .i64 0, .int .i64 0, .int .i64 0]) 5 48 rfl Tryz.underlying125 Tryz.infoSp rfl (by omega) w.heap.size u4 (spR ((List.range k).map (spotOf l))) rfl O1.out (spC (spotOf l k)) rfl (sp_one _) rfl L2.out (by omega) Z1 ?_; intro v2 w4 hO4 hb4 hk4 hw4; refine Shut.out ?_)
   unfold Shut
   have P2 : Hid (Owns w4 w.heap.size 127 5 v2 (spR ((List.range (k + 1)).map (spotOf l)))) := by unfold Hid; rw [spots_snoc, spR_append]; exact hO4
   have C4 : Hid (CurB w4 g (txt (upB l (k + 1))) (atB l (k + 1)) 123) := (hk4 g (Blk.lt C1.out) NB.out).trans C1.out
   have B4 : Hid (Below w.heap.size w w4) := B1.out.trans hb4
   clear hO4 hb4 hk4 hw4
   go_wp2_with fail
   go_roundw
   case rel => exact ⟨k + 1, by omega, by go_num, P2.out, C4.out, B4.out⟩
   case measure => simp [intOf]; omega
  ·obtain rfl : k = n := by omega
   have mm : wr.cell? ⟨g, 1, none⟩ = some (.int .i64 (atB l k : Int)) := Blk.cell HC.out 1 _ rfl
   have HSz : Hid (atB l k ≤ 4504) := atB_le HK.out k (by have := HN.out; omega)
   obtain ⟨A4, c4, e4, hl4⟩ := sp_look HO.out.lies
   rw [List.length_map, List.length_range] at e4
   subst e4
   obtain ⟨g4, o4, rfl, _⟩ := hl4 0 (by rw [List.length_map, List.length_range]; have := H1.out; omega)
   clear hl4
   have NB : Hid (g4 ≠ g) := fun e => HO.out.notBlk HC.out (by decide) (by rw [e]; rfl)
   have HC2 : Hid (CurB wr g (txt (upI l 0)) (atB l k) 123) := by
    unfold Hid
    rw [← upI_zero, HN.out]
    exact HC.out
   go_wp2_with fail
   refine (placeV wr g (atB l k) mm).mono ?_
   rintro e w' ⟨rfl, rfl⟩
   clear mm
   go_wp2_with fail
   go_loopw [35] (fun v35 ws => ∃ (j p : Nat), j ≤ k ∧ v35 = .int .i64 (j : Int) ∧ Owns ws w.heap.size 127 5 (.slice (some ⟨g4, o4, none⟩) k c4) (spR ((List.range k).map (spotOf l))) ∧ CurB ws g (txt (upI l j)) p 123 ∧ Below w.heap.size w ws) (fun i _ => k - (intOf i).toNat)
   case atStart => exact ⟨0, _, by omega, rfl, HO.out, HC2.out, HB1.out⟩
   case round =>
    obtain ⟨j, p, hj, rfl, hO, hC, hb⟩ := hrel
    have JO : Hid (Owns wr w.heap.size 127 5 (.slice (some ⟨g4, o4, none⟩) k c4) (spR ((List.range k).map (spotOf l)))) := hO
    have JC : Hid (CurB wr g (txt (upI l j)) p 123) := hC
    have JB : Hid (Below w.heap.size w wr) := hb
    clear hO hC hb
    by_cases hjt : j < k
    ·have q5 : (j : Int) < (k : Int) := by omega
     obtain ⟨A5, c5, e5, hl5⟩ := sp_look JO.out.lies
     rw [List.length_map, List.length_range] at e5
     cases e5
     obtain ⟨g5, o5, e5, _, e0, e1, e2, e3, e4⟩ := hl5 j (by rw [List.length_map, List.length_range]; exact hjt)
     cases e5
     clear hl5
     rw [range_get l k j hjt] at e0 e1 e2 e3 e4
     have HSF : Hid (SpFits (spotOf l j)) := spotOf_fits HK.out j (by have := HN.out; omega)
     have HKS : Hid ((sAt l j).key.size ≤ 8 ∧ (txt (upI l j)).size ≤ 5000 ∧ (txt (upI l (j + 1))).size ≤ 5000) := ⟨(HK.out.key j (by have := HN.out; omega)).2, upI_size HK.out j (by have := HN.out; omega), upI_size HK.out (j + 1) (by have := HN.out; omega)⟩
     have HSu : Hid (txt (upI l j) ++ txt (spT (spotOf l j)) = txt (upI l (j + 1))) := upI_succ l j
     have cw := fun (cs : Array Value) => writeSpotV (txt (upI l j)) (spotOf l j) (wr.alloc (.cells cs 127)) g p (Blk.alloc JC.out _) HSF.out (by have := HKS.out; show (txt (upI l j)).size + (sAt l j).key.size ≤ 900000; omega)
     have HWa : Hid (∀ cs, Below w.heap.size w (wr.alloc (.cells cs 127))) := fun cs => JB.out.alloc JB.out.size _
     have JOa : Hid (∀ cs, Owns (wr.alloc (.cells cs 127)) w.heap.size 127 5 (.slice (some ⟨g4, o4, none⟩) k c4) (spR ((List.range k).map (spotOf l)))) := fun cs => JO.out.alloc _
     simp only [HSu.out] at cw
     unfold vSp at cw
     generalize spotOf l j = x at *
     go_wp2_with fail
     refine (cw _).mono ?_
     rintro e X1 ⟨⟨uu', rfl⟩, hC1, hk1⟩
     have C1 : Hid (CurB X1 g (txt (upI l (j + 1))) (txt (upI l (j + 1))).size 123) := hC1
     have B1 : Hid (Below w.heap.size w X1) := (HWa.out _).trans (hk1.1.mono HG.out)
     have O1 : Hid (Owns X1 w.heap.size 127 5 (.slice (some ⟨g4, o4, none⟩) k c4) (spR ((List.range k).map (spotOf l)))) := hk1.owns (JOa.out _) (fun e => NB.out (Option.some.inj e))
     clear hC1 hk1 cw
     go_wp2_with fail
     go_roundw
     case rel => exact ⟨j + 1, _, by omega, by go_num, O1.out, C1.out, B1.out⟩
     case measure => simp [intOf]; omega
    ·obtain rfl : j = k := by omega
     clear JO
     have HF4 : Hid (txt (upI l j) ++ fixed (atB l j) 4 = txt (bodyF l)) := by have := body_four HK.out; rw [HN.out] at this; exact this
     have HF8 : Hid (txt (bodyF l) ++ fixed (crc (txt (bodyF l))) 4 = txt (fileB l)) := file_four l
     have HS5 : Hid ((txt (upI l j)).size ≤ 5000 ∧ (txt (bodyF l)).size ≤ 5000) := ⟨upI_size HK.out j (by have := HN.out; omega), bodyF_size HK.out⟩
     have HC32 := crc_lt (txt (bodyF l))
     have z4 := four_small (atB l j)
     have z8 := four_small (crc (txt (bodyF l)))
     have f4 := fun wx => impl_fixed (atB l j) 4 wx (by have := HSz.out; omega) (by omega) (by omega)
     have f8 := fun wx => impl_fixed (crc (txt (bodyF l))) 4 wx (by omega) (by omega) (by omega)
     go_wp2_with fail
     refine (f4 _).mono ?_
     rintro e Y1 ⟨rfl, hb1⟩
     have CY1 : Hid (CurB Y1 g (txt (upI l j)) p 123) := Blk.on JC.out hb1 (Blk.lt JC.out)
     have BY1 : Hid (Below w.heap.size w Y1) := JB.out.trans (hb1.mono JB.out.size)
     clear hb1
     go_wp2_with fail
     refine (writeV (txt (upI l j)) (fixed (atB l j) 4) Y1 g p CY1.out (by have := HS5.out; omega)).mono ?_
     rintro e Y2 ⟨⟨u1, rfl⟩, hC2, hk2⟩
     rw [HF4.out] at hC2
     have CY2 : Hid (CurB Y2 g (txt (bodyF l)) (txt (bodyF l)).size 123) := hC2
     have BY2 : Hid (Below w.heap.size w Y2) := BY1.out.trans (hk2.1.mono HG.out)
     clear hC2 hk2
     have m0 : Y2.cell? ⟨g, 0, none⟩ = some (.string (txt (bodyF l))) := Blk.cell CY2.out 0 _ rfl
     go_wp2_with fail
     refine (impl_crc (txt (bodyF l)) Y2 (by have := HS5.out; omega) (ST.out.on BY2.out)).mono ?_
     rintro e w' ⟨rfl, rfl⟩
     clear m0
     go_wp2_with fail
     refine (f8 _).mono ?_
     rintro e Y3 ⟨rfl, hb3⟩
     have CY3 : Hid (CurB Y3 g (txt (bodyF l)) (txt (bodyF l)).size 123) := Blk.on CY2.out hb3 (Blk.lt CY2.out)
     have BY3 : Hid (Below w.heap.size w Y3) := BY2.out.trans (hb3.mono BY2.out.size)
     clear hb3
     go_wp2_with fail
     refine (writeV (txt (bodyF l)) (fixed (crc (txt (bodyF l))) 4) Y3 g _ CY3.out (by have := HS5.out; omega)).mono ?_
     rintro e Y4 ⟨⟨u2, rfl⟩, hC4, hk4⟩
     rw [HF8.out] at hC4
     have BY4 : Hid (Below w.heap.size w Y4) := BY3.out.trans (hk4.1.mono HG.out)
     have m4 : Y4.cell? ⟨g, 0, none⟩ = some (.string (txt (fileB l))) := Blk.cell hC4 0 _ rfl
     clear hk4 hC4
     go_wp2_with fail
     go_ret
     exact ⟨by rw [HE.out]; rfl, BY4.out⟩
end Go.Proofs.YthhamlahdjokkaaGreatDoor
namespace Go.Proofs.YthhamlahdjokkaaGreatDoor
open Go.ChangeShapes Go.WideShapes Go.ChangeAt Go.RowKit Go.PlainAid
set_option linter.unusedVariables false
theorem spot_fits_at (s : ByteArray) (e : Nat) : ∀ f p, ∀ x ∈ idxA s e f p, x.at' ≤ 562949953421311 ∧ x.size ≤ 562949953421311 ∧ x.key.size ≤ s.size
 | 0, _, x, hx => by cases hx
 | f + 1, p, x, hx => by
  rw [idxA] at hx
  split at hx
  ·rcases List.mem_cons.1 hx with rfl | hx
   ·refine ⟨rvN_le _, rvN_le _, ?_⟩
    show (s.extract (tkP s p) (spK s p)).size ≤ s.size
    rw [ByteArray.size_extract]
    omega
   ·exact spot_fits_at s e f _ x hx
  ·cases hx
theorem spots_fit (s : ByteArray) : ∀ x ∈ spots s, x.at' ≤ 562949953421311 ∧ x.size ≤ 562949953421311 ∧ x.key.size ≤ s.size := by
 unfold spots
 split
 ·intro x hx; cases hx
 ·exact spot_fits_at s _ _ _
theorem serAll_take (s : ByteArray) (k : Nat) (h : k < (spots s).length) : ((spots s).take (k + 1)).map (serA s) = ((spots s).take k).map (serA s) ++ [serA s ((spots s).getD k default)] := by
 rw [take_getD _ k h, List.map_append]
 rfl
theorem serAll_short (s : ByteArray) : SShort (serAll s) := by
 refine ⟨by unfold serAll; rw [List.length_map]; have := spots_length s; omega, fun x hx => ?_⟩
 obtain ⟨y, _, rfl⟩ := List.mem_map.1 hx
 have := rbP_length (blkA s y)
 show (rbP (blkA s y)).length ≤ 1048576
 omega
theorem serAll_keys (s : ByteArray) (hs : s.size ≤ 1048576) : ∀ x ∈ serAll s, x.key.size ≤ maxLen := by
 intro x hx
 obtain ⟨y, hy, rfl⟩ := List.mem_map.1 hx
 have := (spots_fit s y hy).2.2
 show y.key.size ≤ maxLen
 unfold maxLen
 omega
theorem rf_yes {s : ByteArray} (h0 : serAll s ≠ []) (h : fileT (serAll s) = s) : RfAns s (serAll s) true := by
 refine .inl ⟨rfl, GoodF.of (List.length_pos_iff.2 h0) ?_ h⟩
 rcases Nat.lt_or_ge s.size 8 with h8 | h8
 ·exfalso
  apply h0
  unfold serAll spots
  rw [if_pos h8]
  rfl
 ·exact h8
theorem rf_no {s : ByteArray} (h : serAll s = [] ∨ fileT (serAll s) ≠ s) : RfAns s [] false := by
 refine .inr ⟨rfl, rfl, fun m hm => ?_⟩
 have e := hm.read.1
 rcases h with h | h
 ·rw [h] at e
  have := hm.1
  rw [← e] at this
  simp at this
 ·exact h (by rw [e]; exact hm.2.2)
theorem SerO.snoc {w1 w2 : World} {base : Nat} {v v' : Value} {L : List (Ser × Value)} {x : Ser} {u : Value} (ho : Owns w2 base 101 2 v' (srR L ++ [srC (x, u)])) (hL : ∀ p ∈ L, Owns w2 base 98 2 p.2 (ptR p.1.pts)) (hA : L.Pairwise fun p q => Apart p.2 q.2) (hu : Owns w2 base 98 2 u (ptR x.pts)) (hn : ∀ p ∈ L, Apart p.2 u) : SerO w2 base v' (L ++ [(x, u)]) := by
 refine ⟨by rw [srR_append]; exact ho, ?_, ?_⟩
 ·intro p hp
  rcases List.mem_append.1 hp with hp | hp
  ·exact hL p hp
  ·rw [List.mem_singleton.1 hp]
   exact hu
 ·rw [List.pairwise_append]
  refine ⟨hA, List.pairwise_singleton _ _, fun p hp q hq => ?_⟩
  rw [List.mem_singleton.1 hq]
  exact hn p hp
theorem SerO.others {w w' : World} {base g : Nat} {v : Value} {L : List (Ser × Value)} (h : SerO w base v L) (hk : KeptBut g w w') (hg : g < base) : SerO w' base v L :=
 ⟨hk.owns h.1 (h.1.below hg), fun p hp => hk.owns (h.2.1 p hp) ((h.2.1 p hp).below hg), h.2.2⟩
set_option maxHeartbeats 4000000 in
theorem implReadFile (s : ByteArray) (w : World) (hs : s.size ≤ 1048576) (hst : SumTab w) (a0 a1 a2 : Addr) (he : Errs w a0 a1 a2) : Calls Tryz.prog 167 #[.string s] w fun e w' => (∃ u L ok, RfAns s (L.map Prod.fst) ok ∧ e = .returned (.tuple #[u, .bool ok]) ∧ SerO w' w.heap.size u L) ∧ Below w.heap.size w w' := by
 have HS : Hid (s.size ≤ 1048576) := hs
 have ST : Hid (SumTab w) := hst
 have ER : Hid (Errs w a0 a1 a2) := he
 have C0 : Hid (CurB (w.alloc (.cells #[.string s, .int .i64 0] 231)) w.heap.size s 0 231) := Blk.new w _ _
 have B0 : Hid (Below w.heap.size w (w.alloc (.cells #[.string s, .int .i64 0] 231))) := (Below.refl _ w).alloc (Nat.le_refl _) _
 have HZ0 : Hid ((w.alloc (.cells #[.string s, .int .i64 0] 231)).heap.size = w.heap.size + 1) := World.size_alloc _ _
 have q0 : (s.size : Int) ≤ 1048576 := by omega
 clear hs hst he
 go_enter Tryz.func167, Tryz.ntmps167
 go_wp2_with fail
 refine (readerOfV s w).mono ?_
 rintro e W1 ⟨rfl, hW1⟩
 rw [← hW1] at C0 B0 HZ0
 clear hW1
 go_wp2_with fail
 refine (readIndexV s 0 w.heap.size W1 C0.out HS.out).mono ?_
 rintro e X1 ⟨⟨u11, rfl, hO⟩, ⟨p1, hC⟩, hk⟩
 rw [HZ0.out] at hO
 obtain ⟨A11, c11, e11, _⟩ := sp_look hO.lies
 have HN5 : Hid ((spots s).length ≤ 5) := spots_length s
 have C1 : Hid (CurB X1 w.heap.size s p1 231) := hC
 have B1 : Hid (Below w.heap.size w X1) := B0.out.trans hk.1
 have O1 : Hid (Owns X1 (w.heap.size + 1) 127 5 u11 (spR (spots s))) := hO
 generalize hn : (spots s).length = n at *
 have HNn : Hid ((spots s).length = n) := hn
 subst e11
 have q1 : (n : Int) ≤ 5 := by have := HN5.out; omega
 clear hO hC hk hn B0 C0 HZ0
 go_wp2_with fail
 go_loopw [5, 13] (fun v5 v13 wr => ∃ (k p : Nat) (L : List (Ser × Value)), k ≤ n ∧ v13 = .int .i64 (k : Int) ∧ L.map Prod.fst = ((spots s).take k).map (serA s) ∧ SerO wr (w.heap.size + 1) v5 L ∧ Owns wr (w.heap.size + 1) 127 5 (.slice A11 n c11) (spR (spots s)) ∧ CurB wr w.heap.size s p 231 ∧ Below w.heap.size w wr) (fun _ i _ => n - (intOf i).toNat)
 case atStart => exact ⟨0, p1, [], by omega, rfl, by simp, ⟨Owns.nil _ _ _ _, fun p hp => (by cases hp), List.Pairwise.nil⟩, O1.out, C1.out, B1.out⟩
 case round =>
  obtain ⟨k, p, L, hk, rfl, hLm, hO, hO11, hC, hb⟩ := hrel
  have HLM : Hid (L.map Prod.fst = ((spots s).take k).map (serA s)) := hLm
  have HLL : Hid (L.length = k) := by have := congrArg List.length hLm; rw [List.length_map, List.length_map, List.length_take] at this; have := HNn.out; unfold Hid; omega
  have HO : Hid (SerO wr (w.heap.size + 1) u5 L) := hO
  have HO11 : Hid (Owns wr (w.heap.size + 1) 127 5 (.slice A11 n c11) (spR (spots s))) := hO11
  have HC : Hid (CurB wr w.heap.size s p 231) := hC
  have HB1 : Hid (Below w.heap.size w wr) := hb
  clear hO hLm hO11 hC hb
  by_cases hlt : k < n
  ·have q4 : (k : Int) < (n : Int) := by omega
   obtain ⟨A5, c5, e5, hl5⟩ := sp_look HO11.out.lies
   rw [HNn.out] at e5 hl5
   cases e5
   obtain ⟨g5, o5, rfl, _, e0, e1, e2, e3, e4⟩ := hl5 k hlt
   clear hl5
   have HT : Hid (((spots s).take (k + 1)).map (serA s) = ((spots s).take k).map (serA s) ++ [serA s ((spots s).getD k default)]) := serAll_take s k (by rw [HNn.out]; exact hlt)
   have HFx : Hid (((spots s).getD k default).at' ≤ 562949953421311 ∧ ((spots s).getD k default).size ≤ 562949953421311 ∧ ((spots s).getD k default).key.size ≤ s.size) := spots_fit s _ (getD_mem _ k (by rw [HNn.out]; exact hlt))
   generalize hx : (spots s).getD k default = x at *
   clear hx
   obtain ⟨xk, xa, xz, xf, xl⟩ := x
   simp only at e0 e1 e2 e3 e4 HFx
   have KB0 : Hid (Blk (wr.alloc (.cells #[.string xk, .int .i64 (xa : Int), .int .i64 (xz : Int), .int .i64 (xf : Int), .int .i64 (xl : Int)] 127)).drew wr.heap.size #[.string xk, .int .i64 (xa : Int), .int .i64 (xz : Int), .int .i64 (xf : Int), .int .i64 (xl : Int)] 127) := Blk.new wr _ _
   have CB0 : Hid (CurB (wr.alloc (.cells #[.string xk, .int .i64 (xa : Int), .int .i64 (xz : Int), .int .i64 (xf : Int), .int .i64 (xl : Int)] 127)).drew w.heap.size s p 231) := Blk.alloc HC.out _
   have BB0 : Hid (Below w.heap.size w (wr.alloc (.cells #[.string xk, .int .i64 (xa : Int), .int .i64 (xz : Int), .int .i64 (xf : Int), .int .i64 (xl : Int)] 127)).drew) := (HB1.out.alloc HB1.out.size _).drew
   have OL0 : Hid (SerO (wr.alloc (.cells #[.string xk, .int .i64 (xa : Int), .int .i64 (xz : Int), .int .i64 (xf : Int), .int .i64 (xl : Int)] 127)).drew (w.heap.size + 1) u5 L) := HO.out.on ((Below.refl _ wr).alloc (Nat.le_refl _) _).drew
   have OS0 : Hid (Owns (wr.alloc (.cells #[.string xk, .int .i64 (xa : Int), .int .i64 (xz : Int), .int .i64 (xf : Int), .int .i64 (xl : Int)] 127)).drew (w.heap.size + 1) 127 5 (.slice (some ⟨g5, o5, none⟩) n c11) (spR (spots s))) := HO11.out.on ((Below.refl _ wr).alloc (Nat.le_refl _) _).drew
   have HHS : Hid (w.heap.size < wr.heap.size) := Blk.lt HC.out
   have S0 : Hid ((wr.alloc (.cells #[.string xk, .int .i64 (xa : Int), .int .i64 (xz : Int), .int .i64 (xf : Int), .int .i64 (xl : Int)] 127)).drew.cell? ⟨wr.heap.size, 0, none⟩ = some (.string xk) ∧ (wr.alloc (.cells #[.string xk, .int .i64 (xa : Int), .int .i64 (xz : Int), .int .i64 (xf : Int), .int .i64 (xl : Int)] 127)).drew.cell? ⟨wr.heap.size, 1, none⟩ = some (.int .i64 (xa : Int)) ∧ (wr.alloc (.cells #[.string xk, .int .i64 (xa : Int), .int .i64 (xz : Int), .int .i64 (xf : Int), .int .i64 (xl : Int)] 127)).drew.cell? ⟨wr.heap.size, 2, none⟩ = some (.int .i64 (xz : Int)) ∧ (wr.alloc (.cells #[.string xk, .int .i64 (xa : Int), .int .i64 (xz : Int), .int .i64 (xf : Int), .int .i64 (xl : Int)] 127)).drew.cell? ⟨wr.heap.size, 3, none⟩ = some (.int .i64 (xf : Int)) ∧ (wr.alloc (.cells #[.string xk, .int .i64 (xa : Int), .int .i64 (xz : Int), .int .i64 (xf : Int), .int .i64 (xl : Int)] 127)).drew.cell? ⟨wr.heap.size, 4, none⟩ = some (.int .i64 (xl : Int))) := ⟨KB0.out.cell 0 _ rfl, KB0.out.cell 1 _ rfl, KB0.out.cell 2 _ rfl, KB0.out.cell 3 _ rfl, KB0.out.cell 4 _ rfl⟩
   have cC := clone xk (wr.alloc (.cells #[.string xk, .int .i64 (xa : Int), .int .i64 (xz : Int), .int .i64 (xf : Int), .int .i64 (xl : Int)] 127)).drew (by have := HFx.out; have := HS.out; omega)
   go_wp2_with fail
   refine wp_region_until (fun w' => w'.cell? ⟨wr.heap.size, 0, none⟩ = some (.string xk) ∧ w'.cell? ⟨wr.heap.size, 1, none⟩ = some (.int .i64 (xa : Int)) ∧ w'.cell? ⟨wr.heap.size, 2, none⟩ = some (.int .i64 (xz : Int)) ∧ w'.cell? ⟨wr.heap.size, 3, none⟩ = some (.int .i64 (xf : Int)) ∧ w'.cell? ⟨wr.heap.size, 4, none⟩ = some (.int .i64 (xl : Int))) (fun i => i == 9 || i == 10) 11 (by rfl) (by kernel_rfl) ?_
   refine tKf 0 S0.out ?_
   refine tKf 1 S0.out ?_
   refine tKf 2 S0.out ?_
   refine tKf 4 S0.out ?_
   refine tKf 5 S0.out ?_
   refine uNe 3 (fun K hK => ?_)
   go_simp
   refine cC.mono ?_
   rintro e X2 ⟨rfl, hb2⟩
   have KB2 : Hid (Blk X2 wr.heap.size #[.string xk, .int .i64 (xa : Int), .int .i64 (xz : Int), .int .i64 (xf : Int), .int .i64 (xl : Int)] 127) := KB0.out.on hb2 KB0.out.lt
   have CB2 : Hid (CurB X2 w.heap.size s p 231) := Blk.on CB0.out hb2 (Blk.lt CB0.out)
   have BB2 : Hid (Below w.heap.size w X2) := BB0.out.trans (hb2.mono BB0.out.size)
   have OL2 : Hid (SerO X2 (w.heap.size + 1) u5 L) := OL0.out.on hb2
   have OS2 : Hid (Owns X2 (w.heap.size + 1) 127 5 (.slice (some ⟨g5, o5, none⟩) n c11) (spR (spots s))) := OS0.out.on hb2
   clear hb2 cC KB0 CB0 BB0 OL0 OS0
   go_wp2_with fail
   refine hK.out _ _ (fun _ _ => ⟨KB2.out.cell 0 _ rfl, KB2.out.cell 1 _ rfl, KB2.out.cell 2 _ rfl, KB2.out.cell 3 _ rfl, KB2.out.cell 4 _ rfl⟩) ?_
   clear hK K
   try simp only [Act.put, zQ1, zQ2, zQ3]
   refine uNe 6 (fun K hK => ?_)
   go_simp
   refine (readBlockV s p w.heap.size ⟨xk, xa, xz, xf, xl⟩ X2 w CB2.out HS.out ⟨HFx.out.1, HFx.out.2.1⟩ BB2.out (Nat.le_refl _) ST.out a0 a1 a2 ER.out).mono ?_
   rintro e X3 ⟨⟨u3, rfl, hO3⟩, ⟨p3, hC3⟩, hk3⟩
   obtain ⟨A3, n3, c3, rfl⟩ := hO3.shape
   have KB3 : Hid (Blk X3 wr.heap.size #[.string xk, .int .i64 (xa : Int), .int .i64 (xz : Int), .int .i64 (xf : Int), .int .i64 (xl : Int)] 127) := hk3.blk KB2.out (by have := HHS.out; omega)
   have CB3 : Hid (CurB X3 w.heap.size s p3 231) := hC3
   have BB3 : Hid (Below w.heap.size w X3) := BB2.out.trans hk3.1
   have OL3 : Hid (SerO X3 (w.heap.size + 1) u5 L) := OL2.out.others hk3 (by omega)
   have OS3 : Hid (Owns X3 (w.heap.size + 1) 127 5 (.slice (some ⟨g5, o5, none⟩) n c11) (spR (spots s))) := hk3.owns OS2.out (OS2.out.below (by omega))
   have UP3 : Hid (Owns X3 X2.heap.size 98 2 (.slice A3 n3 c3) (ptR (serA s ⟨xk, xa, xz, xf, xl⟩).pts)) := hO3
   have AP3 : Hid (∀ q ∈ L, Apart q.2 (.slice A3 n3 c3)) := fun q hq gg h1 h2 => by
    have := ((OL2.out.2.1 q hq).lt gg h1).2
    have := (hO3.lt gg h2).1
    omega
   have Z23 : Hid (w.heap.size + 1 ≤ X2.heap.size) := by have := Blk.lt CB2.out; unfold Hid; omega
   have Z3 : w.heap.size + 1 ≤ X3.heap.size := by have := Blk.lt CB3.out; omega
   clear hO3 hC3 hk3 KB2 CB2 BB2 OL2 OS2
   obtain ⟨nA, nm, nc, w5, r5, hO5, hb5, hk5, _⟩ := run_append_row (P := Tryz.prog) X3 33 33 101 (.agg #[.string ⟨#[]⟩, .slice none 0 0]) 2 40 Tryz.underlying33 Tryz.infoSr rfl (by omega) (w.heap.size + 1) u5 (srR L) OL3.out.1 [.string xk, .slice A3 n3 c3] rfl (by intro y hy; simp only [List.mem_cons, List.not_mem_nil, or_false] at hy; rcases hy with rfl | rfl <;> rfl) (by rw [srR_length, HLL.out]; omega) (by omega) Z3
   have hne5 : ∀ (v : Value) (b : Nat) (e : TypeId) (sz : Nat) (r : List (List Value)), Owns X3 b e sz v r → e ≠ 101 → Owns w5 b e sz v r := fun v b e sz r ho hne => ho.kept fun gg hg hv => hk5 gg hg (fun hu => ho.apartT OL3.out.1 hne gg hv hu)
   have CB5 : Hid (CurB w5 w.heap.size s p3 231) := (hk5 w.heap.size (Blk.lt CB3.out) (OL3.out.1.below (by omega))).trans CB3.out
   have BB5 : Hid (Below w.heap.size w w5) := BB3.out.trans (hb5.mono (by omega))
   have OS5 : Hid (Owns w5 (w.heap.size + 1) 127 5 (.slice (some ⟨g5, o5, none⟩) n c11) (spR (spots s))) := hne5 _ _ _ _ _ OS3.out (by decide)
   have OL5 : Hid (SerO w5 (w.heap.size + 1) (.slice nA nm nc) (L ++ [(serA s ⟨xk, xa, xz, xf, xl⟩, .slice A3 n3 c3)])) := SerO.snoc (w1 := X3) (v := u5) hO5 (fun q hq => hne5 _ _ _ _ _ (OL3.out.2.1 q hq) (by decide)) OL3.out.2.2 (hne5 _ _ _ _ _ (UP3.out.mono Z23.out) (by decide)) AP3.out
   have HLMn : Hid ((L ++ [(serA s ⟨xk, xa, xz, xf, xl⟩, Value.slice A3 n3 c3)]).map Prod.fst = ((spots s).take (k + 1)).map (serA s)) := by
    unfold Hid
    rw [HT.out, List.map_append, HLM.out]
    rfl
   clear hO5 hb5 hk5 hne5
   go_wp2_with fail
   refine hK.out _ _ (fun _ _ => ⟨KB3.out.cell 0 _ rfl, KB3.out.cell 1 _ rfl, KB3.out.cell 2 _ rfl, KB3.out.cell 3 _ rfl, KB3.out.cell 4 _ rfl⟩) ?_
   clear hK K
   try simp only [Act.put, zQ1, zQ2, zQ3]
   refine pUf 7 ?_
   refine uNe 8 (fun K hK => ?_)
   go_simp
   refine hK.out _ _ (fun _ h => ⟨cell_alloc_keep h.1 _, cell_alloc_keep h.2.1 _, cell_alloc_keep h.2.2.1 _, cell_alloc_keep h.2.2.2.1 _, cell_alloc_keep h.2.2.2.2 _⟩) ?_
   clear hK K
   try simp only [Act.put, zQ1, zQ2, zQ3]
   refine uNe 9 (fun K hK => ?_)
   refine step_append_run (by rfl) (.tmp 17) (.tmp 25) 33 (by rfl) _ _ _ _ (by rfl) (by rfl) r5 ?_
   refine hK.out _ _ (fun h => by cases h) ?_
   clear hK K
   try simp only [Act.put, zQ1, zQ2, zQ3]
   refine uNe 10 (fun K hK => ?_)
   go_simp
   refine hK.out _ _ (fun h => by cases h) ?_
   clear hK K
   try simp only [Act.put, zQ1, zQ2, zQ3]
   refine until_done (by kernel_rfl) ?_ _
   go_wp2_with fail
   go_roundw
   case rel => exact ⟨k + 1, p3, _, by omega, by go_num, HLMn.out, OL5.out, OS5.out, CB5.out, BB5.out⟩
   case measure => simp [intOf]; omega
  ·obtain rfl : k = n := by omega
   have HA : Hid (L.map Prod.fst = serAll s) := by
    unfold Hid
    rw [HLM.out, List.take_of_length_le (by rw [HNn.out]; exact Nat.le_refl _)]
    rfl
   obtain ⟨A5, c5, e5, _⟩ := sr_look HO.out.lies.1
   rw [HLL.out] at e5
   subst e5
   by_cases h0 : k = 0
   ·subst h0
    have HE : Hid (serAll s = []) := by unfold Hid; rw [← HA.out, List.eq_nil_of_length_eq_zero HLL.out]; rfl
    go_wp2_with fail
    exact bodyPost_ret (results_tmp2 rfl _ _ _) rfl ⟨⟨_, [], _, rf_no (.inl HE.out), rfl, Owns.nil _ _ _ _, fun p hp => (by cases hp), List.Pairwise.nil⟩, HB1.out⟩
   have d0 : ((k : Int) == 0) = false := by rw [beq_eq_false_iff_ne]; omega
   have d1 : decide ((k : Int) = 0) = false := decide_eq_false (by omega)
   have HNE : Hid (serAll s ≠ []) := fun e => h0 (by rw [← HLL.out, ← List.length_map (f := Prod.fst), HA.out, e]; rfl)
   have cF := implFileText (serAll s) (.slice A5 k c5) wr wr.heap.size ⟨L, HA.out, HO.out.lies⟩ (serAll_short s) (serAll_keys s HS.out) (Nat.le_refl _) (ST.out.on HB1.out)
   by_cases hEq : fileT (serAll s) = s
   ·rw [hEq] at cF
    have HEQ : Hid (fileT (serAll s) = s) := hEq
    clear hEq
    go_wp2_with fail
    refine cF.mono ?_
    rintro e Y ⟨rfl, hbY⟩
    have BY : Hid (Below w.heap.size w Y) := HB1.out.trans (hbY.mono HB1.out.size)
    have OY : Hid (SerO Y w.heap.size (.slice A5 k c5) L) := (HO.out.on hbY).mono (by omega)
    clear hbY cF
    go_wp2_with fail
    exact bodyPost_ret (results_tmp2 rfl _ _ _) rfl ⟨⟨_, L, _, by rw [HA.out]; exact rf_yes HNE.out HEQ.out, rfl, OY.out⟩, BY.out⟩
   ·have HEQ : Hid (fileT (serAll s) ≠ s) := hEq
    have hne := bytes_ne hEq
    clear hEq
    go_wp2_with fail
    refine cF.mono ?_
    rintro e Y ⟨rfl, hbY⟩
    have BY : Hid (Below w.heap.size w Y) := HB1.out.trans (hbY.mono HB1.out.size)
    clear hbY cF
    go_wp2_with fail
    exact bodyPost_ret (results_tmp2 rfl _ _ _) rfl ⟨⟨_, [], _, rf_no (.inr HEQ.out), rfl, Owns.nil _ _ _ _, fun p hp => (by cases hp), List.Pairwise.nil⟩, BY.out⟩
end Go.Proofs.YthhamlahdjokkaaGreatDoor
namespace Go.Proofs.YthhamlahdjokkaaGreatDoor
open Go.ChangeShapes Go.WideShapes Go.ChangeAt Go.RowKit Go.PlainAid
set_option linter.unusedVariables false
def vSt (x : Sta) (vb vc vf vs : Value) : Value := .agg #[.int .i64 x.kind, .int .i64 x.hold, .int .i64 x.mark, vb, .int .i64 x.eng.floor, vc, vf, vs]
def StaV (w : World) (B : Nat) (v : Value) (x : Sta) : Prop := ∃ vb vc vf vs, v = vSt x vb vc vf vs ∧ Lies w B 2 vb (ptR x.bks) ∧ SerV w B vc x.eng.cache ∧ Lies w B 1 vf (stR x.eng.files) ∧ Lies w B 6 vs (sesR x.ses)
theorem StaV.on {w w' : World} {B : Nat} {v : Value} {x : Sta} (h : StaV w B v x) (hb : Below B w w') : StaV w' B v x := by
 obtain ⟨vb, vc, vf, vs, e, h1, h2, h3, h4⟩ := h
 exact ⟨vb, vc, vf, vs, e, h1.on hb, h2.on hb, h3.on hb, h4.on hb⟩
theorem StaV.mono {w : World} {B C : Nat} {v : Value} {x : Sta} (h : StaV w B v x) (hB : B ≤ C) : StaV w C v x := by
 obtain ⟨vb, vc, vf, vs, e, h1, h2, h3, h4⟩ := h
 exact ⟨vb, vc, vf, vs, e, h1.mono hB, h2.mono hB, h3.mono hB, h4.mono hB⟩
def StaO (w : World) (base : Nat) (v : Value) (x : Sta) : Prop := ∃ vb vc vf vs L, v = vSt x vb vc vf vs ∧ Owns w base 58 2 vb (ptR x.bks) ∧ (L.map Prod.fst = x.eng.cache ∧ SerO w base vc L ∧ Strs w base vf x.eng.files) ∧ Owns w base 53 6 vs (sesR x.ses)
theorem StaO.view {w : World} {base : Nat} {v : Value} {x : Sta} (h : StaO w base v x) : StaV w w.heap.size v x := by
 obtain ⟨vb, vc, vf, vs, L, e, h1, ⟨h2, h3, h4⟩, h5⟩ := h
 exact ⟨vb, vc, vf, vs, e, h1.lies, by rw [← h2]; exact h3.view, (strs_owns h4).lies, h5.lies⟩
theorem StaO.on {w w' : World} {base : Nat} {v : Value} {x : Sta} (h : StaO w base v x) (hb : Below w.heap.size w w') : StaO w' base v x := by
 obtain ⟨vb, vc, vf, vs, L, e, h1, ⟨h2, h3, h4⟩, h5⟩ := h
 exact ⟨vb, vc, vf, vs, L, e, h1.on hb, ⟨h2, h3.on hb, owns_strs ((strs_owns h4).on hb)⟩, h5.on hb⟩
theorem StaO.mono {w : World} {base base' : Nat} {v : Value} {x : Sta} (h : StaO w base v x) (hb : base' ≤ base) : StaO w base' v x := by
 obtain ⟨vb, vc, vf, vs, L, e, h1, ⟨h2, h3, h4⟩, h5⟩ := h
 exact ⟨vb, vc, vf, vs, L, e, h1.mono hb, ⟨h2, h3.mono hb, owns_strs ((strs_owns h4).mono hb)⟩, h5.mono hb⟩
theorem StaO.shape {w : World} {base : Nat} {v : Value} {x : Sta} (h : StaO w base v x) : ∃ Ab nb cb Ac nc cc Af nf cf As ns cs, v = vSt x (.slice Ab nb cb) (.slice Ac nc cc) (.slice Af nf cf) (.slice As ns cs) := by
 obtain ⟨vb, vc, vf, vs, L, e, h1, ⟨h2, h3, h4⟩, h5⟩ := h
 obtain ⟨Ab, nb, cb, rfl⟩ := h1.shape
 obtain ⟨Ac, nc, cc, rfl⟩ := h3.1.shape
 obtain ⟨Af, nf, cf, rfl⟩ := (strs_owns h4).shape
 obtain ⟨As, ns, cs, rfl⟩ := h5.shape
 exact ⟨Ab, nb, cb, Ac, nc, cc, Af, nf, cf, As, ns, cs, e⟩
theorem StaV.shape {w : World} {B : Nat} {v : Value} {x : Sta} (h : StaV w B v x) : ∃ Ab nb cb Ac nc cc Af nf cf As ns cs, v = vSt x (.slice Ab nb cb) (.slice Ac nc cc) (.slice Af nf cf) (.slice As ns cs) := by
 obtain ⟨vb, vc, vf, vs, e, h1, h2, h3, h4⟩ := h
 obtain ⟨Ab, cb, rfl, _⟩ := pt_look h1
 obtain ⟨Ac, cc, rfl, _⟩ := h2.look
 obtain ⟨Af, cf, rfl, _⟩ := st_look h3
 obtain ⟨As, cs, rfl, _⟩ := ses_look h4
 exact ⟨Ab, _, cb, Ac, _, cc, Af, _, cf, As, _, cs, e⟩
theorem StaV.parts {w : World} {B : Nat} {x : Sta} {vb vc vf vs : Value} (h : StaV w B (vSt x vb vc vf vs) x) : Lies w B 2 vb (ptR x.bks) ∧ EngV w B (.agg #[.int .i64 x.eng.floor, vc, vf]) x.eng ∧ Lies w B 6 vs (sesR x.ses) := by
 obtain ⟨vb', vc', vf', vs', e, h1, h2, h3, h4⟩ := h
 unfold vSt at e
 simp only [Value.agg.injEq, Array.mk.injEq, List.cons.injEq, true_and, and_true] at e
 obtain ⟨rfl, rfl, rfl, rfl⟩ := e
 exact ⟨h1, ⟨_, _, rfl, h2, h3⟩, h4⟩
def StShort (x : Sta) : Prop := x.bks.length ≤ 1048576 ∧ EShort x.eng ∧ x.ses.length ≤ 1048576 ∧ ∀ s ∈ x.ses, s.data.size ≤ 1048576
end Go.Proofs.YthhamlahdjokkaaGreatDoor
namespace Go.Proofs.YthhamlahdjokkaaGreatDoor
open Go.ChangeShapes Go.WideShapes Go.ChangeAt Go.RowKit Go.PlainAid
set_option linter.unusedVariables false
theorem below_s2 (w : World) (a b : Obj) : Below w.heap.size w ((w.alloc a).alloc b) := ((Below.refl _ w).alloc (Nat.le_refl _) a).alloc (by simp) b
theorem below_s6 (w : World) (a b c d e f : Obj) : Below w.heap.size w ((((((w.alloc a).alloc b).alloc c).alloc d).alloc e).alloc f) := ((((((Below.refl _ w).alloc (Nat.le_refl _) a).alloc (by simp) b).alloc (by simp; omega) c).alloc (by simp; omega) d).alloc (by simp; omega) e).alloc (by simp; omega) f
def wtQ1 (x : Ses) : Nat := x.data.size
def wtQ : List Ses → Nat
 | [] => 0
 | x :: r => wtQ1 x + wtQ r
theorem wtQ_snoc (l : List Ses) (k : Nat) (h : k < l.length) : wtQ (l.take (k + 1)) = wtQ (l.take k) + wtQ1 (l.getD k default) := by
 rw [← getD_at l k h]
 induction l generalizing k with
 | nil => simp at h
 | cons x r ih =>
  cases k with
  | zero => simp [wtQ]
  | succ k => simp only [List.take_succ_cons, wtQ, List.getElem_cons_succ]; rw [ih k (by simpa using h)]; omega
def vSes (x : Ses) : Value := .agg #[.int .i64 x.client, .int .i64 x.serial, .int .i64 x.code, .int .i64 x.index, .int .i64 x.mark, .string x.data]
set_option maxHeartbeats 400000 in
theorem szSession (x : Ses) (left : Int) (w : World) (h0 : 0 ≤ left) (h1 : left ≤ 1048576) (hx : x.data.size ≤ maxLen) :
  Calls Tryz.prog 57 #[vSes x, .int .i64 left] w fun e w' => (∃ r, e = .returned (.int .i64 r) ∧ Hid (r = -1 ∨ 0 ≤ r ∧ r + (wtQ1 x : Int) = left)) ∧ Below w.heap.size w w' := by
 unfold vSes wtQ1
 have c1 := fun wx => szAnswer x.ans left wx h0 h1 hx
 have HB : Hid (Below w.heap.size w (w.alloc (.cells #[.int .i64 x.client, .int .i64 x.serial, .int .i64 x.code, .int .i64 x.index, .int .i64 x.mark, .string x.data] 94))) := below_a1 _ _
 unfold vAns Ses.ans at c1
 simp only at c1
 generalize hn : x.data.size = n at *
 go_enter Tryz.func57, Tryz.ntmps57
 go_wp2_with fail
 refine (c1 _).mono ?_
 rintro e w1 ⟨⟨r, rfl, hr⟩, hb⟩
 have B1 : Hid (Below w.heap.size w w1) := HB.out.trans (hb.mono HB.out.size)
 clear hb
 rcases hr.out with rfl | ⟨hr0, hr1⟩
 ·go_wp2_with fail
  go_ret
  exact ⟨⟨_, rfl, .inl rfl⟩, B1.out⟩
 ·have q : decide (r < 0) = false := decide_eq_false (by omega)
  have HR : Hid (r + (n : Int) = left) := hr1
  clear hr1
  go_wp2_with fail
  go_ret
  exact ⟨⟨_, rfl, .inr ⟨hr0, HR.out⟩⟩, B1.out⟩
set_option maxHeartbeats 1000000 in
theorem szSessionS (l : List Ses) (v : Value) (left : Int) (w : World) (B : Nat) (hv : Lies w B 6 v (sesR l)) (hd : ∀ x ∈ l, x.data.size ≤ maxLen) (hn : l.length ≤ maxLen) (h0 : 0 ≤ left) (h1 : left ≤ 1048576) (hB : B ≤ w.heap.size) :
  Calls Tryz.prog 19 #[v, .int .i64 left] w fun e w' => ∃ r : Int, e = .returned (.int .i64 r) ∧ (r = -1 ∨ 0 ≤ r ∧ r + ((l.length + wtQ l : Nat) : Int) = left) ∧ Below w.heap.size w w' := by
 unfold maxLen at hn
 obtain ⟨A, cap, rfl, hl⟩ := ses_look hv
 have HL : Hid (∀ j, j < l.length → ∃ g off, A = some ⟨g, off, none⟩ ∧ g < B ∧ _) := hl
 have HD : Hid (∀ x ∈ l, x.data.size ≤ maxLen) := hd
 have HB : Hid (B ≤ w.heap.size) := hB
 clear hl hd hB hv
 have q1 : (l.length : Int) ≤ 9223372036854775807 := by omega
 have w2 : wrap64 (left - (l.length : Int)) = left - (l.length : Int) := by unfold wrap64; omega
 by_cases hs : left < (l.length : Int)
 ·have q2 : left - (l.length : Int) < 0 := by omega
  go_enter Tryz.func19, Tryz.ntmps19
  go_wp2_with fail
  go_ret
  exact ⟨-1, rfl, .inl rfl, Below.refl _ _⟩
 ·have q2 : 0 ≤ left - (l.length : Int) := by omega
  have q3 : decide (left - (l.length : Int) < 0) = false := decide_eq_false (by omega)
  have HQ : Hid (0 ≤ left - (l.length : Int)) := q2
  generalize hN : l.length = n at *
  go_enter Tryz.func19, Tryz.ntmps19
  go_wp2_with fail
  clear q2 q3 w2
  go_loopw [1, 5] (fun v1 v5 wr => ∃ (k : Nat) (r : Int), k ≤ n ∧ v5 = .int .i64 (k : Int) ∧ v1 = .int .i64 r ∧ 0 ≤ r ∧ r + ((n + wtQ (l.take k) : Nat) : Int) = left ∧ Below w.heap.size w wr) (fun _ i _ => n - (intOf i).toNat)
  case atStart => exact ⟨0, left - (n : Int), by omega, rfl, rfl, HQ.out, by simp [wtQ], Below.refl _ _⟩
  case round =>
   obtain ⟨k, r, hk, rfl, rfl, hr0, hr, hb⟩ := hrel
   have HR : Hid (r + ((n + wtQ (l.take k) : Nat) : Int) = left) := hr
   have HB1 : Hid (Below w.heap.size w wr) := hb
   have q9 : r ≤ 1048576 := by omega
   clear hr hb
   by_cases hlt : k < n
   ·have q4 : (k : Int) < (n : Int) := by omega
    obtain ⟨g, off, rfl, hg, hc0, hc1, hc2, hc3, hc4, hc5⟩ := HL.out k (by omega)
    have hgw : g < w.heap.size := Nat.lt_of_lt_of_le hg HB.out
    rw [← HB1.out.cell (p := ⟨_, _, none⟩) hgw] at hc0
    rw [← HB1.out.cell (p := ⟨_, _, none⟩) hgw] at hc1
    rw [← HB1.out.cell (p := ⟨_, _, none⟩) hgw] at hc2
    rw [← HB1.out.cell (p := ⟨_, _, none⟩) hgw] at hc3
    rw [← HB1.out.cell (p := ⟨_, _, none⟩) hgw] at hc4
    rw [← HB1.out.cell (p := ⟨_, _, none⟩) hgw] at hc5
    have c1 := fun wx => szSession (l.getD k default) r wx hr0 q9 (HD.out _ (getD_mem l k (by omega)))
    have HW : Hid (wtQ (l.take (k + 1)) = wtQ (l.take k) + wtQ1 (l.getD k default)) := wtQ_snoc l k (by omega)
    unfold vSes at c1
    generalize wtQ1 (l.getD k default) = t at *
    generalize l.getD k default = x at *
    go_wp2_with fail
    refine (c1 _).mono ?_
    rintro e w2 ⟨⟨r2, rfl, hr2⟩, hb2⟩
    have HR2 : Hid (r2 = -1 ∨ 0 ≤ r2 ∧ r2 + (t : Int) = r) := hr2
    have HB2 : Hid (Below w.heap.size w w2) := HB1.out.trans (hb2.mono HB1.out.size)
    clear hr2 hb2
    rcases HR2.out with rfl | ⟨hp, hq⟩
    ·go_wp2_with fail
     go_ret
     exact ⟨-1, rfl, .inl rfl, HB2.out⟩
    ·have q5 : decide (r2 < 0) = false := decide_eq_false (by omega)
     have HQ2 : Hid (r2 + (t : Int) = r) := hq
     clear hq
     go_wp2_with fail
     go_roundw
     case rel => exact ⟨k + 1, r2, by omega, by go_num, rfl, hp, by have := HR.out; have := HQ2.out; rw [HW.out]; omega, HB2.out⟩
     case measure => simp [intOf]; omega
   ·obtain rfl : k = n := by omega
    go_wp2_with fail
    go_ret
    exact ⟨r, rfl, .inr ⟨hr0, by have := HR.out; rw [← hN, List.take_length] at this; rw [← hN]; exact this⟩, HB1.out⟩
set_option maxHeartbeats 400000 in
theorem toAnswerX (x : Ans) (w : World) : Calls Tryz.prog 106 #[vAns x] w fun e w' => e = .returned (vAns x) ∧ ∃ a b c, w' = ((w.alloc a).alloc b).alloc c := by
 unfold vAns
 go_enter Tryz.func106, Tryz.ntmps106
 go_wp2
 exact bodyPost_ret (v := .agg #[.int .i64 x.code, .int .i64 x.index, .int .i64 x.mark, .string x.data]) (by simp [results, go_sem]) rfl ⟨rfl, _, _, _, rfl⟩
set_option maxHeartbeats 400000 in
theorem toSession (x : Ses) (w : World) : Calls Tryz.prog 65 #[vSes x] w fun e w' => e = .returned (vSes x) ∧ Below w.heap.size w w' := by
 unfold vSes
 have c1 := fun wx => toAnswerX x.ans wx
 unfold vAns Ses.ans at c1
 simp only at c1
 go_enter Tryz.func65, Tryz.ntmps65
 go_wp2_with fail
 refine (c1 _).mono ?_
 rintro e w1 ⟨rfl, oa, ob, oc, rfl⟩
 go_wp2_with fail
 exact bodyPost_ret (v := .agg #[.int .i64 x.client, .int .i64 x.serial, .int .i64 x.code, .int .i64 x.index, .int .i64 x.mark, .string x.data]) (by simp [results, go_sem]) rfl ⟨rfl, below_s6 _ _ _ _ _ _ _⟩
theorem Tryz.infoSes : (Tryz.prog.info? 53).map (fun i => (i.zero, i.size, i.bytes)) = some (some (.agg #[.int .i64 0, .int .i64 0, .int .i64 0, .int .i64 0, .int .i64 0, .string ⟨#[]⟩]), 6, 56) := by kernel_rfl
def sesZ : List Value := [.int .i64 0, .int .i64 0, .int .i64 0, .int .i64 0, .int .i64 0, .string ⟨#[]⟩]
theorem ses_made (n : Nat) : madeCells #[.int .i64 0, .int .i64 0, .int .i64 0, .int .i64 0, .int .i64 0, .string ⟨#[]⟩] (n * 6) = (List.replicate n sesZ).flatten.toArray := by
 apply Array.ext'
 rw [List.toList_toArray]
 apply List.ext_getElem?
 intro k
 have hz : ∀ r ∈ List.replicate n sesZ, r.length = 6 := fun r hr => by rw [List.eq_of_mem_replicate hr]; rfl
 by_cases hk : k < n * 6
 ·have e : k = k / 6 * 6 + k % 6 := by omega
  have hf : k % 6 < 6 := Nat.mod_lt _ (by omega)
  have hj : k / 6 < n := Nat.div_lt_of_lt_mul (by omega)
  have := flat_at 6 (List.replicate n sesZ) hz (k / 6) (k % 6) (by simpa using hj) hf
  rw [← e] at this
  have hr : (List.replicate n sesZ)[k / 6]'(by simpa using hj) = sesZ := by simp
  rw [this, hr]
  have hs : (madeCells #[.int .i64 0, .int .i64 0, .int .i64 0, .int .i64 0, .int .i64 0, .string ⟨#[]⟩] (n * 6)).toList[k]? = some (#[.int .i64 0, .int .i64 0, .int .i64 0, .int .i64 0, .int .i64 0, .string ⟨#[]⟩].getD (k % 6) default) := by simp [madeCells, hk]
  rw [hs]
  have : k % 6 = 0 ∨ k % 6 = 1 ∨ k % 6 = 2 ∨ k % 6 = 3 ∨ k % 6 = 4 ∨ k % 6 = 5 := by omega
  rcases this with h | h | h | h | h | h <;> rw [h] <;> rfl
 ·have hl : (List.replicate n sesZ).flatten.length = n * 6 := by rw [flat_length 6 _ hz]; simp
  have hr : (List.replicate n sesZ).flatten[k]? = none := List.getElem?_eq_none (by omega)
  rw [hr]
  apply List.getElem?_eq_none
  rw [Array.length_toList, size_madeCells]
  omega
set_option maxHeartbeats 1000000 in
theorem toSessionS (l : List Ses) (v : Value) (w : World) (B : Nat) (hv : Lies w B 6 v (sesR l)) (hn : l.length ≤ 1048576) (hB : B ≤ w.heap.size) :
  Calls Tryz.prog 28 #[v] w fun e w' => ∃ u, e = .returned u ∧ Owns w' w.heap.size 53 6 u (sesR l) ∧ Below w.heap.size w w' := by
 obtain ⟨A, cap, rfl, hl⟩ := ses_look hv
 have HL : Hid (∀ j, j < l.length → ∃ g off, A = some ⟨g, off, none⟩ ∧ g < B ∧ _) := hl
 have HB : Hid (B ≤ w.heap.size) := hB
 clear hl hB hv
 have q1 : (l.length : Int) ≤ 1048576 := by omega
 generalize hN : l.length = n at *
 obtain ⟨i0, hi, hz0, hz1, hz2⟩ := info_parts Tryz.infoSes
 have hmk : ∀ wx : World, (Instr.makeSlice 36 (.int .i64 (n : Int)) (.int .i64 (n : Int))).run Tryz.prog wx = .ok (.slice (some ⟨wx.heap.size, 0, none⟩) n n) (wx.alloc (.cells (List.replicate n sesZ).flatten.toArray 53)) := fun wx => by
  have h := run_make (P := Tryz.prog) wx 36 53 i0 _ Tryz.underlying36 hi hz0 .i64 .i64 (n : Int) (n : Int) (by omega) (by omega) (by rw [hz2]; omega) (by omega)
  rw [hz1] at h
  have e : (Value.agg #[.int .i64 0, .int .i64 0, .int .i64 0, .int .i64 0, .int .i64 0, .string ⟨#[]⟩]).cells = #[.int .i64 0, .int .i64 0, .int .i64 0, .int .i64 0, .int .i64 0, .string ⟨#[]⟩] := rfl
  rw [e, Int.toNat_natCast, ses_made] at h
  exact h
 clear hi hz0 hz1 hz2
 go_enter Tryz.func28, Tryz.ntmps28
 go_wp2_with fail
 go_loopw [4] (fun v4 wr => ∃ k : Nat, k ≤ n ∧ v4 = .int .i64 (k : Int) ∧ Owns wr w.heap.size 53 6 (.slice (some ⟨w.heap.size, 0, none⟩) n n) (sesR (l.take k) ++ List.replicate (n - k) sesZ) ∧ Below w.heap.size w wr) (fun i _ => n - (intOf i).toNat)
 case atStart =>
  refine ⟨0, by omega, rfl, ?_, (Below.refl _ _).alloc (Nat.le_refl _) _⟩
  rw [List.take_zero, Nat.sub_zero, show sesR [] = [] from rfl, List.nil_append]
  refine ⟨fun r hr => by rw [List.eq_of_mem_replicate hr]; rfl, ?_⟩
  have hz : ∀ r ∈ List.replicate n sesZ, r.length = 6 := fun r hr => by rw [List.eq_of_mem_replicate hr]; rfl
  have hl := flat_length 6 (List.replicate n sesZ) hz
  rw [List.length_replicate] at hl ⊢
  exact World.ownsRow_lit w (List.replicate n sesZ).flatten.toArray n (Nat.le_refl _) (by unfold maxLen; omega) (by simpa using hl)
 case round =>
  obtain ⟨k, hk, rfl, hO, hb⟩ := hrel
  have HO : Hid (Owns wr w.heap.size 53 6 (.slice (some ⟨w.heap.size, 0, none⟩) n n) (sesR (l.take k) ++ List.replicate (n - k) sesZ)) := hO
  have HB1 : Hid (Below w.heap.size w wr) := hb
  clear hO hb
  by_cases hlt : k < n
  ·have q4 : (k : Int) < (n : Int) := by omega
   obtain ⟨g, off, rfl, hg, hc0, hc1, hc2, hc3, hc4, hc5⟩ := HL.out k (by omega)
   have hgw : g < w.heap.size := Nat.lt_of_lt_of_le hg HB.out
   rw [← HB1.out.cell (p := ⟨_, _, none⟩) hgw] at hc0
   rw [← HB1.out.cell (p := ⟨_, _, none⟩) hgw] at hc1
   rw [← HB1.out.cell (p := ⟨_, _, none⟩) hgw] at hc2
   rw [← HB1.out.cell (p := ⟨_, _, none⟩) hgw] at hc3
   rw [← HB1.out.cell (p := ⟨_, _, none⟩) hgw] at hc4
   rw [← HB1.out.cell (p := ⟨_, _, none⟩) hgw] at hc5
   have c1 := fun wx => toSession (l.getD k default) wx
   unfold vSes at c1
   generalize hx : l.getD k default = x at *
   have HX : Hid (l.getD k default = x) := hx
   clear hx
   go_wp2_with fail
   refine (c1 _).mono ?_
   rintro e w2 ⟨rfl, hb2⟩
   have hlen : (sesR (l.take k) ++ List.replicate (n - k) sesZ).length = n := by rw [List.length_append, List.length_replicate]; simp [sesR]; omega
   have hdl : (sesR (l.take k)).length = k := by simp [sesR]; omega
   have hO2 := HO.out.on hb2
   have hO3 := hO2
   rw [show (Value.slice (some ⟨w.heap.size, 0, none⟩) n n) = .slice (some ⟨w.heap.size, 0, none⟩) (sesR (l.take k) ++ List.replicate (n - k) sesZ).length n by rw [hlen]] at hO2
   obtain ⟨y0, d0⟩ := hO2.cellX k 0 (by rw [hlen]; exact hlt) (by omega)
   have f0 := hO2.free (k * 6)
   obtain ⟨y1, d1⟩ := hO2.cellX k 1 (by rw [hlen]; exact hlt) (by omega)
   have f1 := hO2.free (k * 6 + 1)
   obtain ⟨y2, d2⟩ := hO2.cellX k 2 (by rw [hlen]; exact hlt) (by omega)
   have f2 := hO2.free (k * 6 + 2)
   obtain ⟨y3, d3⟩ := hO2.cellX k 3 (by rw [hlen]; exact hlt) (by omega)
   have f3 := hO2.free (k * 6 + 3)
   obtain ⟨y4, d4⟩ := hO2.cellX k 4 (by rw [hlen]; exact hlt) (by omega)
   have f4 := hO2.free (k * 6 + 4)
   obtain ⟨y5, d5⟩ := hO2.cellX k 5 (by rw [hlen]; exact hlt) (by omega)
   have f5 := hO2.free (k * 6 + 5)
   rw [Nat.add_zero] at d0
   have hP := hO2.put6 k (by rw [hlen]; exact hlt) (.int .i64 x.client) (.int .i64 x.serial) (.int .i64 x.code) (.int .i64 x.index) (.int .i64 x.mark) (.string x.data)
   rw [hlen, fill_step _ _ _ n k hdl hlt, show sesR (l.take k) ++ [[.int .i64 x.client, .int .i64 x.serial, .int .i64 x.code, .int .i64 x.index, .int .i64 x.mark, .string x.data]] = sesR (l.take (k + 1)) by rw [sesR_snoc l k (by omega), HX.out]; rfl] at hP
   have HP : Hid (Owns (((((((w2).setCell ⟨w.heap.size, k * 6, none⟩ (.int .i64 x.client)).setCell ⟨w.heap.size, k * 6 + 1, none⟩ (.int .i64 x.serial)).setCell ⟨w.heap.size, k * 6 + 2, none⟩ (.int .i64 x.code)).setCell ⟨w.heap.size, k * 6 + 3, none⟩ (.int .i64 x.index)).setCell ⟨w.heap.size, k * 6 + 4, none⟩ (.int .i64 x.mark)).setCell ⟨w.heap.size, k * 6 + 5, none⟩ (.string x.data)) w.heap.size 53 6 (.slice (some ⟨w.heap.size, 0, none⟩) n n) (sesR (l.take (k + 1)) ++ List.replicate (n - (k + 1)) sesZ)) := hP
   have HB2 : Hid (Below w.heap.size w w2) := HB1.out.trans (hb2.mono HB1.out.size)
   clear hO2 hO3 hP hb2 hlen hdl
   go_wp2_with fail
   go_roundw
   case rel => exact ⟨k + 1, by omega, by go_num, HP.out, ((((((HB2.out).setCell (Nat.le_refl _) _).setCell (Nat.le_refl _) _).setCell (Nat.le_refl _) _).setCell (Nat.le_refl _) _).setCell (Nat.le_refl _) _).setCell (Nat.le_refl _) _⟩
   case measure => simp [intOf]; omega
  ·obtain rfl : k = n := by omega
   go_wp2_with fail
   go_ret
   refine ⟨_, rfl, ?_, HB1.out⟩
   have := HO.out
   rw [← hN, List.take_length, Nat.sub_self, List.replicate_zero, List.append_nil] at this
   rw [← hN]
   exact this
set_option maxHeartbeats 400000 in
theorem eqAnswer (x : Ans) (w : World) : Calls Tryz.prog 111 #[vAns x, vAns x] w fun e w' => e = .returned (.bool true) ∧ Below w.heap.size w w' := by
 unfold vAns
 go_enter Tryz.func111, Tryz.ntmps111
 go_wp2
 go_ret
 exact ⟨rfl, below_s2 _ _ _⟩
set_option maxHeartbeats 400000 in
theorem eqSession (x : Ses) (w : World) : Calls Tryz.prog 75 #[vSes x, vSes x] w fun e w' => e = .returned (.bool true) ∧ Below w.heap.size w w' := by
 unfold vSes
 have c1 := fun wx => eqAnswer x.ans wx
 unfold vAns Ses.ans at c1
 simp only at c1
 have HB := fun a b => below_s2 w a b
 go_enter Tryz.func75, Tryz.ntmps75
 go_wp2_with fail
 refine (c1 _).mono ?_
 rintro e w1 ⟨rfl, hb⟩
 have B1 : Hid (Below w.heap.size w w1) := (HB _ _).trans (hb.mono (HB _ _).size)
 clear hb HB
 go_wp2_with fail
 go_ret
 exact ⟨rfl, B1.out⟩
set_option maxHeartbeats 1000000 in
theorem eqSessionS (l : List Ses) (va vb : Value) (w : World) (B : Nat) (ha : Lies w B 6 va (sesR l)) (hb : Lies w B 6 vb (sesR l)) (hn : l.length ≤ 1048576) (hB : B ≤ w.heap.size) :
  Calls Tryz.prog 34 #[va, vb] w fun e w' => e = .returned (.bool true) ∧ Below w.heap.size w w' := by
 obtain ⟨A, cap, rfl, hl⟩ := ses_look ha
 obtain ⟨A', cap', rfl, hl'⟩ := ses_look hb
 have HL : Hid (∀ j, j < l.length → ∃ g off, A = some ⟨g, off, none⟩ ∧ g < B ∧ _) := hl
 have HL' : Hid (∀ j, j < l.length → ∃ g off, A' = some ⟨g, off, none⟩ ∧ g < B ∧ _) := hl'
 have HB : Hid (B ≤ w.heap.size) := hB
 clear hl hl' hB ha hb
 have q1 : (l.length : Int) ≤ 1048576 := by omega
 generalize hN : l.length = n at *
 go_enter Tryz.func34, Tryz.ntmps34
 go_wp2_with fail
 go_loopw [5] (fun v5 wr => ∃ k : Nat, k ≤ n ∧ v5 = .int .i64 (k : Int) ∧ Below w.heap.size w wr) (fun i _ => n - (intOf i).toNat)
 case atStart => exact ⟨0, by omega, rfl, Below.refl _ _⟩
 case round =>
  obtain ⟨k, hk, rfl, hb⟩ := hrel
  have HB1 : Hid (Below w.heap.size w wr) := hb
  clear hb
  by_cases hlt : k < n
  ·have q4 : (k : Int) < (n : Int) := by omega
   obtain ⟨g, off, rfl, hg, ha0, ha1, ha2, ha3, ha4, ha5⟩ := HL.out k hlt
   obtain ⟨g', off', rfl, hg', hb0, hb1, hb2, hb3, hb4, hb5⟩ := HL'.out k hlt
   have hgw : g < w.heap.size := Nat.lt_of_lt_of_le hg HB.out
   have hgw' : g' < w.heap.size := Nat.lt_of_lt_of_le hg' HB.out
   rw [← HB1.out.cell (p := ⟨_, _, none⟩) hgw] at ha0
   rw [← HB1.out.cell (p := ⟨_, _, none⟩) hgw'] at hb0
   rw [← HB1.out.cell (p := ⟨_, _, none⟩) hgw] at ha1
   rw [← HB1.out.cell (p := ⟨_, _, none⟩) hgw'] at hb1
   rw [← HB1.out.cell (p := ⟨_, _, none⟩) hgw] at ha2
   rw [← HB1.out.cell (p := ⟨_, _, none⟩) hgw'] at hb2
   rw [← HB1.out.cell (p := ⟨_, _, none⟩) hgw] at ha3
   rw [← HB1.out.cell (p := ⟨_, _, none⟩) hgw'] at hb3
   rw [← HB1.out.cell (p := ⟨_, _, none⟩) hgw] at ha4
   rw [← HB1.out.cell (p := ⟨_, _, none⟩) hgw'] at hb4
   rw [← HB1.out.cell (p := ⟨_, _, none⟩) hgw] at ha5
   rw [← HB1.out.cell (p := ⟨_, _, none⟩) hgw'] at hb5
   have c1 := fun wx => eqSession (l.getD k default) wx
   unfold vSes at c1
   generalize l.getD k default = x at *
   have hsz := HB1.out.size
   go_wp2_with fail
   go_region_with (go_at_call 75; refine (c1 _).mono ?_; rintro e w1 ⟨rfl, hb1⟩)
   all_goals go_wp2_with fail
   all_goals exact ⟨⟨k + 1, by omega, by go_num, HB1.out.trans (((Below.refl _ wr).drew.trans hb1).mono hsz)⟩, by simp [intOf]; omega⟩
  ·obtain rfl : k = n := by omega
   go_wp2_with fail
   go_ret
   exact ⟨rfl, HB1.out⟩
end Go.Proofs.YthhamlahdjokkaaGreatDoor
namespace Go.Proofs.YthhamlahdjokkaaGreatDoor
open Go.ChangeShapes Go.WideShapes Go.ChangeAt Go.RowKit Go.PlainAid
set_option linter.unusedVariables false
set_option maxHeartbeats 400000 in
theorem szBucketS (l : List Pnt) (v : Value) (left : Int) (w : World) (B : Nat) (hv : Lies w B 2 v (ptR l)) (hn : l.length ≤ maxLen) (h0 : 0 ≤ left) (h1 : left ≤ 1048576) :
  Calls Tryz.prog 17 #[v, .int .i64 left] w fun e w' => (∃ r : Int, e = .returned (.int .i64 r) ∧ Hid (r = -1 ∨ 0 ≤ r ∧ r + (l.length : Int) = left)) ∧ w = w' := by
 unfold maxLen at hn
 obtain ⟨A, cap, rfl, _⟩ := pt_look hv
 clear hv
 generalize l.length = n at *
 have q1 : (n : Int) ≤ 9223372036854775807 := by omega
 have w2 : wrap64 (left - (n : Int)) = left - (n : Int) := by unfold wrap64; omega
 by_cases hl : left < (n : Int)
 ·have q2 : left - (n : Int) < 0 := by omega
  go_enter Tryz.func17, Tryz.ntmps17
  go_wp2
  go_ret
  exact ⟨⟨_, rfl, .inl rfl⟩, rfl⟩
 ·have HL : Hid ((n : Int) ≤ left) := by unfold Hid; omega
  have q2 : 0 ≤ left - (n : Int) := by omega
  have q3 : decide (left - (n : Int) < 0) = false := decide_eq_false (by omega)
  go_enter Tryz.func17, Tryz.ntmps17
  go_wp2
  go_ret
  exact ⟨⟨_, rfl, .inr ⟨by have := HL.out; omega, by omega⟩⟩, rfl⟩
set_option maxHeartbeats 400000 in
theorem toBucket (x : Pnt) (w : World) : Calls Tryz.prog 62 #[vPt x] w fun e w' => e = .returned (vPt x) ∧ Below w.heap.size w w' := by
 unfold vPt
 go_enter Tryz.func62, Tryz.ntmps62
 go_wp2
 exact bodyPost_ret (v := .agg #[.int .i64 x.t, .int .i64 x.v]) (by simp [results, go_sem]) rfl ⟨rfl, below_alloc3 _ _ _ _⟩
theorem Tryz.infoBk : (Tryz.prog.info? 58).map (fun i => (i.zero, i.size, i.bytes)) = some (some (.agg #[.int .i64 0, .int .i64 0]), 2, 16) := by kernel_rfl
set_option maxHeartbeats 1000000 in
theorem toBucketS (l : List Pnt) (v : Value) (w : World) (B : Nat) (hv : Lies w B 2 v (ptR l)) (hn : l.length ≤ 1048576) (hB : B ≤ w.heap.size) :
  Calls Tryz.prog 26 #[v] w fun e w' => ∃ u, e = .returned u ∧ Owns w' w.heap.size 58 2 u (ptR l) ∧ Below w.heap.size w w' := by
 obtain ⟨A, cap, rfl, hl⟩ := pt_look hv
 have HL : Hid (∀ j, j < l.length → ∃ g off, A = some ⟨g, off, none⟩ ∧ g < B ∧ _) := hl
 have HB : Hid (B ≤ w.heap.size) := hB
 clear hl hB hv
 have q1 : (l.length : Int) ≤ 1048576 := by omega
 generalize hN : l.length = n at *
 obtain ⟨i0, hi, hz0, hz1, hz2⟩ := info_parts Tryz.infoBk
 have hmk : ∀ wx : World, (Instr.makeSlice 32 (.int .i64 (n : Int)) (.int .i64 (n : Int))).run Tryz.prog wx = .ok (.slice (some ⟨wx.heap.size, 0, none⟩) n n) (wx.alloc (.cells (List.replicate n ptZ).flatten.toArray 58)) := fun wx => by
  have h := run_make (P := Tryz.prog) wx 32 58 i0 _ Tryz.underlying32 hi hz0 .i64 .i64 (n : Int) (n : Int) (by omega) (by omega) (by rw [hz2]; omega) (by omega)
  rw [hz1] at h
  have e : (Value.agg #[.int .i64 0, .int .i64 0]).cells = #[.int .i64 0, .int .i64 0] := rfl
  rw [e, Int.toNat_natCast, pt_made] at h
  exact h
 clear hi hz0 hz1 hz2
 go_enter Tryz.func26, Tryz.ntmps26
 go_wp2_with fail
 go_loopw [4] (fun v4 wr => ∃ k : Nat, k ≤ n ∧ v4 = .int .i64 (k : Int) ∧ Owns wr w.heap.size 58 2 (.slice (some ⟨w.heap.size, 0, none⟩) n n) (ptR (l.take k) ++ List.replicate (n - k) ptZ) ∧ Below w.heap.size w wr) (fun i _ => n - (intOf i).toNat)
 case atStart =>
  refine ⟨0, by omega, rfl, ?_, (Below.refl _ _).alloc (Nat.le_refl _) _⟩
  rw [List.take_zero, Nat.sub_zero, show ptR [] = [] from rfl, List.nil_append]
  refine ⟨fun r hr => by rw [List.eq_of_mem_replicate hr]; rfl, ?_⟩
  have hz : ∀ r ∈ List.replicate n ptZ, r.length = 2 := fun r hr => by rw [List.eq_of_mem_replicate hr]; rfl
  have hl := flat_length 2 (List.replicate n ptZ) hz
  rw [List.length_replicate] at hl ⊢
  exact World.ownsRow_lit w (List.replicate n ptZ).flatten.toArray n (Nat.le_refl _) (by unfold maxLen; omega) (by simpa using hl)
 case round =>
  obtain ⟨k, hk, rfl, hO, hb⟩ := hrel
  have HO : Hid (Owns wr w.heap.size 58 2 (.slice (some ⟨w.heap.size, 0, none⟩) n n) (ptR (l.take k) ++ List.replicate (n - k) ptZ)) := hO
  have HB1 : Hid (Below w.heap.size w wr) := hb
  clear hO hb
  by_cases hlt : k < n
  ·have q4 : (k : Int) < (n : Int) := by omega
   obtain ⟨g, off, rfl, hg, hc0, hc1⟩ := HL.out k (by omega)
   have hgw : g < w.heap.size := Nat.lt_of_lt_of_le hg HB.out
   rw [← HB1.out.cell (p := ⟨_, _, none⟩) hgw] at hc0
   rw [← HB1.out.cell (p := ⟨_, _, none⟩) hgw] at hc1
   have c1 := fun wx => toBucket (l.getD k default) wx
   unfold vPt at c1
   generalize hx : l.getD k default = x at *
   have HX : Hid (l.getD k default = x) := hx
   clear hx
   go_wp2_with fail
   refine (c1 _).mono ?_
   rintro e w2 ⟨rfl, hb2⟩
   have hlen : (ptR (l.take k) ++ List.replicate (n - k) ptZ).length = n := by rw [List.length_append, List.length_replicate]; simp [ptR]; omega
   have hdl : (ptR (l.take k)).length = k := by simp [ptR]; omega
   have hO2 := HO.out.on hb2
   have hO3 := hO2
   rw [show (Value.slice (some ⟨w.heap.size, 0, none⟩) n n) = .slice (some ⟨w.heap.size, 0, none⟩) (ptR (l.take k) ++ List.replicate (n - k) ptZ).length n by rw [hlen]] at hO2
   obtain ⟨y0, d0⟩ := hO2.cellX k 0 (by rw [hlen]; exact hlt) (by omega)
   have f0 := hO2.free (k * 2)
   obtain ⟨y1, d1⟩ := hO2.cellX k 1 (by rw [hlen]; exact hlt) (by omega)
   have f1 := hO2.free (k * 2 + 1)
   rw [Nat.add_zero] at d0
   have hP := hO2.put2 k (by rw [hlen]; exact hlt) (.int .i64 x.t) (.int .i64 x.v)
   rw [hlen, fill_step _ _ _ n k hdl hlt, show ptR (l.take k) ++ [[.int .i64 x.t, .int .i64 x.v]] = ptR (l.take (k + 1)) by rw [ptR_snoc l k (by omega), HX.out]; rfl] at hP
   have HP : Hid (Owns (((w2).setCell ⟨w.heap.size, k * 2, none⟩ (.int .i64 x.t)).setCell ⟨w.heap.size, k * 2 + 1, none⟩ (.int .i64 x.v)) w.heap.size 58 2 (.slice (some ⟨w.heap.size, 0, none⟩) n n) (ptR (l.take (k + 1)) ++ List.replicate (n - (k + 1)) ptZ)) := hP
   have HB2 : Hid (Below w.heap.size w w2) := HB1.out.trans (hb2.mono HB1.out.size)
   clear hO2 hO3 hP hb2 hlen hdl
   go_wp2_with fail
   go_roundw
   case rel => exact ⟨k + 1, by omega, by go_num, HP.out, ((HB2.out).setCell (Nat.le_refl _) _).setCell (Nat.le_refl _) _⟩
   case measure => simp [intOf]; omega
  ·obtain rfl : k = n := by omega
   go_wp2_with fail
   go_ret
   refine ⟨_, rfl, ?_, HB1.out⟩
   have := HO.out
   rw [← hN, List.take_length, Nat.sub_self, List.replicate_zero, List.append_nil] at this
   rw [← hN]
   exact this
set_option maxHeartbeats 400000 in
theorem eqBucket (x : Pnt) (w : World) : Calls Tryz.prog 72 #[vPt x, vPt x] w fun e w' => e = .returned (.bool true) ∧ Below w.heap.size w w' := by
 unfold vPt
 go_enter Tryz.func72, Tryz.ntmps72
 go_wp2
 go_ret
 exact ⟨rfl, below_alloc2 _ _ _⟩
set_option maxHeartbeats 1000000 in
theorem eqBucketS (l : List Pnt) (va vb : Value) (w : World) (B : Nat) (ha : Lies w B 2 va (ptR l)) (hb : Lies w B 2 vb (ptR l)) (hn : l.length ≤ 1048576) (hB : B ≤ w.heap.size) :
  Calls Tryz.prog 32 #[va, vb] w fun e w' => e = .returned (.bool true) ∧ Below w.heap.size w w' := by
 obtain ⟨A, cap, rfl, hl⟩ := pt_look ha
 obtain ⟨A', cap', rfl, hl'⟩ := pt_look hb
 have HL : Hid (∀ j, j < l.length → ∃ g off, A = some ⟨g, off, none⟩ ∧ g < B ∧ _) := hl
 have HL' : Hid (∀ j, j < l.length → ∃ g off, A' = some ⟨g, off, none⟩ ∧ g < B ∧ _) := hl'
 have HB : Hid (B ≤ w.heap.size) := hB
 clear hl hl' hB ha hb
 have q1 : (l.length : Int) ≤ 1048576 := by omega
 generalize hN : l.length = n at *
 go_enter Tryz.func32, Tryz.ntmps32
 go_wp2_with fail
 go_loopw [5] (fun v5 wr => ∃ k : Nat, k ≤ n ∧ v5 = .int .i64 (k : Int) ∧ Below w.heap.size w wr) (fun i _ => n - (intOf i).toNat)
 case atStart => exact ⟨0, by omega, rfl, Below.refl _ _⟩
 case round =>
  obtain ⟨k, hk, rfl, hb⟩ := hrel
  have HB1 : Hid (Below w.heap.size w wr) := hb
  clear hb
  by_cases hlt : k < n
  ·have q4 : (k : Int) < (n : Int) := by omega
   obtain ⟨g, off, rfl, hg, ha0, ha1⟩ := HL.out k hlt
   obtain ⟨g', off', rfl, hg', hb0, hb1⟩ := HL'.out k hlt
   have hgw : g < w.heap.size := Nat.lt_of_lt_of_le hg HB.out
   have hgw' : g' < w.heap.size := Nat.lt_of_lt_of_le hg' HB.out
   rw [← HB1.out.cell (p := ⟨_, _, none⟩) hgw] at ha0
   rw [← HB1.out.cell (p := ⟨_, _, none⟩) hgw'] at hb0
   rw [← HB1.out.cell (p := ⟨_, _, none⟩) hgw] at ha1
   rw [← HB1.out.cell (p := ⟨_, _, none⟩) hgw'] at hb1
   have c1 := fun wx => eqBucket (l.getD k default) wx
   unfold vPt at c1
   generalize l.getD k default = x at *
   have hsz := HB1.out.size
   go_wp2_with fail
   go_region_with (go_at_call 72; refine (c1 _).mono ?_; rintro e w1 ⟨rfl, hb1⟩)
   all_goals go_wp2_with fail
   all_goals exact ⟨⟨k + 1, by omega, by go_num, HB1.out.trans (((Below.refl _ wr).drew.trans hb1).mono hsz)⟩, by simp [intOf]; omega⟩
  ·obtain rfl : k = n := by omega
   go_wp2_with fail
   go_ret
   exact ⟨rfl, HB1.out⟩
end Go.Proofs.YthhamlahdjokkaaGreatDoor
namespace Go.Proofs.YthhamlahdjokkaaGreatDoor
open Go.ChangeShapes Go.WideShapes Go.ChangeAt Go.RowKit Go.PlainAid
set_option linter.unusedVariables false
theorem infoStr : (Tryz.prog.info? 9).map (fun i => (i.zero, i.size, i.bytes)) = some (some (.string ⟨#[]⟩), 1, 16) := by kernel_rfl
def nmF (key : ByteArray) (s : List ByteArray × Bool) (x : ByteArray) : List ByteArray × Bool := if s.2 = false ∧ ahd key x = true then (s.1 ++ [key] ++ [x], true) else (s.1 ++ [x], s.2)
def nmS (l : List ByteArray) (key : ByteArray) (k : Nat) : List ByteArray × Bool := (l.take k).foldl (nmF key) ([], false)
theorem nmS_succ (l : List ByteArray) (key : ByteArray) (k : Nat) (h : k < l.length) : nmS l key (k + 1) = nmF key (nmS l key k) (l.getD k default) := by
 unfold nmS
 rw [take_getD l k h, List.foldl_append]
 rfl
def nmFin (key : ByteArray) (s : List ByteArray × Bool) : List ByteArray := if s.2 then s.1 else s.1 ++ [key]
theorem nm_done (key : ByteArray) : ∀ (l o : List ByteArray), l.foldl (nmF key) (o, true) = (o ++ l, true)
 | [], o => by simp
 | x :: l, o => by
  have e : nmF key (o, true) x = (o ++ [x], true) := by simp [nmF]
  rw [List.foldl_cons, e, nm_done key l]
  simp
theorem nm_open (key : ByteArray) : ∀ (l o : List ByteArray), (∀ x ∈ l, x ≠ key) → nmFin key (l.foldl (nmF key) (o, false)) = o ++ insK l key
 | [], o, _ => by simp [nmFin, insK]
 | x :: l, o, h => by
  have hx := h x (by simp)
  by_cases h2 : ahd key x = true
  ·have e : nmF key (o, false) x = (o ++ [key] ++ [x], true) := by simp [nmF, h2]
   rw [List.foldl_cons, e, nm_done, insK, if_neg hx, if_pos h2]
   simp [nmFin]
  ·have e : nmF key (o, false) x = (o ++ [x], false) := by simp [nmF, h2]
   rw [List.foldl_cons, e, nm_open key l _ fun y hy => h y (by simp [hy]), insK, if_neg hx, if_neg h2]
   simp
theorem nm_all {l : List ByteArray} {key : ByteArray} (h : ∀ x ∈ l, x ≠ key) : nmFin key (nmS l key l.length) = insK l key := by
 unfold nmS
 rw [List.take_length, nm_open key l [] h, List.nil_append]
theorem insK_mem {key : ByteArray} : ∀ {l : List ByteArray}, RiseK l → key ∈ l → insK l key = l
 | x :: l, hl, h => by
  have hl' := List.pairwise_cons.1 hl
  by_cases e : x = key
  ·rw [insK, if_pos e]
  ·have hk : key ∈ l := by
    rcases List.mem_cons.1 h with e2 | h2
    ·exact absurd e2.symm e
    ·exact h2
   have h2 : ¬ ahd key x = true := fun h2 => absurd rfl (ahd_ne (ahd_trans h2 (hl'.1 key hk)))
   rw [insK, if_neg e, if_neg h2, insK_mem hl'.2 hk]
theorem nmS_len (l : List ByteArray) (key : ByteArray) : ∀ k, k ≤ l.length → (nmS l key k).1.length ≤ 2 * k
 | 0, _ => by simp [nmS]
 | k + 1, h => by
  have ih := nmS_len l key k (by omega)
  rw [nmS_succ l key k (by omega), nmF]
  split
  ·simp; omega
  ·simp; omega
theorem st_cell (x : ByteArray) : ∀ u ∈ ([.string x] : List Value), u.oneCell' = true := by
 intro u hu
 simp only [List.mem_cons, List.not_mem_nil, or_false] at hu
 rw [hu]; rfl
set_option maxHeartbeats 2000000 in
theorem specName (l : List ByteArray) (key : ByteArray) (v : Value) (w : World) (base : Nat) (hv : Owns w base 9 1 v (stR l)) (hn : l.length ≤ 1000) (hr : RiseK l) (hb : base ≤ w.heap.size) :
  Calls Tryz.prog 144 #[v, .string key] w fun e w' => (∃ u, e = .returned u ∧ Owns w' base 9 1 u (stR (insK l key))) ∧ Below w.heap.size w w' := by
 obtain ⟨A, cap, rfl, hl⟩ := st_look hv.lies
 have HV : Hid (Owns w base 9 1 (.slice A l.length cap) (stR l)) := hv
 have HL : Hid (∀ j, j < l.length → ∃ g off, A = some ⟨g, off, none⟩ ∧ g < w.heap.size ∧ w.cell? ⟨g, off + j, none⟩ = some (.string (l.getD j default))) := hl
 have HR : Hid (RiseK l) := hr
 have HB : Hid (base ≤ w.heap.size) := hb
 have HS : Hid (∀ k, k < l.length → nmS l key (k + 1) = nmF key (nmS l key k) (l.getD k default)) := fun k hk => nmS_succ l key k hk
 have HSl : Hid (∀ k, k ≤ l.length → (nmS l key k).1.length ≤ 2 * k) := nmS_len l key
 have q1 : (l.length : Int) ≤ 1000 := by omega
 clear hl hv hr hb hn
 generalize hN : l.length = n at *
 have HN : Hid (l.length = n) := hN
 clear hN
 have BE : Hid (Below w.heap.size w (w.alloc (.cells #[] 9))) := (Below.refl _ w).alloc (Nat.le_refl _) _
 have OE : Hid (Owns (w.alloc (.cells #[] 9)) w.heap.size 9 1 (.slice (some ⟨w.heap.size, 0, none⟩) 0 0) (stR [])) := Owns.empty w w.heap.size 9 1 (Nat.le_refl _)
 go_enter Tryz.func144, Tryz.ntmps144
 go_wp2_with fail
 go_loopw [5, 6, 7] (fun v5 v6 v7 wr => ∃ k : Nat, k ≤ n ∧ v7 = .int .i64 (k : Int) ∧ v6 = .bool (nmS l key k).2 ∧ Hid (∀ i, i < k → l.getD i default ≠ key) ∧ Owns wr w.heap.size 9 1 v5 (stR (nmS l key k).1) ∧ Below w.heap.size w wr) (fun _ _ i _ => n - (intOf i).toNat)
 case atStart => exact ⟨0, by omega, rfl, rfl, fun i hi => by omega, OE.out, BE.out⟩
 case round =>
  obtain ⟨k, hk, rfl, rfl, HJ, hO, hB⟩ := hrel
  have HO : Hid (Owns wr w.heap.size 9 1 u5 (stR (nmS l key k).1)) := hO
  have HBr : Hid (Below w.heap.size w wr) := hB
  obtain ⟨A5, n5, c5, rfl⟩ := hO.shape
  clear hO hB
  by_cases hlt : k < n
  ·have q4 : (k : Int) < (n : Int) := by omega
   obtain ⟨g, off, rfl, hg, e1⟩ := HL.out k hlt
   rw [← HBr.out.cell (p := ⟨_, _, none⟩) hg] at e1
   by_cases hkey : l.getD k default = key
   ·have HF : Hid (insK l key = l) := insK_mem HR.out (by rw [← hkey]; exact getD_mem l k (by rw [HN.out]; exact hlt))
    rw [hkey] at e1
    clear hkey
    go_wp2_with fail
    go_ret
    refine ⟨⟨_, rfl, ?_⟩, HBr.out⟩
    rw [HF.out]
    exact HV.out.on HBr.out
   ·have HK : Hid (l.getD k default ≠ key) := hkey
    have hne := bytes_ne hkey
    have HSk := HS.out k hlt
    have HLk := HSl.out k hk
    have HSe : Hid (nmS l key (k + 1) = nmF key (nmS l key k) (l.getD k default)) := HSk
    have HJn : Hid (∀ i, i < k + 1 → l.getD i default ≠ key) := fun i hi => by
     by_cases e : i = k
     ·rw [e]; exact HK.out
     ·exact HJ.out i (by omega)
    clear hkey HSk HJ HK
    have Z : w.heap.size ≤ wr.heap.size := HBr.out.size
    have L2 : Hid ((stR (nmS l key k).1).length ≤ 2097152) := by unfold Hid; rw [stR_length]; omega
    clear HLk
    by_cases hput : (nmS l key k).2 = false ∧ ahd key (l.getD k default) = true
    ·have HE : Hid (nmS l key (k + 1) = ((nmS l key k).1 ++ [key] ++ [l.getD k default], true)) := by
      unfold Hid
      rw [HSe.out, nmF, if_pos hput]
     have HLk : Hid ((nmS l key k).1.length ≤ 2 * k) := HSl.out k hk
     obtain ⟨hp1, hp2⟩ := hput
     unfold ahd at hp2
     rw [hp1]
     generalize (nmS l key k).1 = o at *
     generalize l.getD k default = x at *
     have hW : ∀ z : World, Hid (w.heap.size ≤ z.heap.size ∧ (stR (o ++ [key])).length ≤ 2097152) → True := fun _ _ => trivial
     have L3 : Hid ((stR (o ++ [key])).length ≤ 2097152) := by have := HLk.out; unfold Hid; rw [stR_length, List.length_append, List.length_singleton]; omega
     clear hW hp1
     go_wp2_with (at_builtin; refine wpList_append_row rfl (.tmp 32) (.tmp 34) 24 9 (.string ⟨#[]⟩) 1 16 rfl Tryz.underlying24 infoStr rfl (by omega) w.heap.size _ (stR o) rfl HO.out [.string key] rfl (st_cell key) rfl L2.out (by omega) Z ?_; intro v' w2 hO2 hb2 hk2 hw2; obtain ⟨A2, n2, c2, rfl⟩ := hO2.shape; refine Shut.out ?_)
     unfold Shut
     have B2 : Hid (Below w.heap.size w w2) := HBr.out.trans hb2
     have hc2 := e1
     rw [← hb2.cell (p := ⟨_, _, none⟩) hg] at hc2
     have O2 : Hid (Owns w2 w.heap.size 9 1 (.slice A2 n2 c2) (stR (o ++ [key]))) := by rw [stR_append]; exact hO2
     have Z2 : w.heap.size ≤ w2.heap.size := B2.out.size
     clear hO2 hb2 hk2 hw2 e1
     go_wp2_with (at_builtin; refine wpList_append_row rfl (.tmp 36) (.tmp 41) 24 9 (.string ⟨#[]⟩) 1 16 rfl Tryz.underlying24 infoStr rfl (by omega) w.heap.size _ (stR (o ++ [key])) rfl O2.out [.string x] rfl (st_cell x) rfl L3.out (by omega) Z2 ?_; intro v3 w3 hO3 hb3 hk3 hw3; obtain ⟨A3, n3, c3, rfl⟩ := hO3.shape; refine Shut.out ?_)
     unfold Shut
     have O3 : Hid (Owns w3 w.heap.size 9 1 (.slice A3 n3 c3) (stR (o ++ [key] ++ [x]))) := by rw [stR_append (o ++ [key])]; exact hO3
     have B3 : Hid (Below w.heap.size w w3) := B2.out.trans hb3
     clear hO3 hb3 hk3 hw3 hc2
     go_wp2_with fail
     go_roundw
     case rel => exact ⟨k + 1, by omega, by go_num, by rw [HE.out], HJn, by rw [HE.out]; exact O3.out, B3.out⟩
     case measure => simp [intOf]; omega
    ·have HE : Hid (nmS l key (k + 1) = ((nmS l key k).1 ++ [l.getD k default], (nmS l key k).2)) := by
      unfold Hid
      rw [HSe.out, nmF, if_neg hput]
     have hb : (nmS l key k).2 = true ∨ (nmS l key k).2 = false ∧ Op.bytesLess key.toList (l.getD k default).toList = false := by
      cases e : (nmS l key k).2 with
      | true => exact .inl rfl
      | false =>
       refine .inr ⟨rfl, ?_⟩
       cases e2 : Op.bytesLess key.toList (l.getD k default).toList with
       | false => rfl
       | true => exact absurd ⟨e, e2⟩ hput
     clear hput
     generalize (nmS l key k).1 = o at *
     generalize l.getD k default = x at *
     have fin : ∀ (b : Bool) (A3 : Option Addr) (n3 c3 : Nat) (w3 : World), True := fun _ _ _ _ _ => trivial
     clear fin
     rcases hb with hb | ⟨hb, hb2⟩
     ·rw [hb] at HE ⊢
      clear hb
      go_wp2_with (at_builtin; refine wpList_append_row rfl (.tmp 36) (.tmp 41) 24 9 (.string ⟨#[]⟩) 1 16 rfl Tryz.underlying24 infoStr rfl (by omega) w.heap.size _ (stR o) rfl HO.out [.string x] rfl (st_cell x) rfl L2.out (by omega) Z ?_; intro v3 w3 hO3 hb3 hk3 hw3; obtain ⟨A3, n3, c3, rfl⟩ := hO3.shape; refine Shut.out ?_)
      unfold Shut
      have O3 : Hid (Owns w3 w.heap.size 9 1 (.slice A3 n3 c3) (stR (o ++ [x]))) := by rw [stR_append]; exact hO3
      have B3 : Hid (Below w.heap.size w w3) := HBr.out.trans hb3
      clear hO3 hb3 hk3 hw3 e1
      go_wp2_with fail
      go_roundw
      case rel => exact ⟨k + 1, by omega, by go_num, by rw [HE.out], HJn, by rw [HE.out]; exact O3.out, B3.out⟩
      case measure => simp [intOf]; omega
     ·rw [hb] at HE ⊢
      clear hb
      go_wp2_with (at_builtin; refine wpList_append_row rfl (.tmp 36) (.tmp 41) 24 9 (.string ⟨#[]⟩) 1 16 rfl Tryz.underlying24 infoStr rfl (by omega) w.heap.size _ (stR o) rfl HO.out [.string x] rfl (st_cell x) rfl L2.out (by omega) Z ?_; intro v3 w3 hO3 hb3 hk3 hw3; obtain ⟨A3, n3, c3, rfl⟩ := hO3.shape; refine Shut.out ?_)
      unfold Shut
      have O3 : Hid (Owns w3 w.heap.size 9 1 (.slice A3 n3 c3) (stR (o ++ [x]))) := by rw [stR_append]; exact hO3
      have B3 : Hid (Below w.heap.size w w3) := HBr.out.trans hb3
      clear hO3 hb3 hk3 hw3 e1
      go_wp2_with fail
      go_roundw
      case rel => exact ⟨k + 1, by omega, by go_num, by rw [HE.out], HJn, by rw [HE.out]; exact O3.out, B3.out⟩
      case measure => simp [intOf]; omega
  ·obtain rfl : k = n := by omega
   have HF : Hid (nmFin key (nmS l key k) = insK l key) := by
    unfold Hid
    rw [← HN.out]
    refine nm_all fun x hx => ?_
    obtain ⟨j, hj, rfl⟩ := List.getElem_of_mem hx
    rw [getD_at l j hj]
    exact HJ.out j (by rw [← HN.out]; exact hj)
   have HLk : Hid ((nmS l key k).1.length ≤ 2 * k) := HSl.out k hk
   have Z : w.heap.size ≤ wr.heap.size := HBr.out.size
   have L2 : Hid ((stR (nmS l key k).1).length ≤ 2097152) := by have := HLk.out; unfold Hid; rw [stR_length]; omega
   unfold nmFin at HF
   cases hb : (nmS l key k).2 with
   | true =>
    rw [hb] at HF
    go_wp2_with fail
    go_ret
    refine ⟨⟨_, rfl, ?_⟩, HBr.out⟩
    have := HF.out
    simp only [if_true] at this
    rw [← this]
    exact HO.out.mono HB.out
   | false =>
    rw [hb] at HF
    generalize (nmS l key k).1 = o at *
    go_wp2_with (at_builtin; refine wpList_append_row rfl (.tmp 45) (.tmp 47) 24 9 (.string ⟨#[]⟩) 1 16 rfl Tryz.underlying24 infoStr rfl (by omega) w.heap.size _ (stR o) rfl HO.out [.string key] rfl (st_cell key) rfl L2.out (by omega) Z ?_; intro v3 w3 hO3 hb3 hk3 hw3; obtain ⟨A3, n3, c3, rfl⟩ := hO3.shape; refine Shut.out ?_)
    unfold Shut
    have O3 : Hid (Owns w3 w.heap.size 9 1 (.slice A3 n3 c3) (stR (o ++ [key]))) := by rw [stR_append]; exact hO3
    have B3 : Hid (Below w.heap.size w w3) := HBr.out.trans hb3
    clear hO3 hb3 hk3 hw3
    go_wp2_with fail
    go_ret
    refine ⟨⟨_, rfl, ?_⟩, B3.out⟩
    have := HF.out
    rw [if_neg (by simp)] at this
    rw [← this]
    exact O3.out.mono HB.out
end Go.Proofs.YthhamlahdjokkaaGreatDoor
