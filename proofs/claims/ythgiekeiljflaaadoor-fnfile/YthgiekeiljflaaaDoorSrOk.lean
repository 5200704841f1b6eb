/-
  Contracts of impl.isKey, spec.l9Key and impl.SeriesOk.
-/
import Derived.Test.YthgiekeiljflaaaDoorRows
import Derived.Test.YthgiekeiljflaaaDoorGA
import Derived.Test.YthgiekeiljflaaaDoorSrLaw
import Derived.Test.YthgiekeiljflaaaDoorGB
import Derived.Test.YthgiekeiljflaaaDoorPtOk
import Derived.WalkKit
import Derived.ProofKit
import Derived.OpenShut
import Derived.Below
import Derived.WalkSmall
import Derived.BigQuiet
import Derived.Deep.QuietTactic
import Derived.Deep.RegionWith
namespace Go.Proofs.YthgiekeiljflaaaDoor
open Go.ChangeShapes Go.WideShapes Go.ChangeAt Go.RowKit Go.PlainAid
set_option linter.unusedVariables false

set_option maxHeartbeats 1000000 in
theorem implIsKey (s : ByteArray) (w : World) (hs : s.size ≤ maxLen) : Calls Tryd.prog 47 #[.string s] w fun e w' => e = .returned (.bool (decide (KOk s))) ∧ w = w' := by
  have hbt := get_bn s
  have q0 : (s.size : Int) ≤ 9223372036854775807 := by unfold maxLen at hs; omega
  have HD : Hid (∀ b, (b = true ↔ KOk s) → decide (KOk s) = b) := fun b hb => dec_of b hb
  have HV : Hid (KOk s ↔ 1 ≤ s.size ∧ s.size ≤ 8 ∧ ∀ j, j < s.size → 97 ≤ bn s j ∧ bn s j ≤ 122) := Iff.rfl
  clear hs
  by_cases h0 : s.size = 0
  · obtain rfl : s = ⟨#[]⟩ := by
      have e : s.data.toList = [] := List.eq_nil_of_length_eq_zero (by rw [Array.length_toList]; exact h0)
      rw [← txt_toList s, e]
      rfl
    clear HV hbt q0 h0
    have he : decide (KOk ⟨#[]⟩) = false := HD.out false ⟨fun h => (by cases h), fun h => absurd h.1 (by simp [ByteArray.size])⟩
    rw [he]
    go_enter Tryd.func47, Tryd.ntmps47
    go_wp2
    go_ret
    exact ⟨rfl, rfl⟩
  have hne : s.toList.isEmpty = false := by
    rw [Lib.toList_data]
    cases e : s.data.toList with
    | nil => exact absurd (by rw [ByteArray.size, ← Array.length_toList, e]; rfl) h0
    | cons a l => rfl
  have H1 : Hid (1 ≤ s.size) := by unfold Hid; omega
  by_cases h2 : (8 : Int) < (s.size : Int)
  · go_enter Tryd.func47, Tryd.ntmps47
    go_wp2
    go_ret
    refine ⟨?_, rfl⟩
    rw [HD.out false]
    · rfl
    rw [HV.out]
    exact ⟨fun h => (by cases h), fun h => by omega⟩
  have q1 : (s.size : Int) ≤ 8 := by omega
  have q2 : decide ((8 : Int) < (s.size : Int)) = false := decide_eq_false h2
  clear h2 h0
  go_enter Tryd.func47, Tryd.ntmps47
  go_wp2_with fail
  go_loop [13] (fun v => ∃ k : Nat, k ≤ s.size ∧ v = .int .i64 (k : Int) ∧ Hid (∀ j, j < k → 97 ≤ bn s j ∧ bn s j ≤ 122)) (fun i => s.size - (intOf i).toNat)
  case atStart => exact ⟨0, by omega, rfl, fun j hj => by omega⟩
  case round =>
    obtain ⟨k, hk, rfl, HJ⟩ := hrel
    by_cases hlt : k < s.size
    · have q4 : (k : Int) < (s.size : Int) := by omega
      have r2 := bn_lt s k
      have HNo : Hid ((bn s k < 97 ∨ 122 < bn s k) → decide (KOk s) = false) := fun h => by
        apply HD.out
        rw [HV.out]
        refine ⟨fun h => (by cases h), fun h2 => ?_⟩
        have := h2.2.2 k hlt
        omega
      by_cases c2 : (bn s k : Int) < 97
      · go_wp2_with fail
        go_ret
        exact ⟨by rw [HNo.out (.inl (by omega))]; rfl, rfl⟩
      have d2 : decide ((bn s k : Int) < 97) = false := decide_eq_false c2
      by_cases c3 : (122 : Int) < (bn s k : Int)
      · go_wp2_with fail
        go_ret
        exact ⟨by rw [HNo.out (.inr (by omega))]; rfl, rfl⟩
      have d3 : decide ((122 : Int) < (bn s k : Int)) = false := decide_eq_false c3
      go_wp2_with fail
      go_round
      case rel =>
        refine ⟨k + 1, by omega, by go_num, fun j hj => ?_⟩
        by_cases e : j = k
        · rw [e]
          omega
        · exact HJ.out j (by omega)
      case measure => simp [intOf]; omega
    · obtain rfl : k = s.size := by omega
      go_wp2_with fail
      go_ret
      refine ⟨?_, rfl⟩
      rw [HD.out true]
      · rfl
      rw [HV.out]
      exact ⟨fun _ => ⟨H1.out, by omega, HJ.out⟩, fun _ => rfl⟩

set_option maxHeartbeats 1000000 in
theorem specKey (s : ByteArray) (w : World) (hs : s.size ≤ maxLen) : Calls Tryd.prog 33 #[.string s] w fun e w' => e = .returned (.bool (decide (KOk s))) ∧ w = w' := by
  have hbt := get_bn s
  have q0 : (s.size : Int) ≤ 9223372036854775807 := by unfold maxLen at hs; omega
  have HD : Hid (∀ b, (b = true ↔ KOk s) → decide (KOk s) = b) := fun b hb => dec_of b hb
  have HV : Hid (KOk s ↔ 1 ≤ s.size ∧ s.size ≤ 8 ∧ ∀ j, j < s.size → 97 ≤ bn s j ∧ bn s j ≤ 122) := Iff.rfl
  clear hs
  by_cases h2 : (s.size : Int) < 1 ∨ (8 : Int) < (s.size : Int)
  · have c1 := fun wx => in_no (s.size : Int) 1 8 wx h2
    have H2 : Hid ((s.size : Int) < 1 ∨ (8 : Int) < (s.size : Int)) := h2
    clear h2
    go_enter Tryd.func33, Tryd.ntmps33
    go_wp2_with fail
    refine (c1 _).mono ?_
    rintro e w' ⟨rfl, rfl⟩
    go_wp2_with fail
    go_ret
    refine ⟨?_, rfl⟩
    rw [HD.out false]
    · rfl
    rw [HV.out]
    have := H2.out
    exact ⟨fun h => (by cases h), fun h => by omega⟩
  have c1 := fun wx => in_yes (s.size : Int) 1 8 wx (by omega) (by omega)
  have q1 : (s.size : Int) ≤ 8 := by omega
  have H1 : Hid (1 ≤ s.size) := by unfold Hid; omega
  clear h2
  go_enter Tryd.func33, Tryd.ntmps33
  go_wp2_with fail
  refine (c1 _).mono ?_
  rintro e w' ⟨rfl, rfl⟩
  go_wp2_with fail
  go_loop [3] (fun v => ∃ k : Nat, k ≤ s.size ∧ v = .int .i64 (k : Int) ∧ Hid (∀ j, j < k → 97 ≤ bn s j ∧ bn s j ≤ 122)) (fun i => s.size - (intOf i).toNat)
  case atStart => exact ⟨0, by omega, rfl, fun j hj => by omega⟩
  case round =>
    obtain ⟨k, hk, rfl, HJ⟩ := hrel
    by_cases hlt : k < s.size
    · have q4 : (k : Int) < (s.size : Int) := by omega
      have r2 := bn_lt s k
      have HNo : Hid ((bn s k < 97 ∨ 122 < bn s k) → decide (KOk s) = false) := fun h => by
        apply HD.out
        rw [HV.out]
        refine ⟨fun h => (by cases h), fun h2 => ?_⟩
        have := h2.2.2 k hlt
        omega
      by_cases c2 : (bn s k : Int) < 97
      · go_wp2_with fail
        go_ret
        exact ⟨by rw [HNo.out (.inl (by omega))]; rfl, rfl⟩
      have d2 : decide ((bn s k : Int) < 97) = false := decide_eq_false c2
      by_cases c3 : (122 : Int) < (bn s k : Int)
      · go_wp2_with fail
        go_ret
        exact ⟨by rw [HNo.out (.inr (by omega))]; rfl, rfl⟩
      have d3 : decide ((122 : Int) < (bn s k : Int)) = false := decide_eq_false c3
      go_wp2_with fail
      go_round
      case rel =>
        refine ⟨k + 1, by omega, by go_num, fun j hj => ?_⟩
        by_cases e : j = k
        · rw [e]
          omega
        · exact HJ.out j (by omega)
      case measure => simp [intOf]; omega
    · obtain rfl : k = s.size := by omega
      go_wp2_with fail
      go_ret
      refine ⟨?_, rfl⟩
      rw [HD.out true]
      · rfl
      rw [HV.out]
      exact ⟨fun _ => ⟨H1.out, by omega, HJ.out⟩, fun _ => rfl⟩

set_option maxHeartbeats 4000000 in
theorem implSeriesOk (l : List Ser) (v : Value) (w : World) (B : Nat) (hv : SerV w B v l) (hn : SShort l) (hf : ∀ x ∈ l, x.key.size ≤ maxLen) (hB : B ≤ w.heap.size) : Calls Tryd.prog 22 #[v] w fun e w' => e = .returned (.bool (decide (SOk l))) ∧ Below w.heap.size w w' := by
  obtain ⟨A, cap, rfl, hl⟩ := hv.look
  have HL : Hid (∀ j, j < l.length → ∃ g off u, A = some ⟨g, off, none⟩ ∧ g < B ∧ w.cell? ⟨g, off + j * 2, none⟩ = some (.string (sAt l j).key) ∧ w.cell? ⟨g, off + j * 2 + 1, none⟩ = some u ∧ Lies w B 2 u (ptR (sAt l j).pts)) := hl
  have HB : Hid (B ≤ w.heap.size) := hB
  have HF : Hid (∀ j, j < l.length → (sAt l j).key.size ≤ maxLen ∧ (sAt l j).pts.length ≤ 1048576) := fun j hj => ⟨hf _ (getD_mem l j hj), hn.2 _ (getD_mem l j hj)⟩
  have HD : Hid (∀ b, (b = true ↔ SOk l) → decide (SOk l) = b) := fun b hb => dec_of b hb
  have HV : Hid (SOk l ↔ l.length ≤ 5 ∧ ∀ j, j < l.length → (KOk (sAt l j).key ∧ (0 < j → ahd (sAt l (j - 1)).key (sAt l j).key = true)) ∧ 1 ≤ (sAt l j).pts.length ∧ POk (sAt l j).pts) := Iff.rfl
  have q0 : (l.length : Int) ≤ 1048576 := by have := hn.1; omega
  clear hl hn hv hB hf
  generalize hN : l.length = n at *
  clear hN
  by_cases h2 : (5 : Int) < (n : Int)
  · go_enter Tryd.func22, Tryd.ntmps22
    go_wp2
    go_ret
    refine ⟨?_, Below.refl _ _⟩
    rw [HD.out false]
    · rfl
    rw [HV.out]
    exact ⟨fun h => (by cases h), fun h => by omega⟩
  have q1 : (n : Int) ≤ 5 := by omega
  clear h2
  go_enter Tryd.func22, Tryd.ntmps22
  go_wp2_with fail
  go_loopw [3, 11] (fun v3 v11 wr => ∃ (k : Nat) (m : ByteArray), k ≤ n ∧ v11 = .int .i64 (k : Int) ∧ v3 = .string m ∧ Hid ((k = 0 → m = ⟨#[]⟩) ∧ (0 < k → m = (sAt l (k - 1)).key)) ∧ Below w.heap.size w wr ∧ Hid (∀ j, j < k → (KOk (sAt l j).key ∧ (0 < j → ahd (sAt l (j - 1)).key (sAt l j).key = true)) ∧ 1 ≤ (sAt l j).pts.length ∧ POk (sAt l j).pts)) (fun _ i _ => n - (intOf i).toNat)
  case atStart => exact ⟨0, ⟨#[]⟩, by omega, rfl, rfl, ⟨fun _ => rfl, fun h => by omega⟩, Below.refl _ _, fun j hj => by omega⟩
  case round =>
    obtain ⟨k, m, hk, rfl, rfl, HM, hb, HJ⟩ := hrel
    have HB1 : Hid (Below w.heap.size w wr) := hb
    clear hb
    by_cases hlt : k < n
    · have q2 : (k : Int) < (n : Int) := by omega
      obtain ⟨g, off, u, rfl, hg, e1, e2, hu⟩ := HL.out k hlt
      have hgw : g < w.heap.size := Nat.lt_of_lt_of_le hg HB.out
      rw [← HB1.out.cell (p := ⟨_, _, none⟩) hgw] at e1
      rw [← HB1.out.cell (p := ⟨_, _, none⟩) hgw] at e2
      have hfk := HF.out k hlt
      have HK : Hid ((sAt l k).key.size ≤ maxLen) := hfk.1
      have HPn : Hid ((sAt l k).pts.length ≤ 1048576) := hfk.2
      obtain ⟨A', cap', rfl, _⟩ := pt_look hu
      have HU : Hid (Lies wr B 2 (.slice A' (sAt l k).pts.length cap') (ptR (sAt l k).pts)) := hu.on (HB1.out.mono HB.out)
      clear hu hfk
      have HX : Hid ((ahd m (sAt l k).key = true ↔ (0 < k → ahd (sAt l (k - 1)).key (sAt l k).key = true)) ∨ ¬ KOk (sAt l k).key) := by
        by_cases hkk : KOk (sAt l k).key
        · left
          by_cases h0 : k = 0
          · rw [HM.out.1 h0]
            exact ⟨fun _ h => by omega, fun _ => ahd_empty _ hkk.1⟩
          · rw [HM.out.2 (by omega)]
            exact ⟨fun h _ => h, fun h => h (by omega)⟩
        · exact .inr hkk
      have HNo : Hid ((¬ KOk (sAt l k).key ∨ ahd m (sAt l k).key = false ∨ (sAt l k).pts.length = 0 ∨ ¬ POk (sAt l k).pts) → decide (SOk l) = false) := fun h => by
        apply HD.out
        rw [HV.out]
        refine ⟨fun h => (by cases h), fun h2 => ?_⟩
        have h3 := h2.2 k hlt
        rcases h with h | h | h | h
        · exact absurd h3.1.1 h
        · rcases HX.out with hx | hx
          · have := hx.2 h3.1.2
            rw [h] at this
            cases this
          · exact absurd h3.1.1 hx
        · omega
        · exact absurd h3.2.2 h
      have HYes : Hid ((KOk (sAt l k).key ∧ ahd m (sAt l k).key = true ∧ 1 ≤ (sAt l k).pts.length ∧ POk (sAt l k).pts) → (KOk (sAt l k).key ∧ (0 < k → ahd (sAt l (k - 1)).key (sAt l k).key = true)) ∧ 1 ≤ (sAt l k).pts.length ∧ POk (sAt l k).pts) := fun h => by
        rcases HX.out with hx | hx
        · exact ⟨⟨h.1, hx.1 h.2.1⟩, h.2.2⟩
        · exact absurd h.1 hx
      have HM2 : Hid (∀ x, x = sAt l k → ((k + 1 = 0 → x.key = ⟨#[]⟩) ∧ (0 < k + 1 → x.key = (sAt l (k + 1 - 1)).key))) := fun x hx => ⟨fun h => by omega, fun _ => by rw [Nat.add_sub_cancel, hx]⟩
      have HJ2 : Hid ((KOk (sAt l k).key ∧ (0 < k → ahd (sAt l (k - 1)).key (sAt l k).key = true)) ∧ 1 ≤ (sAt l k).pts.length ∧ POk (sAt l k).pts → ∀ j, j < k + 1 → (KOk (sAt l j).key ∧ (0 < j → ahd (sAt l (j - 1)).key (sAt l j).key = true)) ∧ 1 ≤ (sAt l j).pts.length ∧ POk (sAt l j).pts) := fun h j hj => by
        by_cases e : j = k
        · rw [e]; exact h
        · exact HJ.out j (by omega)
      clear HX
      generalize hx : sAt l k = x at *
      have HXx : Hid (x = sAt l k) := hx.symm
      clear hx hgw hg
      obtain ⟨xk, xp⟩ := x
      simp only at e1 e2 HK HPn HU HNo HYes HJ2
      have c1 := fun wx => implIsKey xk wx HK.out
      have HWa : Hid (∀ cs, Below w.heap.size w (wr.alloc (.cells cs 36))) := fun cs => HB1.out.alloc HB1.out.size _
      have HWu : Hid (∀ cs, Below wr.heap.size wr (wr.alloc (.cells cs 36))) := fun cs => (Below.refl _ wr).alloc (Nat.le_refl _) _
      by_cases k1 : ¬ KOk xk
      · rw [decide_eq_false k1] at c1
        have K1 : Hid (¬ KOk xk) := k1
        clear k1
        go_wp2_with fail
        refine (c1 _).mono ?_
        rintro e w' ⟨rfl, rfl⟩
        go_wp2_with fail
        go_ret
        exact ⟨by rw [HNo.out (.inl K1.out)]; rfl, HWa.out _⟩
      have K1 : Hid (KOk xk) := (Decidable.not_not (p := KOk xk)).1 k1
      rw [decide_eq_true K1.out] at c1
      clear k1
      cases k2 : ahd m xk with
      | false =>
        have KN : Hid (decide (SOk l) = false) := HNo.out (.inr (.inl k2))
        rcases ahd_no k2 with hle | rfl
        · clear k2
          go_wp2_with fail
          refine (c1 _).mono ?_
          rintro e w' ⟨rfl, rfl⟩
          go_wp2_with fail
          go_ret
          exact ⟨by rw [KN.out]; rfl, HWa.out _⟩
        · have hle := less_irrefl xk.toList
          clear k2
          go_wp2_with fail
          refine (c1 _).mono ?_
          rintro e w' ⟨rfl, rfl⟩
          go_wp2_with fail
          go_ret
          exact ⟨by rw [KN.out]; rfl, HWa.out _⟩
      | true =>
      obtain ⟨hle, hle2⟩ := ahd_yes k2
      have K2 : Hid (ahd m xk = true) := k2
      clear k2
      by_cases k3 : xp.length = 0
      · have K3 : Hid (xp.length = 0) := k3
        rw [k3] at HU e2
        clear k3
        go_wp2_with fail
        refine (c1 _).mono ?_
        rintro e w' ⟨rfl, rfl⟩
        go_wp2_with fail
        go_ret
        exact ⟨by rw [HNo.out (.inr (.inr (.inl K3.out)))]; rfl, HWa.out _⟩
      have K3 : Hid (1 ≤ xp.length) := by unfold Hid; omega
      have d3 : decide ((xp.length : Int) = 0) = false := decide_eq_false (by omega)
      have d4 : ((xp.length : Int) == 0) = false := by rw [beq_eq_false_iff_ne]; omega
      have c2 := fun (cs : Array Value) => implPointsOk xp (.slice A' xp.length cap') (wr.alloc (.cells cs 36)) B (HU.out.on ((HWu.out cs).mono (Nat.le_trans HB.out HB1.out.size))) HPn.out (Nat.le_trans HB.out (HWa.out cs).size)
      clear k3
      generalize hpn : xp.length = pn at *
      by_cases k4 : ¬ POk xp
      · rw [decide_eq_false k4] at c2
        have K4 : Hid (¬ POk xp) := k4
        clear k4
        go_wp2_with fail
        refine (c1 _).mono ?_
        rintro e w' ⟨rfl, rfl⟩
        go_wp2_with fail
        refine (c2 _).mono ?_
        rintro e w' ⟨rfl, hb2⟩
        have B2 : Hid (Below w.heap.size w w') := (HWa.out _).trans (hb2.mono (HWa.out _).size)
        clear hb2
        go_wp2_with fail
        go_ret
        exact ⟨by rw [HNo.out (.inr (.inr (.inr K4.out)))]; rfl, B2.out⟩
      have K4 : Hid (POk xp) := (Decidable.not_not (p := POk xp)).1 k4
      rw [decide_eq_true K4.out] at c2
      clear k4
      go_wp2_with fail
      refine (c1 _).mono ?_
      rintro e w' ⟨rfl, rfl⟩
      go_wp2_with fail
      refine (c2 _).mono ?_
      rintro e w' ⟨rfl, hb2⟩
      have B2 : Hid (Below w.heap.size w w') := (HWa.out _).trans (hb2.mono (HWa.out _).size)
      have m0 := (Blk.new wr #[.string xk, .slice A' pn cap'] 36).on hb2 (by rw [World.size_alloc]; omega)
      have m1 := m0.cell 0 _ rfl
      clear hb2 m0
      go_wp2_with fail
      go_roundw
      case rel => exact ⟨k + 1, xk, by omega, by go_num, rfl, HM2.out ⟨xk, xp⟩ rfl, B2.out, HJ2.out (HYes.out ⟨K1.out, K2.out, K3.out, K4.out⟩)⟩
      case measure => simp [intOf]; omega
    · obtain rfl : k = n := by omega
      go_wp2_with fail
      go_ret
      refine ⟨?_, HB1.out⟩
      rw [HD.out true]
      · rfl
      rw [HV.out]
      exact ⟨fun _ => ⟨by omega, HJ.out⟩, fun _ => rfl⟩
end Go.Proofs.YthgiekeiljflaaaDoor
