/-
  Contract of the laws' own markSeriesS at series of whatever weight the laws let pass; what lies behind a bound is kept. · Contracts of the laws' own helpers over slices of texts: eqStringS where both hold the same, markStringS, heldStringS where the marks are held (no condition but that the slices are the call's own, and short).
-/
import Derived.Test.YtpmgndgkmffcnaaGreatDoorQb42
import Derived.WalkKit
import Derived.ProofKit
import Derived.OpenShut
import Derived.Below
import Derived.WalkSmall
import Derived.BigQuiet
import Derived.Deep.QuietTactic
import Derived.Deep.RegionWith
import Derived.Handy
import Derived.Test.YtpmgndgkmffcnaaGreatDoorQb6
namespace Go.Proofs.YtpmgndgkmffcnaaGreatDoor
open Go.ChangeShapes Go.WideShapes Go.ChangeAt Go.RowKit Go.PlainAid
set_option linter.unusedVariables false

theorem kAt_ge (k : Nat) (L : List (Ser × Value)) : ∀ j, k ≤ kAt k L j
  | 0 => Nat.le_refl _
  | j + 1 => by have := kAt_ge k L j; rw [kAt]; omega
theorem kAt_mono (k : Nat) (L : List (Ser × Value)) {i j : Nat} (h : i ≤ j) : kAt k L i ≤ kAt k L j := by
  induction j with
  | zero => rw [Nat.le_zero.1 h]; exact Nat.le_refl _
  | succ j ih =>
    rcases Nat.eq_or_lt_of_le h with e | e
    · rw [e]; exact Nat.le_refl _
    · have := ih (by omega)
      rw [kAt]
      omega
/-- What the marks come to is bounded by what the series weigh. -/
theorem kAt_weight (k : Nat) (L : List (Ser × Value)) : ∀ j, j ≤ L.length → kAt k L j + 0 ≤ k + 2 * (j + wtS ((L.map Prod.fst).take j))
  | 0, _ => by simp [kAt]
  | j + 1, hj => by
    have ih := kAt_weight k L j (by omega)
    have hm : (L.map Prod.fst).getD j default = (L.getD j default).1 := by rw [← getD_at _ j (by rw [List.length_map]; omega), ← getD_at L j (by omega), List.getElem_map]
    rw [kAt, wtS_snoc _ j (by rw [List.length_map]; omega), hm]
    unfold wtS1
    omega
set_option maxHeartbeats 4000000 in
theorem markSeriesG (k base : Nat) (v : Value) (L : List (Ser × Value)) (w : World) (hv : SerO w base v L) (hl : L.length ≤ 1048576) (hp : kAt k L L.length ≤ 4000000) (h1 : 1 ≤ k) (hbs : base ≤ w.heap.size) :
    Calls Tryz.prog 23 #[v, .int .i64 (k : Int)] w fun e w' => e = .returned (.int .i64 (kAt k L L.length : Int)) ∧ SMk w' base k v L ∧ Below base w w' ∧ (∀ b, b < w.heap.size → v.ownBlock ≠ some b → (∀ j, j < L.length → (L.getD j default).2.ownBlock ≠ some b) → w'.heap[b]? = w.heap[b]?) := by
  obtain ⟨A, ca, e0, _⟩ := sr_look hv.lies.1
  have HV : Hid (SerO w base v L) := hv
  subst e0
  have HK : Hid (∀ j, j ≤ L.length → k ≤ kAt k L j ∧ kAt k L j ≤ 4000000) := fun j hj => ⟨kAt_ge k L j, Nat.le_trans (kAt_mono k L hj) hp⟩
  have q1 : (L.length : Int) ≤ 1048576 := by omega
  have HAp : Hid (∀ i j, i < L.length → j < L.length → i ≠ j → Apart (L.getD i default).2 (L.getD j default).2) := fun i j hi hj hne => apart_get hv.2.2 i j hi hj hne
  have HRl : Hid ((srR L).length = L.length) := srR_length L
  have HRg : Hid (∀ j (hj : j < (srR L).length), (srR L)[j] = [.string (L.getD j default).1.key, (L.getD j default).2]) := fun j hj => srR_get L j hj
  have P0 : Hid (∀ j, j < L.length → Owns w base 56 2 (L.getD j default).2 (ptR (L.getD j default).1.pts)) := fun j hj => hv.2.1 _ (getD_mem L j hj)
  have HBS : Hid (base ≤ w.heap.size) := hbs
  have HK1 : Hid (1 ≤ k) := h1
  clear hv hp hl hbs h1
  generalize hn : L.length = n at *
  have HN : Hid (L.length = n) := hn
  clear hn
  go_enter Tryz.func23, Tryz.ntmps23
  go_wp2_with fail
  go_loopw [1, 5] (fun v1 v5 wr => ∃ j : Nat, j ≤ n ∧ v5 = .int .i64 (j : Int) ∧ v1 = .int .i64 (kAt k L j : Int) ∧ Owns wr base 58 2 (.slice A n ca) (partR (smR k L) (srR L) j) ∧ (∀ i, i < j → Owns wr base 56 2 (L.getD i default).2 (newR (mkPt (kAt k L i + 1)) (L.getD i default).1.pts.length)) ∧ (∀ i, j ≤ i → i < n → Owns wr base 56 2 (L.getD i default).2 (ptR (L.getD i default).1.pts)) ∧ Below base w wr ∧ (∀ b, b < w.heap.size → (Value.slice A n ca).ownBlock ≠ some b → (∀ j, j < n → (L.getD j default).2.ownBlock ≠ some b) → wr.heap[b]? = w.heap[b]?)) (fun _ i _ => n - (intOf i).toNat)
  case atStart => exact ⟨0, by omega, rfl, rfl, by rw [partR_zero]; exact HV.out.1, fun i hi => by omega, fun i _ hi => P0.out i hi, Below.refl _ _, fun _ _ _ _ => rfl⟩
  case round =>
    obtain ⟨j, hj, rfl, rfl, hS, hM, hR, hB, hE⟩ := hrel
    have HE : Hid (∀ b, b < w.heap.size → (Value.slice A n ca).ownBlock ≠ some b → (∀ j, j < n → (L.getD j default).2.ownBlock ≠ some b) → wr.heap[b]? = w.heap[b]?) := hE
    have HS : Hid (Owns wr base 58 2 (.slice A n ca) (partR (smR k L) (srR L) j)) := hS
    have HM : Hid (∀ i, i < j → Owns wr base 56 2 (L.getD i default).2 (newR (mkPt (kAt k L i + 1)) (L.getD i default).1.pts.length)) := hM
    have HR : Hid (∀ i, j ≤ i → i < n → Owns wr base 56 2 (L.getD i default).2 (ptR (L.getD i default).1.pts)) := hR
    have HB : Hid (Below base w wr) := hB
    clear hS hM hR hB hE
    by_cases hlt : j < n
    · have q2 : (j : Int) < (n : Int) := by omega
      obtain ⟨g, rfl, hgb⟩ : ∃ g, A = some ⟨g, 0, none⟩ ∧ base ≤ g := by
        rcases HS.out.2.2 with ⟨e, h0⟩ | ⟨g, c, cur, e, hg, _⟩
        · rw [partR_length _ _ _ (by rw [HRl.out]; omega), HRl.out] at h0; omega
        · cases e; exact ⟨g, rfl, hg⟩
      have HG : Hid (base ≤ g) := hgb
      clear hgb
      have hkj := HK.out j (by omega)
      have HKs : Hid (kAt k L (j + 1) = kAt k L j + 1 + 2 * (L.getD j default).1.pts.length) := by unfold Hid; rw [kAt]
      have cm := markText (kAt k L j) wr (by have := HK1.out; omega) (by omega)
      have hpj := HK.out (j + 1) (by omega)
      rw [kAt] at hpj
      have HSm : Hid (smR k L j = [.string (mark (kAt k L j)), (L.getD j default).2]) := rfl
      have HPj : Hid (kAt k L j ≤ 4000000 ∧ (L.getD j default).1.pts.length ≤ 2000000) := ⟨by omega, by omega⟩
      obtain ⟨Aj, nj, cj, euj⟩ := (HR.out j (Nat.le_refl _) hlt).shape
      have HEu : Hid ((L.getD j default).2 = .slice Aj nj cj) := euj
      clear euj hpj hkj
      generalize hkk : kAt k L j = kk at *
      have HKK : Hid (kAt k L j = kk) := hkk
      clear hkk
      go_wp2_with fail
      refine cm.mono ?_
      rintro e Y1 ⟨rfl, hb1⟩
      have hS1 := HS.out.on hb1
      have hpl : (partR (smR k L) (srR L) j).length = n := by rw [partR_length _ _ _ (by rw [HRl.out]; omega), HRl.out]
      have hjr : j < (partR (smR k L) (srR L) j).length := by rw [hpl]; exact hlt
      have hrow : (partR (smR k L) (srR L) j)[j]'hjr = [.string (L.getD j default).1.key, (L.getD j default).2] := by
        rw [partR_at _ _ _ (by rw [HRl.out]; exact hlt)]
        exact HRg.out j _
      have hS2 := hS1
      rw [← set_self j hjr, hrow] at hS2
      have hS3 := hS2.pokeAt (R := partR (smR k L) (srR L) j) hpl hlt 0 (by omega) (.string (mark kk))
      rw [Nat.add_zero, show List.set [.string (L.getD j default).1.key, (L.getD j default).2] 0 (.string (mark kk)) = smR k L j by rw [HSm.out]; rfl, partR_set _ _ _ (by rw [HRl.out]; exact hlt)] at hS3
      have hO1 := hS1
      rw [show (Value.slice (some ⟨g, 0, none⟩) n ca) = .slice (some ⟨g, 0, none⟩) (partR (smR k L) (srR L) j).length ca by rw [hpl]] at hO1
      obtain ⟨y0, d0⟩ := hO1.cellX j 0 hjr (by omega)
      have f0 := hO1.free (j * 2)
      rw [Nat.add_zero] at d0
      have HS3 : Hid (Owns (Y1.setCell ⟨g, j * 2, none⟩ (.string (mark kk))) base 58 2 (.slice (some ⟨g, 0, none⟩) n ca) (partR (smR k L) (srR L) (j + 1))) := hS3
      have hgp : ∀ i, (i < j ∨ j ≤ i ∧ i < n) → (L.getD i default).2.ownBlock ≠ some g := fun i hi e => by
        rcases hi with hi | hi
        · exact ((HM.out i hi).on hb1).apartT hS1 (by decide) g e rfl
        · exact ((HR.out i hi.1 hi.2).on hb1).apartT hS1 (by decide) g e rfl
      have M3 : Hid (∀ i, i < j → Owns (Y1.setCell ⟨g, j * 2, none⟩ (.string (mark kk))) base 56 2 (L.getD i default).2 (newR (mkPt (kAt k L i + 1)) (L.getD i default).1.pts.length)) := fun i hi => ((HM.out i hi).on hb1).other (hgp i (.inl hi)) _ _
      have R3 : Hid (∀ i, j ≤ i → i < n → Owns (Y1.setCell ⟨g, j * 2, none⟩ (.string (mark kk))) base 56 2 (L.getD i default).2 (ptR (L.getD i default).1.pts)) := fun i h1 h2 => ((HR.out i h1 h2).on hb1).other (hgp i (.inr ⟨h1, h2⟩)) _ _
      have B3 : Hid (Below base w (Y1.setCell ⟨g, j * 2, none⟩ (.string (mark kk)))) := (HB.out.trans (hb1.mono (Nat.le_trans HBS.out HB.out.size))).setCell (show base ≤ g from HG.out) _
      have E3 : Hid (∀ b, b < w.heap.size → (Value.slice (some ⟨g, 0, none⟩) n ca).ownBlock ≠ some b → (∀ j, j < n → (L.getD j default).2.ownBlock ≠ some b) → (Y1.setCell ⟨g, j * 2, none⟩ (.string (mark kk))).heap[b]? = w.heap[b]?) := fun b h1 h2 h3 => by
        rw [Below.heap_setCell _ _ _ _ (show b ≠ g from fun e => h2 (by rw [e]; rfl)), hb1.block b (Nat.lt_of_lt_of_le h1 HB.out.size)]
        exact HE.out b h1 h2 h3
      have hl3 := HS3.out.lies.look
      obtain ⟨A3, c3, e3, hl3⟩ := hl3
      rw [partR_length _ _ _ (by rw [HRl.out]; omega), HRl.out] at e3
      cases e3
      obtain ⟨g3, o3, e3, _, hc3⟩ := hl3 j (by rw [partR_length _ _ _ (by rw [HRl.out]; omega), HRl.out]; exact hlt)
      cases e3
      have hrow3 : (partR (smR k L) (srR L) (j + 1))[j]'(by rw [partR_length _ _ _ (by rw [HRl.out]; omega), HRl.out]; exact hlt) = [.string (mark kk), .slice Aj nj cj] := by
        rw [partR_was, HSm.out, HEu.out]
      have m1 := hc3 1 (.slice Aj nj cj) (by omega) (by rw [hrow3]; rfl)
      rw [Nat.zero_add] at m1
      generalize hW3 : Y1.setCell ⟨g, j * 2, none⟩ (.string (mark kk)) = W3 at *
      have cp := markPointS (kk + 1) base (.slice Aj nj cj) (ptR (L.getD j default).1.pts) W3 (by have := R3.out j (Nat.le_refl _) hlt; rw [HEu.out] at this; exact this) (by rw [ptR_length]; have := HPj.out; omega) (by have := HPj.out; omega)
      rw [ptR_length] at cp
      generalize hplj : (L.getD j default).1.pts.length = pl at cp HKs HPj
      have HPL : Hid ((L.getD j default).1.pts.length = pl) := hplj
      clear hplj
      have q5 : (kk : Int) ≤ 4000000 := by have := HPj.out; omega
      have hcast : (((kk + 1 : Nat)) : Int) = (kk : Int) + 1 := by omega
      rw [hcast] at cp
      clear hS1 hS2 hS3 hO1 hpl hjr hrow hgp hl3 hrow3 hc3 hb1 cm
      go_wp2_with fail
      refine cp.mono ?_
      rintro e Y4 ⟨rfl, hO4, hb4, hk4⟩
      have S4 : Hid (Owns Y4 base 58 2 (.slice (some ⟨g, 0, none⟩) n ca) (partR (smR k L) (srR L) (j + 1))) := HS3.out.kept fun gg _ hv => hk4 gg (fun hu => (by have := R3.out j (Nat.le_refl _) hlt; rw [HEu.out] at this; exact this : Owns W3 base 56 2 (.slice Aj nj cj) (ptR (L.getD j default).1.pts)).apartT HS3.out (by decide) gg hu hv)
      have M4 : Hid (∀ i, i < j + 1 → Owns Y4 base 56 2 (L.getD i default).2 (newR (mkPt (kAt k L i + 1)) (L.getD i default).1.pts.length)) := fun i hi => by
        by_cases e : i = j
        · rw [e, HKK.out, HEu.out, HPL.out]; exact hO4
        · refine (M3.out i (by omega)).kept fun gg _ hv => hk4 gg (fun hu => ?_)
          have := HAp.out i j (by omega) hlt e
          rw [HEu.out] at this
          exact this gg hv hu
      have R4 : Hid (∀ i, j + 1 ≤ i → i < n → Owns Y4 base 56 2 (L.getD i default).2 (ptR (L.getD i default).1.pts)) := fun i h1 h2 => by
        refine (R3.out i (by omega) h2).kept fun gg _ hv => hk4 gg (fun hu => ?_)
        have := HAp.out i j h2 hlt (by omega)
        rw [HEu.out] at this
        exact this gg hv hu
      have B4 : Hid (Below base w Y4) := B3.out.trans hb4
      have E4 : Hid (∀ b, b < w.heap.size → (Value.slice (some ⟨g, 0, none⟩) n ca).ownBlock ≠ some b → (∀ j, j < n → (L.getD j default).2.ownBlock ≠ some b) → Y4.heap[b]? = w.heap[b]?) := fun b h1 h2 h3 => by
        rw [hk4 b (by have := h3 j hlt; rw [HEu.out] at this; exact this)]
        exact E3.out b h1 h2 h3
      have HKc : Hid ((((kk + 1 + 2 * pl : Nat)) : Int) = (kAt k L (j + 1) : Int)) := by unfold Hid; rw [HKs.out]
      generalize kk + 1 + 2 * pl = k2 at *
      clear hO4 hb4 hk4 cp
      go_wp2_with fail
      go_roundw
      case rel => exact ⟨j + 1, by omega, by go_num, by rw [← HKc.out], S4.out, M4.out, R4.out, B4.out, E4.out⟩
      case measure => simp [intOf]; omega
    · obtain rfl : j = n := by omega
      go_wp2_with fail
      go_ret
      refine ⟨rfl, ⟨?_, fun i hi => HM.out i (by rw [← HN.out]; exact hi)⟩, HB.out, HE.out⟩
      have := HS.out
      rw [show j = (srR L).length by rw [HRl.out], partR_all, HRl.out] at this
      rw [HN.out]
      exact this
end Go.Proofs.YtpmgndgkmffcnaaGreatDoor

namespace Go.Proofs.YtpmgndgkmffcnaaGreatDoor
open Go.ChangeShapes Go.WideShapes Go.ChangeAt Go.RowKit Go.PlainAid
set_option linter.unusedVariables false

theorem Strs.heap {w w' : World} {base : Nat} {v : Value} {l : List ByteArray} (h : Strs w base v l) (hh : w'.heap = w.heap) : Strs w' base v l := h.kept fun g _ _ => by rw [hh]
set_option maxHeartbeats 1000000 in
theorem eq_same (a b : Nat) (va vb : Value) (l : List ByteArray) (w : World) (ha : Strs w a va l) (hb : Strs w b vb l) (hl : l.length ≤ 2097152) :
    Calls Tryz.prog 44 #[va, vb] w fun e w' => e = .returned (.bool true) ∧ Like w w' := by
  by_cases h0 : l.length = 0
  · obtain ⟨A, ca, rfl⟩ : ∃ A ca, va = .slice A 0 ca := by
      rcases ha.form with ⟨rfl, _⟩ | ⟨g, c, rfl, _⟩
      · exact ⟨_, _, rfl⟩
      · rw [h0]; exact ⟨_, _, rfl⟩
    obtain ⟨B, cb, rfl⟩ : ∃ B cb, vb = .slice B 0 cb := by
      rcases hb.form with ⟨rfl, _⟩ | ⟨g, c, rfl, _⟩
      · exact ⟨_, _, rfl⟩
      · rw [h0]; exact ⟨_, _, rfl⟩
    clear ha hb h0 hl
    go_enter Tryz.func44, Tryz.ntmps44
    go_wp2
    go_loop [5] (fun v5 => v5 = .int .i64 0) (fun _ => 0)
    case atStart => rfl
    case round =>
      subst hrel
      go_wp2
      go_ret
      exact ⟨rfl, Like.refl _⟩
  · obtain ⟨g, ca, rfl, _, _⟩ : ∃ g cap, va = .slice (some ⟨g, 0, none⟩) l.length cap ∧ a ≤ g ∧ g < w.heap.size := by
      rcases ha.form with ⟨rfl, rfl⟩ | h
      · exact absurd rfl h0
      · exact h
    obtain ⟨g', cb, rfl, _, _⟩ : ∃ g cap, vb = .slice (some ⟨g, 0, none⟩) l.length cap ∧ b ≤ g ∧ g < w.heap.size := by
      rcases hb.form with ⟨rfl, rfl⟩ | h
      · exact absurd rfl h0
      · exact h
    have HA : Hid (Strs w a (.slice (some ⟨g, 0, none⟩) l.length ca) l) := ha
    have HB : Hid (Strs w b (.slice (some ⟨g', 0, none⟩) l.length cb) l) := hb
    have q1 : (l.length : Int) ≤ 2097152 := by omega
    clear ha hb hl
    generalize hn : l.length = n at *
    have HN : Hid (l.length = n) := hn
    clear hn
    go_enter Tryz.func44, Tryz.ntmps44
    go_wp2
    go_loopw [5] (fun v5 wr => ∃ k : Nat, k ≤ n ∧ v5 = .int .i64 k ∧ Like w wr) (fun i _ => n - (intOf i).toNat)
    case atStart => exact ⟨0, by omega, rfl, Like.refl _⟩
    case round =>
      obtain ⟨k, hk, rfl, hL⟩ := hrel
      by_cases hlt : k < n
      · have q2 : (k : Int) < (n : Int) := by omega
        have hkl : k < l.length := by rw [HN.out]; exact hlt
        have c1 := HA.out
        have c2 := HB.out
        rw [← HN.out] at c1 c2
        have e1 := c1.cell k hkl
        have e2 := c2.cell k hkl
        rw [← cell?_heap hL.1] at e1 e2
        generalize l[k] = x at *
        clear c1 c2 hkl
        go_wp2
        go_quiet (fail)
        go_wp2
        go_roundw
        case rel => exact ⟨k + 1, by omega, by go_num, hL.drewN _⟩
        case measure => simp [intOf]; omega
      · have hkk : k = n := by omega
        subst hkk
        go_wp2
        go_ret
        exact ⟨rfl, hL⟩

end Go.Proofs.YtpmgndgkmffcnaaGreatDoor
