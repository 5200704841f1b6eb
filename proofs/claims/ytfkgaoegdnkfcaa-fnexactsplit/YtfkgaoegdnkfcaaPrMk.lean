/-
  Contracts of the laws' own markPartS and heldPartS.
-/
import Derived.Test.YtfkgaoegdnkfcaaPrLaw
import Derived.WalkKit
import Derived.ProofKit
import Derived.OpenShut
import Derived.Below
import Derived.WalkSmall
import Derived.BigQuiet
import Derived.Deep.QuietTactic
import Derived.Deep.RegionWith
import Derived.Handy
namespace Go.Proofs.Ytfkgaoegdnkfcaa
open Go.ChangeShapes Go.WideShapes Go.ChangeAt Go.RowKit Go.PlainAid
set_option linter.unusedVariables false

/-- Where the marks of the j-th begin. -/
def kAt (k : Nat) (L : List (Prt × Value)) : Nat → Nat
  | 0 => k
  | j + 1 => kAt k L j + 1 + 2 * (L.getD j default).1.pts.length
theorem kAt_le {k : Nat} {L : List (Prt × Value)} (h : ∀ q ∈ L, q.1.pts.length ≤ 60) : ∀ j, j ≤ L.length → k ≤ kAt k L j ∧ kAt k L j ≤ k + 121 * j
  | 0, _ => ⟨Nat.le_refl _, by simp [kAt]⟩
  | j + 1, hj => by
    have ih := kAt_le (k := k) h j (by omega)
    have := h _ (getD_mem L j (by omega))
    rw [kAt]
    omega
/-- The row of the j-th, marked. -/
def pmR (k : Nat) (L : List (Prt × Value)) (j : Nat) : List Value := [.int .i64 (kAt k L j : Int), (L.getD j default).2]
/-- Series that are marked. -/
def PMk (w : World) (base k : Nat) (v : Value) (L : List (Prt × Value)) : Prop := Owns w base 30 2 v (newR (pmR k L) L.length) ∧ ∀ j, j < L.length → Owns w base 33 2 (L.getD j default).2 (newR (mkPt (kAt k L j + 1)) (L.getD j default).1.pts.length)
theorem PMk.on {w w' : World} {base k : Nat} {v : Value} {L : List (Prt × Value)} (h : PMk w base k v L) (hb : Below w.heap.size w w') : PMk w' base k v L := ⟨h.1.on hb, fun j hj => (h.2 j hj).on hb⟩
theorem apart_get {L : List (Prt × Value)} (h : L.Pairwise fun p q => Apart p.2 q.2) (i j : Nat) (hi : i < L.length) (hj : j < L.length) (hne : i ≠ j) : Apart (L.getD i default).2 (L.getD j default).2 := by
  rw [List.pairwise_iff_getElem] at h
  rw [← getD_at L i hi, ← getD_at L j hj]
  rcases Nat.lt_or_ge i j with hl | hl
  · exact h i j hi hj hl
  · exact (h j i hj hi (by omega)).symm
theorem prR_get (L : List (Prt × Value)) (j : Nat) (hj : j < (prR L).length) : (prR L)[j] = [.int .i64 (L.getD j default).1.num, (L.getD j default).2] := by
  have hj' : j < L.length := by rw [prR_length] at hj; exact hj
  rw [← getD_at L j hj']
  simp [prR, prC]
theorem partR_at (f : Nat → List Value) (R : List (List Value)) (j : Nat) (hj : j < R.length) (h' : j < (partR f R j).length) : (partR f R j)[j]'h' = R[j] := by
  have e : (partR f R j)[j]? = R[j]? := by
    unfold partR
    rw [List.getElem?_append_right (by rw [newR_length]; exact Nat.le_refl _), newR_length, Nat.sub_self, List.getElem?_drop]
    simp
  rw [List.getElem?_eq_getElem h', List.getElem?_eq_getElem hj] at e
  exact Option.some.inj e
theorem partR_was (f : Nat → List Value) (R : List (List Value)) (j : Nat) (h' : j < (partR f R (j + 1)).length) : (partR f R (j + 1))[j]'h' = f j := by
  have e : (partR f R (j + 1))[j]? = some (f j) := by
    unfold partR
    rw [List.getElem?_append_left (by rw [newR_length]; omega)]
    simp [newR]
  rw [List.getElem?_eq_getElem h'] at e
  exact Option.some.inj e
set_option maxHeartbeats 4000000 in
theorem markPartS (k base : Nat) (v : Value) (L : List (Prt × Value)) (w : World) (hv : PrtO w base v L) (hl : L.length ≤ 60) (hp : ∀ q ∈ L, q.1.pts.length ≤ 60) (h1 : 1 ≤ k) (h2 : k ≤ 1000) (hbs : base ≤ w.heap.size) :
    Calls Try.prog 26 #[v, .int .i64 (k : Int)] w fun e w' => e = .returned (.int .i64 (kAt k L L.length : Int)) ∧ PMk w' base k v L ∧ Below base w w' := by
  obtain ⟨A, ca, e0, _⟩ := pr_look hv.lies.1
  have HV : Hid (PrtO w base v L) := hv
  subst e0
  have HP : Hid (∀ q ∈ L, q.1.pts.length ≤ 60) := hp
  have HK : Hid (∀ j, j ≤ L.length → k ≤ kAt k L j ∧ kAt k L j ≤ k + 121 * j) := kAt_le hp
  have q1 : (L.length : Int) ≤ 60 := by omega
  have HAp : Hid (∀ i j, i < L.length → j < L.length → i ≠ j → Apart (L.getD i default).2 (L.getD j default).2) := fun i j hi hj hne => apart_get hv.2.2 i j hi hj hne
  have HRl : Hid ((prR L).length = L.length) := prR_length L
  have HRg : Hid (∀ j (hj : j < (prR L).length), (prR L)[j] = [.int .i64 (L.getD j default).1.num, (L.getD j default).2]) := fun j hj => prR_get L j hj
  have P0 : Hid (∀ j, j < L.length → Owns w base 33 2 (L.getD j default).2 (ptR (L.getD j default).1.pts)) := fun j hj => hv.2.1 _ (getD_mem L j hj)
  have HBS : Hid (base ≤ w.heap.size) := hbs
  have HK1 : Hid (1 ≤ k ∧ k ≤ 1000) := ⟨h1, h2⟩
  clear hv hp hl hbs h1 h2
  generalize hn : L.length = n at *
  have HN : Hid (L.length = n) := hn
  clear hn
  go_enter Try.func26, Try.ntmps26
  go_wp2_with fail
  go_loopw [1, 5] (fun v1 v5 wr => ∃ j : Nat, j ≤ n ∧ v5 = .int .i64 (j : Int) ∧ v1 = .int .i64 (kAt k L j : Int) ∧ Owns wr base 30 2 (.slice A n ca) (partR (pmR k L) (prR L) j) ∧ (∀ i, i < j → Owns wr base 33 2 (L.getD i default).2 (newR (mkPt (kAt k L i + 1)) (L.getD i default).1.pts.length)) ∧ (∀ i, j ≤ i → i < n → Owns wr base 33 2 (L.getD i default).2 (ptR (L.getD i default).1.pts)) ∧ Below base w wr) (fun _ i _ => n - (intOf i).toNat)
  case atStart => exact ⟨0, by omega, rfl, rfl, by rw [partR_zero]; exact HV.out.1, fun i hi => by omega, fun i _ hi => P0.out i hi, Below.refl _ _⟩
  case round =>
    obtain ⟨j, hj, rfl, rfl, hS, hM, hR, hB⟩ := hrel
    have HS : Hid (Owns wr base 30 2 (.slice A n ca) (partR (pmR k L) (prR L) j)) := hS
    have HM : Hid (∀ i, i < j → Owns wr base 33 2 (L.getD i default).2 (newR (mkPt (kAt k L i + 1)) (L.getD i default).1.pts.length)) := hM
    have HR : Hid (∀ i, j ≤ i → i < n → Owns wr base 33 2 (L.getD i default).2 (ptR (L.getD i default).1.pts)) := hR
    have HB : Hid (Below base w wr) := hB
    clear hS hM hR hB
    by_cases hlt : j < n
    · have q2 : (j : Int) < (n : Int) := by omega
      obtain ⟨g, rfl, hgb⟩ : ∃ g, A = some ⟨g, 0, none⟩ ∧ base ≤ g := by
        rcases HS.out.2.2 with ⟨e, h0⟩ | ⟨g, c, cur, e, hg, _⟩
        · rw [partR_length _ _ _ (by rw [HRl.out]; omega), HRl.out] at h0; omega
        · cases e; exact ⟨g, rfl, hg⟩
      have HG : Hid (base ≤ g) := hgb
      clear hgb
      have hkj := HK.out j (by omega)
      have HKs : Hid (kAt k L (j + 1) = kAt k L j + 1 + 2 * (L.getD j default).1.pts.length) := by unfold Hid; rw [kAt]
      have hpj := HP.out _ (getD_mem L j (by rw [HN.out]; exact hlt))
      have HSm : Hid (pmR k L j = [.int .i64 (kAt k L j : Int), (L.getD j default).2]) := rfl
      have HPj : Hid (kAt k L j ≤ 9000 ∧ (L.getD j default).1.pts.length ≤ 60) := ⟨by have := HK1.out; have := HN.out; omega, hpj⟩
      obtain ⟨Aj, nj, cj, euj⟩ := (HR.out j (Nat.le_refl _) hlt).shape
      have HEu : Hid ((L.getD j default).2 = .slice Aj nj cj) := euj
      clear euj hpj hkj
      generalize hkk : kAt k L j = kk at *
      have HKK : Hid (kAt k L j = kk) := hkk
      clear hkk
      obtain ⟨Y1, hY1⟩ : ∃ Y1, Y1 = wr := ⟨_, rfl⟩
      have hb1 : Below wr.heap.size wr Y1 := by rw [hY1]; exact Below.refl _ _
      have hS1 := HS.out.on hb1
      have hpl : (partR (pmR k L) (prR L) j).length = n := by rw [partR_length _ _ _ (by rw [HRl.out]; omega), HRl.out]
      have hjr : j < (partR (pmR k L) (prR L) j).length := by rw [hpl]; exact hlt
      have hrow : (partR (pmR k L) (prR L) j)[j]'hjr = [.int .i64 (L.getD j default).1.num, (L.getD j default).2] := by
        rw [partR_at _ _ _ (by rw [HRl.out]; exact hlt)]
        exact HRg.out j _
      have hS2 := hS1
      rw [← set_self j hjr, hrow] at hS2
      have hS3 := hS2.pokeAt (R := partR (pmR k L) (prR L) j) hpl hlt 0 (by omega) (.int .i64 (kk : Int))
      rw [Nat.add_zero, show List.set [.int .i64 (L.getD j default).1.num, (L.getD j default).2] 0 (.int .i64 (kk : Int)) = pmR k L j by rw [HSm.out]; rfl, partR_set _ _ _ (by rw [HRl.out]; exact hlt)] at hS3
      have hO1 := hS1
      rw [show (Value.slice (some ⟨g, 0, none⟩) n ca) = .slice (some ⟨g, 0, none⟩) (partR (pmR k L) (prR L) j).length ca by rw [hpl]] at hO1
      obtain ⟨y0, d0⟩ := hO1.cellX j 0 hjr (by omega)
      have f0 := hO1.free (j * 2)
      rw [Nat.add_zero] at d0
      have HS3 : Hid (Owns (Y1.setCell ⟨g, j * 2, none⟩ (.int .i64 (kk : Int))) base 30 2 (.slice (some ⟨g, 0, none⟩) n ca) (partR (pmR k L) (prR L) (j + 1))) := hS3
      have hgp : ∀ i, (i < j ∨ j ≤ i ∧ i < n) → (L.getD i default).2.ownBlock ≠ some g := fun i hi e => by
        rcases hi with hi | hi
        · exact ((HM.out i hi).on hb1).apartT hS1 (by decide) g e rfl
        · exact ((HR.out i hi.1 hi.2).on hb1).apartT hS1 (by decide) g e rfl
      have M3 : Hid (∀ i, i < j → Owns (Y1.setCell ⟨g, j * 2, none⟩ (.int .i64 (kk : Int))) base 33 2 (L.getD i default).2 (newR (mkPt (kAt k L i + 1)) (L.getD i default).1.pts.length)) := fun i hi => ((HM.out i hi).on hb1).other (hgp i (.inl hi)) _ _
      have R3 : Hid (∀ i, j ≤ i → i < n → Owns (Y1.setCell ⟨g, j * 2, none⟩ (.int .i64 (kk : Int))) base 33 2 (L.getD i default).2 (ptR (L.getD i default).1.pts)) := fun i h1 h2 => ((HR.out i h1 h2).on hb1).other (hgp i (.inr ⟨h1, h2⟩)) _ _
      have B3 : Hid (Below base w (Y1.setCell ⟨g, j * 2, none⟩ (.int .i64 (kk : Int)))) := (HB.out.trans (hb1.mono (Nat.le_trans HBS.out HB.out.size))).setCell (show base ≤ g from HG.out) _
      have hl3 := HS3.out.lies.look
      obtain ⟨A3, c3, e3, hl3⟩ := hl3
      rw [partR_length _ _ _ (by rw [HRl.out]; omega), HRl.out] at e3
      cases e3
      obtain ⟨g3, o3, e3, _, hc3⟩ := hl3 j (by rw [partR_length _ _ _ (by rw [HRl.out]; omega), HRl.out]; exact hlt)
      cases e3
      have hrow3 : (partR (pmR k L) (prR L) (j + 1))[j]'(by rw [partR_length _ _ _ (by rw [HRl.out]; omega), HRl.out]; exact hlt) = [.int .i64 (kk : Int), .slice Aj nj cj] := by
        rw [partR_was, HSm.out, HEu.out]
      have m1 := hc3 1 (.slice Aj nj cj) (by omega) (by rw [hrow3]; rfl)
      rw [Nat.zero_add] at m1
      rw [hY1] at HS3 M3 R3 B3 m1 d0 f0
      generalize hW3 : wr.setCell ⟨g, j * 2, none⟩ (.int .i64 (kk : Int)) = W3 at *
      have cp := markPointS (kk + 1) base (.slice Aj nj cj) (ptR (L.getD j default).1.pts) W3 (by have := R3.out j (Nat.le_refl _) hlt; rw [HEu.out] at this; exact this) (by rw [ptR_length]; have := HPj.out; omega) (by have := HPj.out; omega)
      rw [ptR_length] at cp
      generalize hplj : (L.getD j default).1.pts.length = pl at cp HKs HPj
      have HPL : Hid ((L.getD j default).1.pts.length = pl) := hplj
      clear hplj
      have q5 : (kk : Int) ≤ 9000 := by have := HPj.out; omega
      have hcast : (((kk + 1 : Nat)) : Int) = (kk : Int) + 1 := by omega
      rw [hcast] at cp
      clear hS1 hS2 hS3 hO1 hpl hjr hrow hgp hl3 hrow3 hc3 hb1
      go_wp2_with fail
      refine cp.mono ?_
      rintro e Y4 ⟨rfl, hO4, hb4, hk4⟩
      have S4 : Hid (Owns Y4 base 30 2 (.slice (some ⟨g, 0, none⟩) n ca) (partR (pmR k L) (prR L) (j + 1))) := HS3.out.kept fun gg _ hv => hk4 gg (fun hu => (by have := R3.out j (Nat.le_refl _) hlt; rw [HEu.out] at this; exact this : Owns W3 base 33 2 (.slice Aj nj cj) (ptR (L.getD j default).1.pts)).apartT HS3.out (by decide) gg hu hv)
      have M4 : Hid (∀ i, i < j + 1 → Owns Y4 base 33 2 (L.getD i default).2 (newR (mkPt (kAt k L i + 1)) (L.getD i default).1.pts.length)) := fun i hi => by
        by_cases e : i = j
        · rw [e, HKK.out, HEu.out, HPL.out]; exact hO4
        · refine (M3.out i (by omega)).kept fun gg _ hv => hk4 gg (fun hu => ?_)
          have := HAp.out i j (by omega) hlt e
          rw [HEu.out] at this
          exact this gg hv hu
      have R4 : Hid (∀ i, j + 1 ≤ i → i < n → Owns Y4 base 33 2 (L.getD i default).2 (ptR (L.getD i default).1.pts)) := fun i h1 h2 => by
        refine (R3.out i (by omega) h2).kept fun gg _ hv => hk4 gg (fun hu => ?_)
        have := HAp.out i j h2 hlt (by omega)
        rw [HEu.out] at this
        exact this gg hv hu
      have B4 : Hid (Below base w Y4) := B3.out.trans hb4
      have HKc : Hid ((((kk + 1 + 2 * pl : Nat)) : Int) = (kAt k L (j + 1) : Int)) := by unfold Hid; rw [HKs.out]
      generalize kk + 1 + 2 * pl = k2 at *
      clear hO4 hb4 hk4 cp
      go_wp2_with fail
      go_roundw
      case rel => exact ⟨j + 1, by omega, by go_num, by rw [← HKc.out], S4.out, M4.out, R4.out, B4.out⟩
      case measure => simp [intOf]; omega
    · obtain rfl : j = n := by omega
      go_wp2_with fail
      go_ret
      refine ⟨rfl, ⟨?_, fun i hi => HM.out i (by rw [← HN.out]; exact hi)⟩, HB.out⟩
      have := HS.out
      rw [show j = (prR L).length by rw [HRl.out], partR_all, HRl.out] at this
      rw [HN.out]
      exact this
theorem pm_look {w : World} {B k : Nat} {v : Value} {L : List (Prt × Value)} (h : Lies w B 2 v (newR (pmR k L) L.length)) : ∃ A cap, v = .slice A L.length cap ∧ ∀ j, j < L.length → ∃ g off, A = some ⟨g, off, none⟩ ∧ g < B ∧ w.cell? ⟨g, off + j * 2, none⟩ = some (.int .i64 (kAt k L j : Int)) ∧ w.cell? ⟨g, off + j * 2 + 1, none⟩ = some (L.getD j default).2 := by
  obtain ⟨A, cap, e, h⟩ := h.look
  rw [newR_length] at e
  refine ⟨A, cap, e, fun j hj => ?_⟩
  obtain ⟨g, off, e, hg, hc⟩ := h j (by rw [newR_length]; exact hj)
  have hr : (newR (pmR k L) L.length)[j]'(by rw [newR_length]; exact hj) = pmR k L j := by simp [newR]
  rw [hr] at hc
  refine ⟨g, off, e, hg, ?_, ?_⟩
  · have := hc 0 _ (by omega) rfl; simpa [Nat.add_assoc] using this
  · have := hc 1 _ (by omega) rfl; simpa [Nat.add_assoc] using this
set_option maxHeartbeats 4000000 in
theorem heldPartS (k base : Nat) (v : Value) (L : List (Prt × Value)) (w : World) (hv : PMk w base k v L) (hl : L.length ≤ 60) (hp : ∀ q ∈ L, q.1.pts.length ≤ 60) (h1 : 1 ≤ k) (h2 : k ≤ 1000) :
    Calls Try.prog 27 #[v, .int .i64 (k : Int)] w fun e w' => e = .returned (.int .i64 (kAt k L L.length : Int)) ∧ Below w.heap.size w w' := by
  obtain ⟨A, ca, e0, hlk⟩ := pm_look hv.1.lies
  subst e0
  have HLK : Hid (∀ j, j < L.length → ∃ g off, A = some ⟨g, off, none⟩ ∧ g < w.heap.size ∧ w.cell? ⟨g, off + j * 2, none⟩ = some (.int .i64 (kAt k L j : Int)) ∧ w.cell? ⟨g, off + j * 2 + 1, none⟩ = some (L.getD j default).2) := hlk
  have HPt : Hid (∀ j, j < L.length → Owns w base 33 2 (L.getD j default).2 (newR (mkPt (kAt k L j + 1)) (L.getD j default).1.pts.length)) := hv.2
  have HP : Hid (∀ q ∈ L, q.1.pts.length ≤ 60) := hp
  have HK : Hid (∀ j, j ≤ L.length → k ≤ kAt k L j ∧ kAt k L j ≤ k + 121 * j) := kAt_le hp
  have q1 : (L.length : Int) ≤ 60 := by omega
  have HK1 : Hid (1 ≤ k ∧ k ≤ 1000) := ⟨h1, h2⟩
  clear hv hp hl h1 h2 hlk
  generalize hn : L.length = n at *
  have HN : Hid (L.length = n) := hn
  clear hn
  go_enter Try.func27, Try.ntmps27
  go_wp2_with fail
  go_loopw [1, 5] (fun v1 v5 wr => ∃ j : Nat, j ≤ n ∧ v5 = .int .i64 (j : Int) ∧ v1 = .int .i64 (kAt k L j : Int) ∧ Below w.heap.size w wr) (fun _ i _ => n - (intOf i).toNat)
  case atStart => exact ⟨0, by omega, rfl, rfl, Below.refl _ _⟩
  case round =>
    obtain ⟨j, hj, rfl, rfl, hB⟩ := hrel
    have HB : Hid (Below w.heap.size w wr) := hB
    clear hB
    by_cases hlt : j < n
    · have q2 : (j : Int) < (n : Int) := by omega
      obtain ⟨g, off, rfl, hg, d0, d1⟩ := HLK.out j hlt
      have hkj := HK.out j (by omega)
      have HKs : Hid (kAt k L (j + 1) = kAt k L j + 1 + 2 * (L.getD j default).1.pts.length) := by unfold Hid; rw [kAt]
      have hpj := HP.out _ (getD_mem L j (by rw [HN.out]; exact hlt))
      have HPj : Hid (kAt k L j ≤ 9000 ∧ 1 ≤ kAt k L j ∧ (L.getD j default).1.pts.length ≤ 60) := ⟨by have := HK1.out; omega, by have := HK1.out; omega, hpj⟩
      have hOj := HPt.out j hlt
      obtain ⟨Aj, nj, cj, euj⟩ := hOj.shape
      rw [euj] at hOj d1
      have HOj : Hid (Owns w base 33 2 (.slice Aj nj cj) (newR (mkPt (kAt k L j + 1)) (L.getD j default).1.pts.length)) := hOj
      have HG : Hid (g < w.heap.size) := hg
      have D0 : Hid (w.cell? ⟨g, off + j * 2, none⟩ = some (.int .i64 (kAt k L j : Int))) := d0
      have D1 : Hid (w.cell? ⟨g, off + j * 2 + 1, none⟩ = some (.slice Aj nj cj)) := d1
      have S0 : wr.cell? ⟨g, off + j * 2, none⟩ = some (.int .i64 (kAt k L j : Int)) := (HB.out.cell (p := ⟨g, off + j * 2, none⟩) hg).trans d0
      have hq5 : kAt k L j ≤ 9000 := HPj.out.1
      clear euj hpj hkj hOj hg d0 d1
      generalize hkk : kAt k L j = kk at *
      have HKK : Hid (kAt k L j = kk) := hkk
      clear hkk
      have q5 : (kk : Int) ≤ 9000 := by omega
      obtain ⟨Y1, hY1⟩ : ∃ Y1, Y1 = wr := ⟨_, rfl⟩
      have B1 : Hid (Below w.heap.size w Y1) := by unfold Hid; rw [hY1]; exact HB.out
      have m1 := (B1.out.cell (p := ⟨g, off + j * 2 + 1, none⟩) HG.out).trans D1.out
      have ch := heldPointS (kk + 1) (L.getD j default).1.pts.length (.slice Aj nj cj) Y1 Y1.heap.size ((HOj.out.on B1.out).lies) (by have := HPj.out; omega) (by have := HPj.out; omega)
      have hcast : (((kk + 1 : Nat)) : Int) = (kk : Int) + 1 := by omega
      rw [hcast] at ch
      have HKc : Hid ((((kk + 1 + 2 * (L.getD j default).1.pts.length : Nat)) : Int) = (kAt k L (j + 1) : Int)) := by unfold Hid; rw [HKs.out]
      have q6 : (0 : Int) ≤ ((kk + 1 + 2 * (L.getD j default).1.pts.length : Nat) : Int) := by omega
      generalize kk + 1 + 2 * (L.getD j default).1.pts.length = k2 at *
      rw [hY1] at m1 ch
      have d6 : decide ((k2 : Int) < 0) = false := decide_eq_false (by omega)
      go_wp2_with fail
      refine ch.mono ?_
      rintro e w' ⟨rfl, rfl⟩
      go_wp2_with fail
      go_roundw
      case rel => exact ⟨j + 1, by omega, by go_num, by rw [← HKc.out], HB.out⟩
      case measure => simp [intOf]; omega
    · obtain rfl : j = n := by omega
      go_wp2_with fail
      go_ret
      exact ⟨rfl, HB.out⟩
end Go.Proofs.Ytfkgaoegdnkfcaa
