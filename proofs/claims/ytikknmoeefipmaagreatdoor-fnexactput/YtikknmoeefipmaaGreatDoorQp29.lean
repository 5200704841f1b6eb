/- SrMk SrMkG StrEqL EgL1 -/
import Derived.Test.YtikknmoeefipmaaGreatDoorQp3
import Derived.Test.YtikknmoeefipmaaGreatDoorQp28
import Derived.Test.YtikknmoeefipmaaGreatDoorQp4
import Derived.WalkKit
import Derived.ProofKit
import Derived.OpenShut
import Derived.Below
import Derived.WalkSmall
import Derived.BigQuiet
import Derived.Deep.QuietTactic
import Derived.Deep.RegionWith
import Derived.Handy
import Derived.Test.YtikknmoeefipmaaGreatDoorQp10
import Derived.Test.YtikknmoeefipmaaGreatDoorQp2
open List (setIfInBounds_toArray set_cons_zero set_cons_succ)
namespace Go.Proofs.YtikknmoeefipmaaGreatDoor
open Go.ChangeShapes Go.WideShapes Go.ChangeAt Go.RowKit Go.PlainAid
set_option linter.unusedVariables false
def kAt (k : Nat) (L : List (Ser × Value)) : Nat → Nat
 | 0 => k
 | j + 1 => kAt k L j + 1 + 2 * (L.getD j default).1.pts.length
theorem kAt_le {k : Nat} {L : List (Ser × Value)} (h : ∀ q ∈ L, q.1.pts.length ≤ 60) : ∀ j, j ≤ L.length → k ≤ kAt k L j ∧ kAt k L j ≤ k + 121 * j
 | 0, _ => ⟨Nat.le_refl _, by simp [kAt]⟩
 | j + 1, hj => by
  have ih := kAt_le (k := k) h j (by omega)
  have := h _ (getD_mem L j (by omega))
  rw [kAt]
  omega
def smR (k : Nat) (L : List (Ser × Value)) (j : Nat) : List Value := [.string (mark (kAt k L j)), (L.getD j default).2]
def SMk (w : World) (base k : Nat) (v : Value) (L : List (Ser × Value)) : Prop := Owns w base 98 2 v (newR (smR k L) L.length) ∧ ∀ j, j < L.length → Owns w base 90 2 (L.getD j default).2 (newR (mkPt (kAt k L j + 1)) (L.getD j default).1.pts.length)
theorem SMk.on {w w' : World} {base k : Nat} {v : Value} {L : List (Ser × Value)} (h : SMk w base k v L) (hb : Below w.heap.size w w') : SMk w' base k v L := ⟨h.1.on hb, fun j hj => (h.2 j hj).on hb⟩
theorem apart_get {L : List (Ser × Value)} (h : L.Pairwise fun p q => Apart p.2 q.2) (i j : Nat) (hi : i < L.length) (hj : j < L.length) (hne : i ≠ j) : Apart (L.getD i default).2 (L.getD j default).2 := by
 rw [List.pairwise_iff_getElem] at h
 rw [← getD_at L i hi, ← getD_at L j hj]
 rcases Nat.lt_or_ge i j with hl | hl
 ·exact h i j hi hj hl
 ·exact (h j i hj hi (by omega)).symm
theorem srR_get (L : List (Ser × Value)) (j : Nat) (hj : j < (srR L).length) : (srR L)[j] = [.string (L.getD j default).1.key, (L.getD j default).2] := by
 have hj' : j < L.length := by rw [srR_length] at hj; exact hj
 rw [← getD_at L j hj']
 simp [srR, srC]
theorem partR_at (f : Nat → List Value) (R : List (List Value)) (j : Nat) (hj : j < R.length) (h' : j < (partR f R j).length) : (partR f R j)[j]'h' = R[j] := by
 have e : (partR f R j)[j]? = R[j]? := by
  unfold partR
  rw [List.getElem?_append_right (by rw [newR_length]; exact Nat.le_refl _), newR_length, Nat.sub_self, List.getElem?_drop]
  simp
 rw [List.getElem?_eq_getElem h', List.getElem?_eq_getElem hj] at e
 exact Option.some.inj e
theorem partR_was (f : Nat → List Value) (R : List (List Value)) (j : Nat) (h' : j < (partR f R (j + 1)).length) : (partR f R (j + 1))[j]'h' = f j := by
 have e : (partR f R (j + 1))[j]? = some (f j) := by
  unfold partR
  rw [List.getElem?_append_left (by rw [newR_length]; omega)]
  simp [newR]
 rw [List.getElem?_eq_getElem h'] at e
 exact Option.some.inj e
theorem sm_look {w : World} {B k : Nat} {v : Value} {L : List (Ser × Value)} (h : Lies w B 2 v (newR (smR k L) L.length)) : ∃ A cap, v = .slice A L.length cap ∧ ∀ j, j < L.length → ∃ g off, A = some ⟨g, off, none⟩ ∧ g < B ∧ w.cell? ⟨g, off + j * 2, none⟩ = some (.string (mark (kAt k L j))) ∧ w.cell? ⟨g, off + j * 2 + 1, none⟩ = some (L.getD j default).2 := by
 obtain ⟨A, cap, e, h⟩ := h.look
 rw [newR_length] at e
 refine ⟨A, cap, e, fun j hj => ?_⟩
 obtain ⟨g, off, e, hg, hc⟩ := h j (by rw [newR_length]; exact hj)
 have hr : (newR (smR k L) L.length)[j]'(by rw [newR_length]; exact hj) = smR k L j := by simp [newR]
 rw [hr] at hc
 refine ⟨g, off, e, hg, ?_, ?_⟩
 ·have := hc 0 _ (by omega) rfl; simpa [Nat.add_assoc] using this
 ·have := hc 1 _ (by omega) rfl; simpa [Nat.add_assoc] using this
set_option maxHeartbeats 4000000 in
theorem heldSeriesS (k base : Nat) (v : Value) (L : List (Ser × Value)) (w : World) (hv : SMk w base k v L) (hl : L.length ≤ 5) (hp : ∀ q ∈ L, q.1.pts.length ≤ 60) (h1 : 1 ≤ k) (h2 : k ≤ 1000) :
  Calls Tryz.prog 63 #[v, .int .i64 (k : Int)] w fun e w' => e = .returned (.int .i64 (kAt k L L.length : Int)) ∧ Below w.heap.size w w' := by
 obtain ⟨A, ca, e0, hlk⟩ := sm_look hv.1.lies
 subst e0
 have HLK : Hid (∀ j, j < L.length → ∃ g off, A = some ⟨g, off, none⟩ ∧ g < w.heap.size ∧ w.cell? ⟨g, off + j * 2, none⟩ = some (.string (mark (kAt k L j))) ∧ w.cell? ⟨g, off + j * 2 + 1, none⟩ = some (L.getD j default).2) := hlk
 have HPt : Hid (∀ j, j < L.length → Owns w base 90 2 (L.getD j default).2 (newR (mkPt (kAt k L j + 1)) (L.getD j default).1.pts.length)) := hv.2
 have HP : Hid (∀ q ∈ L, q.1.pts.length ≤ 60) := hp
 have HK : Hid (∀ j, j ≤ L.length → k ≤ kAt k L j ∧ kAt k L j ≤ k + 121 * j) := kAt_le hp
 have q1 : (L.length : Int) ≤ 5 := by omega
 have HK1 : Hid (1 ≤ k ∧ k ≤ 1000) := ⟨h1, h2⟩
 clear hv hp hl h1 h2 hlk
 generalize hn : L.length = n at *
 have HN : Hid (L.length = n) := hn
 clear hn
 go_enter Tryz.func63, Tryz.ntmps63
 go_wp2_with fail
 go_loopw [1, 5] (fun v1 v5 wr => ∃ j : Nat, j ≤ n ∧ v5 = .int .i64 (j : Int) ∧ v1 = .int .i64 (kAt k L j : Int) ∧ Below w.heap.size w wr) (fun _ i _ => n - (intOf i).toNat)
 case atStart => exact ⟨0, by omega, rfl, rfl, Below.refl _ _⟩
 case round =>
  obtain ⟨j, hj, rfl, rfl, hB⟩ := hrel
  have HB : Hid (Below w.heap.size w wr) := hB
  clear hB
  by_cases hlt : j < n
  ·have q2 : (j : Int) < (n : Int) := by omega
   obtain ⟨g, off, rfl, hg, d0, d1⟩ := HLK.out j hlt
   have hkj := HK.out j (by omega)
   have HKs : Hid (kAt k L (j + 1) = kAt k L j + 1 + 2 * (L.getD j default).1.pts.length) := by unfold Hid; rw [kAt]
   have hpj := HP.out _ (getD_mem L j (by rw [HN.out]; exact hlt))
   have HPj : Hid (kAt k L j ≤ 2000 ∧ 1 ≤ kAt k L j ∧ (L.getD j default).1.pts.length ≤ 60) := ⟨by have := HK1.out; omega, by have := HK1.out; omega, hpj⟩
   have hOj := HPt.out j hlt
   obtain ⟨Aj, nj, cj, euj⟩ := hOj.shape
   rw [euj] at hOj d1
   have HOj : Hid (Owns w base 90 2 (.slice Aj nj cj) (newR (mkPt (kAt k L j + 1)) (L.getD j default).1.pts.length)) := hOj
   have HG : Hid (g < w.heap.size) := hg
   have D0 : Hid (w.cell? ⟨g, off + j * 2, none⟩ = some (.string (mark (kAt k L j)))) := d0
   have D1 : Hid (w.cell? ⟨g, off + j * 2 + 1, none⟩ = some (.slice Aj nj cj)) := d1
   have cm := markText (kAt k L j) wr.drew (by have := HPj.out; omega) (by have := HPj.out; omega)
   have S0 : Hid (wr.drew.cell? ⟨g, off + j * 2, none⟩ = some (.string (mark (kAt k L j)))) := (HB.out.cell (p := ⟨g, off + j * 2, none⟩) hg).trans d0
   have hq5 : kAt k L j ≤ 2000 := HPj.out.1
   clear euj hpj hkj hOj hg d0 d1
   generalize hkk : kAt k L j = kk at *
   have HKK : Hid (kAt k L j = kk) := hkk
   clear hkk
   generalize hmk : mark kk = mt at *
   clear hmk
   have q5 : (kk : Int) ≤ 2000 := by omega
   go_wp2_with fail
   refine wp_region_until (fun w' => w'.cell? ⟨g, off + j * 2, none⟩ = some (.string mt)) (fun _ => false) 8 (by rfl) (by kernel_rfl) ?_
   refine tKe 0 (v := ?_) S0.out ?_ ?_; rotate_left; focus (intro w hSw; (try dsimp only at hSw); go_simp; try with_reducible rfl)
   try simp only [Act.put, zQ1, zQ2, zQ3]
   refine tKe 1 (v := ?_) S0.out ?_ ?_; rotate_left; focus (intro w hSw; (try dsimp only at hSw); go_simp; try with_reducible rfl)
   try simp only [Act.put, zQ1, zQ2, zQ3]
   refine tKe 2 (v := ?_) S0.out ?_ ?_; rotate_left; focus (intro w hSw; (try dsimp only at hSw); go_simp; try with_reducible rfl)
   try simp only [Act.put, zQ1, zQ2, zQ3]
   refine tKe 3 (v := ?_) S0.out ?_ ?_; rotate_left; focus (intro w hSw; (try dsimp only at hSw); go_simp; try with_reducible rfl)
   try simp only [Act.put, zQ1, zQ2, zQ3]
   refine tKe 4 (v := ?_) S0.out ?_ ?_; rotate_left; focus (intro w hSw; (try dsimp only at hSw); go_simp; try with_reducible rfl)
   try simp only [Act.put, zQ1, zQ2, zQ3]
   refine tKe 5 (v := ?_) S0.out ?_ ?_; rotate_left; focus (intro w hSw; (try dsimp only at hSw); go_simp; try with_reducible rfl)
   try simp only [Act.put, zQ1, zQ2, zQ3]
   refine uNe 6 (fun K hK => ?_)
   go_simp
   refine cm.mono ?_
   rintro e Y1 ⟨rfl, hb1⟩
   have B1 : Hid (Below w.heap.size w Y1) := HB.out.drew.trans (hb1.mono HB.out.size)
   clear hb1 cm
   go_wp2_with fail
   refine hK.out _ _ (fun _ _ => (B1.out.cell (p := ⟨g, off + j * 2, none⟩) HG.out).trans D0.out) ?_
   clear hK K
   try simp only [Act.put, zQ1, zQ2, zQ3]
   refine pUr 7 (v := ?_) ?_ ?_; rotate_left; focus (intro w; go_simp; try with_reducible rfl)
   try simp only [Act.put, zQ1, zQ2, zQ3]
   refine until_done (by kernel_rfl) ?_ _
   have m1 := (B1.out.cell (p := ⟨g, off + j * 2 + 1, none⟩) HG.out).trans D1.out
   have ch := heldPointS (kk + 1) (L.getD j default).1.pts.length (.slice Aj nj cj) Y1 Y1.heap.size ((HOj.out.on B1.out).lies) (by have := HPj.out; omega) (by have := HPj.out; omega)
   have hcast : (((kk + 1 : Nat)) : Int) = (kk : Int) + 1 := by omega
   rw [hcast] at ch
   have HKc : Hid ((((kk + 1 + 2 * (L.getD j default).1.pts.length : Nat)) : Int) = (kAt k L (j + 1) : Int)) := by unfold Hid; rw [HKs.out]
   have q6 : (0 : Int) ≤ ((kk + 1 + 2 * (L.getD j default).1.pts.length : Nat) : Int) := by omega
   generalize kk + 1 + 2 * (L.getD j default).1.pts.length = k2 at *
   have d6 : decide ((k2 : Int) < 0) = false := decide_eq_false (by omega)
   go_wp2_with fail
   refine ch.mono ?_
   rintro e w' ⟨rfl, rfl⟩
   go_wp2_with fail
   go_roundw
   case rel => exact ⟨j + 1, by omega, by go_num, by rw [← HKc.out], B1.out⟩
   case measure => simp [intOf]; omega
  ·obtain rfl : j = n := by omega
   go_wp2_with fail
   go_ret
   exact ⟨rfl, HB.out⟩
end Go.Proofs.YtikknmoeefipmaaGreatDoor
namespace Go.Proofs.YtikknmoeefipmaaGreatDoor
open Go.ChangeShapes Go.WideShapes Go.ChangeAt Go.RowKit Go.PlainAid
set_option linter.unusedVariables false
theorem kAt_ge (k : Nat) (L : List (Ser × Value)) : ∀ j, k ≤ kAt k L j
 | 0 => Nat.le_refl _
 | j + 1 => by have := kAt_ge k L j; rw [kAt]; omega
theorem kAt_mono (k : Nat) (L : List (Ser × Value)) {i j : Nat} (h : i ≤ j) : kAt k L i ≤ kAt k L j := by
 induction j with
 | zero => rw [Nat.le_zero.1 h]; exact Nat.le_refl _
 | succ j ih =>
  rcases Nat.eq_or_lt_of_le h with e | e
  ·rw [e]; exact Nat.le_refl _
  ·have := ih (by omega)
   rw [kAt]
   omega
theorem kAt_weight (k : Nat) (L : List (Ser × Value)) : ∀ j, j ≤ L.length → kAt k L j + 0 ≤ k + 2 * (j + wtS ((L.map Prod.fst).take j))
 | 0, _ => by simp [kAt]
 | j + 1, hj => by
  have ih := kAt_weight k L j (by omega)
  have hm : (L.map Prod.fst).getD j default = (L.getD j default).1 := by rw [← getD_at _ j (by rw [List.length_map]; omega), ← getD_at L j (by omega), List.getElem_map]
  rw [kAt, wtS_snoc _ j (by rw [List.length_map]; omega), hm]
  unfold wtS1
  omega
set_option maxHeartbeats 4000000 in
theorem markSeriesG (k base : Nat) (v : Value) (L : List (Ser × Value)) (w : World) (hv : SerO w base v L) (hl : L.length ≤ 1048576) (hp : kAt k L L.length ≤ 4000000) (h1 : 1 ≤ k) (hbs : base ≤ w.heap.size) :
  Calls Tryz.prog 61 #[v, .int .i64 (k : Int)] w fun e w' => e = .returned (.int .i64 (kAt k L L.length : Int)) ∧ SMk w' base k v L ∧ Below base w w' ∧ (∀ b, b < w.heap.size → v.ownBlock ≠ some b → (∀ j, j < L.length → (L.getD j default).2.ownBlock ≠ some b) → w'.heap[b]? = w.heap[b]?) := by
 obtain ⟨A, ca, e0, _⟩ := sr_look hv.lies.1
 have HV : Hid (SerO w base v L) := hv
 subst e0
 have HK : Hid (∀ j, j ≤ L.length → k ≤ kAt k L j ∧ kAt k L j ≤ 4000000) := fun j hj => ⟨kAt_ge k L j, Nat.le_trans (kAt_mono k L hj) hp⟩
 have q1 : (L.length : Int) ≤ 1048576 := by omega
 have HAp : Hid (∀ i j, i < L.length → j < L.length → i ≠ j → Apart (L.getD i default).2 (L.getD j default).2) := fun i j hi hj hne => apart_get hv.2.2 i j hi hj hne
 have HRl : Hid ((srR L).length = L.length) := srR_length L
 have HRg : Hid (∀ j (hj : j < (srR L).length), (srR L)[j] = [.string (L.getD j default).1.key, (L.getD j default).2]) := fun j hj => srR_get L j hj
 have P0 : Hid (∀ j, j < L.length → Owns w base 90 2 (L.getD j default).2 (ptR (L.getD j default).1.pts)) := fun j hj => hv.2.1 _ (getD_mem L j hj)
 have HBS : Hid (base ≤ w.heap.size) := hbs
 have HK1 : Hid (1 ≤ k) := h1
 clear hv hp hl hbs h1
 generalize hn : L.length = n at *
 have HN : Hid (L.length = n) := hn
 clear hn
 go_enter Tryz.func61, Tryz.ntmps61
 go_wp2_with fail
 go_loopw [1, 5] (fun v1 v5 wr => ∃ j : Nat, j ≤ n ∧ v5 = .int .i64 (j : Int) ∧ v1 = .int .i64 (kAt k L j : Int) ∧ Owns wr base 98 2 (.slice A n ca) (partR (smR k L) (srR L) j) ∧ (∀ i, i < j → Owns wr base 90 2 (L.getD i default).2 (newR (mkPt (kAt k L i + 1)) (L.getD i default).1.pts.length)) ∧ (∀ i, j ≤ i → i < n → Owns wr base 90 2 (L.getD i default).2 (ptR (L.getD i default).1.pts)) ∧ Below base w wr ∧ (∀ b, b < w.heap.size → (Value.slice A n ca).ownBlock ≠ some b → (∀ j, j < n → (L.getD j default).2.ownBlock ≠ some b) → wr.heap[b]? = w.heap[b]?)) (fun _ i _ => n - (intOf i).toNat)
 case atStart => exact ⟨0, by omega, rfl, rfl, by rw [partR_zero]; exact HV.out.1, fun i hi => by omega, fun i _ hi => P0.out i hi, Below.refl _ _, fun _ _ _ _ => rfl⟩
 case round =>
  obtain ⟨j, hj, rfl, rfl, hS, hM, hR, hB, hE⟩ := hrel
  have HE : Hid (∀ b, b < w.heap.size → (Value.slice A n ca).ownBlock ≠ some b → (∀ j, j < n → (L.getD j default).2.ownBlock ≠ some b) → wr.heap[b]? = w.heap[b]?) := hE
  have HS : Hid (Owns wr base 98 2 (.slice A n ca) (partR (smR k L) (srR L) j)) := hS
  have HM : Hid (∀ i, i < j → Owns wr base 90 2 (L.getD i default).2 (newR (mkPt (kAt k L i + 1)) (L.getD i default).1.pts.length)) := hM
  have HR : Hid (∀ i, j ≤ i → i < n → Owns wr base 90 2 (L.getD i default).2 (ptR (L.getD i default).1.pts)) := hR
  have HB : Hid (Below base w wr) := hB
  clear hS hM hR hB hE
  by_cases hlt : j < n
  ·have q2 : (j : Int) < (n : Int) := by omega
   obtain ⟨g, rfl, hgb⟩ : ∃ g, A = some ⟨g, 0, none⟩ ∧ base ≤ g := by
    rcases HS.out.2.2 with ⟨e, h0⟩ | ⟨g, c, cur, e, hg, _⟩
    ·rw [partR_length _ _ _ (by rw [HRl.out]; omega), HRl.out] at h0; omega
    ·cases e; exact ⟨g, rfl, hg⟩
   have HG : Hid (base ≤ g) := hgb
   clear hgb
   have hkj := HK.out j (by omega)
   have HKs : Hid (kAt k L (j + 1) = kAt k L j + 1 + 2 * (L.getD j default).1.pts.length) := by unfold Hid; rw [kAt]
   have cm := markText (kAt k L j) wr (by have := HK1.out; omega) (by omega)
   have hpj := HK.out (j + 1) (by omega)
   rw [kAt] at hpj
   have HSm : Hid (smR k L j = [.string (mark (kAt k L j)), (L.getD j default).2]) := rfl
   have HPj : Hid (kAt k L j ≤ 4000000 ∧ (L.getD j default).1.pts.length ≤ 2000000) := ⟨by omega, by omega⟩
   obtain ⟨Aj, nj, cj, euj⟩ := (HR.out j (Nat.le_refl _) hlt).shape
   have HEu : Hid ((L.getD j default).2 = .slice Aj nj cj) := euj
   clear euj hpj hkj
   generalize hkk : kAt k L j = kk at *
   have HKK : Hid (kAt k L j = kk) := hkk
   clear hkk
   go_wp2_with fail
   refine cm.mono ?_
   rintro e Y1 ⟨rfl, hb1⟩
   have hS1 := HS.out.on hb1
   have hpl : (partR (smR k L) (srR L) j).length = n := by rw [partR_length _ _ _ (by rw [HRl.out]; omega), HRl.out]
   have hjr : j < (partR (smR k L) (srR L) j).length := by rw [hpl]; exact hlt
   have hrow : (partR (smR k L) (srR L) j)[j]'hjr = [.string (L.getD j default).1.key, (L.getD j default).2] := by
    rw [partR_at _ _ _ (by rw [HRl.out]; exact hlt)]
    exact HRg.out j _
   have hS2 := hS1
   rw [← set_self j hjr, hrow] at hS2
   have hS3 := hS2.pokeAt (R := partR (smR k L) (srR L) j) hpl hlt 0 (by omega) (.string (mark kk))
   rw [Nat.add_zero, show List.set [.string (L.getD j default).1.key, (L.getD j default).2] 0 (.string (mark kk)) = smR k L j by rw [HSm.out]; rfl, partR_set _ _ _ (by rw [HRl.out]; exact hlt)] at hS3
   have hO1 := hS1
   rw [show (Value.slice (some ⟨g, 0, none⟩) n ca) = .slice (some ⟨g, 0, none⟩) (partR (smR k L) (srR L) j).length ca by rw [hpl]] at hO1
   obtain ⟨y0, d0⟩ := hO1.cellX j 0 hjr (by omega)
   have f0 := hO1.free (j * 2)
   rw [Nat.add_zero] at d0
   have HS3 : Hid (Owns (Y1.setCell ⟨g, j * 2, none⟩ (.string (mark kk))) base 98 2 (.slice (some ⟨g, 0, none⟩) n ca) (partR (smR k L) (srR L) (j + 1))) := hS3
   have hgp : ∀ i, (i < j ∨ j ≤ i ∧ i < n) → (L.getD i default).2.ownBlock ≠ some g := fun i hi e => by
    rcases hi with hi | hi
    ·exact ((HM.out i hi).on hb1).apartT hS1 (by decide) g e rfl
    ·exact ((HR.out i hi.1 hi.2).on hb1).apartT hS1 (by decide) g e rfl
   have M3 : Hid (∀ i, i < j → Owns (Y1.setCell ⟨g, j * 2, none⟩ (.string (mark kk))) base 90 2 (L.getD i default).2 (newR (mkPt (kAt k L i + 1)) (L.getD i default).1.pts.length)) := fun i hi => ((HM.out i hi).on hb1).other (hgp i (.inl hi)) _ _
   have R3 : Hid (∀ i, j ≤ i → i < n → Owns (Y1.setCell ⟨g, j * 2, none⟩ (.string (mark kk))) base 90 2 (L.getD i default).2 (ptR (L.getD i default).1.pts)) := fun i h1 h2 => ((HR.out i h1 h2).on hb1).other (hgp i (.inr ⟨h1, h2⟩)) _ _
   have B3 : Hid (Below base w (Y1.setCell ⟨g, j * 2, none⟩ (.string (mark kk)))) := (HB.out.trans (hb1.mono (Nat.le_trans HBS.out HB.out.size))).setCell (show base ≤ g from HG.out) _
   have E3 : Hid (∀ b, b < w.heap.size → (Value.slice (some ⟨g, 0, none⟩) n ca).ownBlock ≠ some b → (∀ j, j < n → (L.getD j default).2.ownBlock ≠ some b) → (Y1.setCell ⟨g, j * 2, none⟩ (.string (mark kk))).heap[b]? = w.heap[b]?) := fun b h1 h2 h3 => by
    rw [Below.heap_setCell _ _ _ _ (show b ≠ g from fun e => h2 (by rw [e]; rfl)), hb1.block b (Nat.lt_of_lt_of_le h1 HB.out.size)]
    exact HE.out b h1 h2 h3
   have hl3 := HS3.out.lies.look
   obtain ⟨A3, c3, e3, hl3⟩ := hl3
   rw [partR_length _ _ _ (by rw [HRl.out]; omega), HRl.out] at e3
   cases e3
   obtain ⟨g3, o3, e3, _, hc3⟩ := hl3 j (by rw [partR_length _ _ _ (by rw [HRl.out]; omega), HRl.out]; exact hlt)
   cases e3
   have hrow3 : (partR (smR k L) (srR L) (j + 1))[j]'(by rw [partR_length _ _ _ (by rw [HRl.out]; omega), HRl.out]; exact hlt) = [.string (mark kk), .slice Aj nj cj] := by
    rw [partR_was, HSm.out, HEu.out]
   have m1 := hc3 1 (.slice Aj nj cj) (by omega) (by rw [hrow3]; rfl)
   rw [Nat.zero_add] at m1
   generalize hW3 : Y1.setCell ⟨g, j * 2, none⟩ (.string (mark kk)) = W3 at *
   have cp := markPointS (kk + 1) base (.slice Aj nj cj) (ptR (L.getD j default).1.pts) W3 (by have := R3.out j (Nat.le_refl _) hlt; rw [HEu.out] at this; exact this) (by rw [ptR_length]; have := HPj.out; omega) (by have := HPj.out; omega)
   rw [ptR_length] at cp
   generalize hplj : (L.getD j default).1.pts.length = pl at cp HKs HPj
   have HPL : Hid ((L.getD j default).1.pts.length = pl) := hplj
   clear hplj
   have q5 : (kk : Int) ≤ 4000000 := by have := HPj.out; omega
   have hcast : (((kk + 1 : Nat)) : Int) = (kk : Int) + 1 := by omega
   rw [hcast] at cp
   clear hS1 hS2 hS3 hO1 hpl hjr hrow hgp hl3 hrow3 hc3 hb1 cm
   go_wp2_with fail
   refine cp.mono ?_
   rintro e Y4 ⟨rfl, hO4, hb4, hk4⟩
   have S4 : Hid (Owns Y4 base 98 2 (.slice (some ⟨g, 0, none⟩) n ca) (partR (smR k L) (srR L) (j + 1))) := HS3.out.kept fun gg _ hv => hk4 gg (fun hu => (by have := R3.out j (Nat.le_refl _) hlt; rw [HEu.out] at this; exact this : Owns W3 base 90 2 (.slice Aj nj cj) (ptR (L.getD j default).1.pts)).apartT HS3.out (by decide) gg hu hv)
   have M4 : Hid (∀ i, i < j + 1 → Owns Y4 base 90 2 (L.getD i default).2 (newR (mkPt (kAt k L i + 1)) (L.getD i default).1.pts.length)) := fun i hi => by
    by_cases e : i = j
    ·rw [e, HKK.out, HEu.out, HPL.out]; exact hO4
    ·refine (M3.out i (by omega)).kept fun gg _ hv => hk4 gg (fun hu => ?_)
     have := HAp.out i j (by omega) hlt e
     rw [HEu.out] at this
     exact this gg hv hu
   have R4 : Hid (∀ i, j + 1 ≤ i → i < n → Owns Y4 base 90 2 (L.getD i default).2 (ptR (L.getD i default).1.pts)) := fun i h1 h2 => by
    refine (R3.out i (by omega) h2).kept fun gg _ hv => hk4 gg (fun hu => ?_)
    have := HAp.out i j h2 hlt (by omega)
    rw [HEu.out] at this
    exact this gg hv hu
   have B4 : Hid (Below base w Y4) := B3.out.trans hb4
   have E4 : Hid (∀ b, b < w.heap.size → (Value.slice (some ⟨g, 0, none⟩) n ca).ownBlock ≠ some b → (∀ j, j < n → (L.getD j default).2.ownBlock ≠ some b) → Y4.heap[b]? = w.heap[b]?) := fun b h1 h2 h3 => by
    rw [hk4 b (by have := h3 j hlt; rw [HEu.out] at this; exact this)]
    exact E3.out b h1 h2 h3
   have HKc : Hid ((((kk + 1 + 2 * pl : Nat)) : Int) = (kAt k L (j + 1) : Int)) := by unfold Hid; rw [HKs.out]
   generalize kk + 1 + 2 * pl = k2 at *
   clear hO4 hb4 hk4 cp
   go_wp2_with fail
   go_roundw
   case rel => exact ⟨j + 1, by omega, by go_num, by rw [← HKc.out], S4.out, M4.out, R4.out, B4.out, E4.out⟩
   case measure => simp [intOf]; omega
  ·obtain rfl : j = n := by omega
   go_wp2_with fail
   go_ret
   refine ⟨rfl, ⟨?_, fun i hi => HM.out i (by rw [← HN.out]; exact hi)⟩, HB.out, HE.out⟩
   have := HS.out
   rw [show j = (srR L).length by rw [HRl.out], partR_all, HRl.out] at this
   rw [HN.out]
   exact this
end Go.Proofs.YtikknmoeefipmaaGreatDoor
namespace Go.Proofs.YtikknmoeefipmaaGreatDoor
open Go.ChangeShapes Go.WideShapes Go.ChangeAt Go.RowKit Go.PlainAid
set_option linter.unusedVariables false
theorem Strs.heap {w w' : World} {base : Nat} {v : Value} {l : List ByteArray} (h : Strs w base v l) (hh : w'.heap = w.heap) : Strs w' base v l := h.kept fun g _ _ => by rw [hh]
set_option maxHeartbeats 1000000 in
theorem eq_same (a b : Nat) (va vb : Value) (l : List ByteArray) (w : World) (ha : Strs w a va l) (hb : Strs w b vb l) (hl : l.length ≤ 2097152) :
  Calls Tryz.prog 59 #[va, vb] w fun e w' => e = .returned (.bool true) ∧ Like w w' := by
 by_cases h0 : l.length = 0
 ·obtain ⟨A, ca, rfl⟩ : ∃ A ca, va = .slice A 0 ca := by
   rcases ha.form with ⟨rfl, _⟩ | ⟨g, c, rfl, _⟩
   ·exact ⟨_, _, rfl⟩
   ·rw [h0]; exact ⟨_, _, rfl⟩
  obtain ⟨B, cb, rfl⟩ : ∃ B cb, vb = .slice B 0 cb := by
   rcases hb.form with ⟨rfl, _⟩ | ⟨g, c, rfl, _⟩
   ·exact ⟨_, _, rfl⟩
   ·rw [h0]; exact ⟨_, _, rfl⟩
  clear ha hb h0 hl
  go_enter Tryz.func59, Tryz.ntmps59
  go_wp2
  go_loop [5] (fun v5 => v5 = .int .i64 0) (fun _ => 0)
  case atStart => rfl
  case round =>
   subst hrel
   go_wp2
   go_ret
   exact ⟨rfl, Like.refl _⟩
 ·obtain ⟨g, ca, rfl, _, _⟩ : ∃ g cap, va = .slice (some ⟨g, 0, none⟩) l.length cap ∧ a ≤ g ∧ g < w.heap.size := by
   rcases ha.form with ⟨rfl, rfl⟩ | h
   ·exact absurd rfl h0
   ·exact h
  obtain ⟨g', cb, rfl, _, _⟩ : ∃ g cap, vb = .slice (some ⟨g, 0, none⟩) l.length cap ∧ b ≤ g ∧ g < w.heap.size := by
   rcases hb.form with ⟨rfl, rfl⟩ | h
   ·exact absurd rfl h0
   ·exact h
  have HA : Hid (Strs w a (.slice (some ⟨g, 0, none⟩) l.length ca) l) := ha
  have HB : Hid (Strs w b (.slice (some ⟨g', 0, none⟩) l.length cb) l) := hb
  have q1 : (l.length : Int) ≤ 2097152 := by omega
  clear ha hb hl
  generalize hn : l.length = n at *
  have HN : Hid (l.length = n) := hn
  clear hn
  go_enter Tryz.func59, Tryz.ntmps59
  go_wp2
  go_loopw [5] (fun v5 wr => ∃ k : Nat, k ≤ n ∧ v5 = .int .i64 k ∧ Like w wr) (fun i _ => n - (intOf i).toNat)
  case atStart => exact ⟨0, by omega, rfl, Like.refl _⟩
  case round =>
   obtain ⟨k, hk, rfl, hL⟩ := hrel
   by_cases hlt : k < n
   ·have q2 : (k : Int) < (n : Int) := by omega
    have hkl : k < l.length := by rw [HN.out]; exact hlt
    have c1 := HA.out
    have c2 := HB.out
    rw [← HN.out] at c1 c2
    have e1 := c1.cell k hkl
    have e2 := c2.cell k hkl
    rw [← cell?_heap hL.1] at e1 e2
    generalize l[k] = x at *
    clear c1 c2 hkl
    go_wp2
    go_quiet (fail)
    go_wp2
    go_roundw
    case rel => exact ⟨k + 1, by omega, by go_num, hL.drewN _⟩
    case measure => simp [intOf]; omega
   ·have hkk : k = n := by omega
    subst hkk
    go_wp2
    go_ret
    exact ⟨rfl, hL⟩
set_option maxHeartbeats 1000000 in
theorem held_all (k base n : Nat) (v : Value) (w : World) (hv : Strs w base v (marks k n)) (hl : n ≤ 2097152) (h1 : 1 ≤ k) (h2 : k ≤ 100000000) :
  Calls Tryz.prog 64 #[v, .int .i64 (k : Int)] w fun e w' => e = .returned (.int .i64 ((k + n : Nat) : Int)) ∧ Below w.heap.size w w' := by
 have hml := marks_length k n
 by_cases h0 : n = 0
 ·subst h0
  obtain ⟨A, ca, rfl⟩ : ∃ A ca, v = .slice A 0 ca := by
   rcases hv.form with ⟨rfl, _⟩ | ⟨g, c, rfl, _⟩
   ·exact ⟨_, _, rfl⟩
   ·exact ⟨_, _, rfl⟩
  clear hv hl hml
  go_enter Tryz.func64, Tryz.ntmps64
  go_wp2
  go_loop [1, 5] (fun v1 v5 => v1 = .int .i64 (k : Int) ∧ v5 = .int .i64 0) (fun _ _ => 0)
  case atStart => exact ⟨rfl, rfl⟩
  case round =>
   obtain ⟨rfl, rfl⟩ := hrel
   go_wp2
   go_ret
   exact ⟨rfl, Below.refl _ _⟩
 ·obtain ⟨g, ca, rfl, hg, _⟩ : ∃ g cap, v = .slice (some ⟨g, 0, none⟩) (marks k n).length cap ∧ base ≤ g ∧ g < w.heap.size := by
   rcases hv.form with ⟨rfl, e⟩ | h
   ·rw [e] at hml
    exact absurd hml.symm h0
   ·exact h
  have HV : Hid (Strs w base (.slice (some ⟨g, 0, none⟩) (marks k n).length ca) (marks k n)) := hv
  have q1 : (n : Int) ≤ 2097152 := by omega
  have q3 : (k : Int) ≤ 100000000 := by omega
  clear hv hl hg
  rw [hml]
  go_enter Tryz.func64, Tryz.ntmps64
  go_wp2
  go_loopw [1, 5] (fun v1 v5 wr => ∃ j : Nat, j ≤ n ∧ v5 = .int .i64 j ∧ v1 = .int .i64 ((k + j : Nat) : Int) ∧ Below w.heap.size w wr) (fun _ i _ => n - (intOf i).toNat)
  case atStart => exact ⟨0, by omega, rfl, rfl, Below.refl _ _⟩
  case round =>
   obtain ⟨j, hj, rfl, rfl, hB⟩ := hrel
   have HB : Hid (Below w.heap.size w wr) := hB
   clear hB
   by_cases hlt : j < n
   ·have q2 : (j : Int) < (n : Int) := by omega
    have hS := HV.out.on HB.out
    have e1 := hS.cell j (by rw [hml]; exact hlt)
    rw [marks_get] at e1
    have c1 := fun wx => markText (k + j) wx (by omega) (by omega)
    have hsz := HB.out.size
    have hgl : Hid (g < wr.heap.size) := World.block_lt_of_cell? _ _ e1
    clear hS
    go_wp2_with fail
    go_region_with (go_at_call 96; refine (c1 _).mono ?_; rintro e w1 ⟨rfl, hb1⟩; have e3 := (hb1.cell (p := ⟨g, j, none⟩) hgl.out).trans e1)
    all_goals go_wp2_with fail
    all_goals exact ⟨⟨j + 1, by omega, by go_num, by go_num, HB.out.trans (((Below.refl _ wr).drew.trans hb1).mono hsz)⟩, by simp [intOf]; omega⟩
   ·have hkk : j = n := by omega
    subst hkk
    go_wp2
    go_ret
    exact ⟨rfl, HB.out⟩
end Go.Proofs.YtikknmoeefipmaaGreatDoor
namespace Go.Proofs.YtikknmoeefipmaaGreatDoor
open Go.ChangeShapes Go.WideShapes Go.ChangeAt Go.RowKit Go.PlainAid
set_option linter.unusedVariables false
def wtT (l : List ByteArray) : Nat := (l.map fun s => s.size).sum
theorem wtT_snoc (l : List ByteArray) (k : Nat) (h : k < l.length) : wtT (l.take (k + 1)) = wtT (l.take k) + (l.getD k default).size := by
 unfold wtT
 rw [take_getD l k h, List.map_append, List.sum_append]
 simp
theorem wtT_mem (l : List ByteArray) (x : ByteArray) (h : x ∈ l) : x.size ≤ wtT l := by
 induction l with
 | nil => cases h
 | cons y l ih =>
  unfold wtT at ih ⊢
  rw [List.map_cons, List.sum_cons]
  rcases List.mem_cons.1 h with rfl | h
  ·omega
  ·have := ih h
   omega
set_option maxHeartbeats 1000000 in
theorem szStringS (l : List ByteArray) (v : Value) (left : Int) (w : World) (B : Nat) (hv : Lies w B 1 v (stR l)) (hn : l.length ≤ maxLen) (hm : ∀ s ∈ l, s.size ≤ maxLen) (h0 : 0 ≤ left) (h1 : left ≤ 1048576) :
  Calls Tryz.prog 44 #[v, .int .i64 left] w fun e w' => ∃ r : Int, e = .returned (.int .i64 r) ∧ (r = -1 ∨ 0 ≤ r ∧ r + ((l.length + wtT l : Nat) : Int) = left) ∧ w = w' := by
 obtain ⟨A, cap, rfl, hl⟩ := st_look hv
 have HL : Hid (∀ j, j < l.length → ∃ g off, A = some ⟨g, off, none⟩ ∧ g < B ∧ w.cell? ⟨g, off + j, none⟩ = some (.string (l.getD j default))) := hl
 have HS : Hid (∀ k, k < l.length → wtT (l.take (k + 1)) = wtT (l.take k) + (l.getD k default).size) := fun k hk => wtT_snoc l k hk
 have HM : Hid (∀ k, k < l.length → (l.getD k default).size ≤ 9223372036854775807) := fun k hk => by have := hm _ (getD_mem l k hk); unfold maxLen at this; omega
 have HT : Hid (wtT (l.take l.length) = wtT l) := by unfold Hid; rw [List.take_length]
 unfold maxLen at hn
 have q1 : (l.length : Int) ≤ 9223372036854775807 := by omega
 clear hl hv hm
 generalize hN : l.length = n at *
 clear hN
 have w2 : wrap64 (left - (n : Int)) = left - (n : Int) := by unfold wrap64; omega
 by_cases hs : left < (n : Int)
 ·have q2 : left - (n : Int) < 0 := by omega
  go_enter Tryz.func44, Tryz.ntmps44
  go_wp2_with fail
  go_ret
  exact ⟨-1, rfl, .inl rfl, rfl⟩
 ·have q2 : 0 ≤ left - (n : Int) := by omega
  have q3 : decide (left - (n : Int) < 0) = false := decide_eq_false (by omega)
  have HQ : Hid (0 ≤ left - (n : Int)) := q2
  go_enter Tryz.func44, Tryz.ntmps44
  go_wp2_with fail
  clear q2 q3 w2
  go_loop [1, 5] (fun v1 v5 => ∃ (k : Nat) (r : Int), k ≤ n ∧ v5 = .int .i64 (k : Int) ∧ v1 = .int .i64 r ∧ 0 ≤ r ∧ r + ((n + wtT (l.take k) : Nat) : Int) = left) (fun _ i => n - (intOf i).toNat)
  case atStart => exact ⟨0, left - (n : Int), by omega, rfl, rfl, HQ.out, by simp [wtT]⟩
  case round =>
   obtain ⟨k, r, hk, rfl, rfl, hr0, hr⟩ := hrel
   have HR : Hid (r + ((n + wtT (l.take k) : Nat) : Int) = left) := hr
   have q9 : r ≤ 1048576 := by omega
   clear hr
   by_cases hlt : k < n
   ·have q4 : (k : Int) < (n : Int) := by omega
    obtain ⟨g, off, rfl, hg, hc0⟩ := HL.out k hlt
    have HW : Hid (wtT (l.take (k + 1)) = wtT (l.take k) + (l.getD k default).size) := HS.out k hlt
    have hmk := HM.out k hlt
    generalize l.getD k default = x at *
    generalize hz : x.size = t at *
    have q10 : (t : Int) ≤ 9223372036854775807 := by omega
    have w3 : wrap64 (r - (t : Int)) = r - (t : Int) := by unfold wrap64; omega
    by_cases hlow : r < (t : Int)
    ·have q11 : r - (t : Int) < 0 := by omega
     go_wp2_with fail
     go_ret
     exact ⟨-1, rfl, .inl rfl, rfl⟩
    ·have q11 : decide (r - (t : Int) < 0) = false := decide_eq_false (by omega)
     have q12 : 0 ≤ r - (t : Int) := by omega
     have HQ2 : Hid (0 ≤ r - (t : Int)) := q12
     go_wp2_with fail
     go_round
     case rel => exact ⟨k + 1, r - (t : Int), by omega, by go_num, rfl, HQ2.out, by have := HR.out; rw [HW.out]; omega⟩
     case measure => simp [intOf]; omega
   ·obtain rfl : k = n := by omega
    go_wp2_with fail
    go_ret
    exact ⟨r, rfl, .inr ⟨hr0, by have := HR.out; rw [HT.out] at this; exact this⟩, rfl⟩
def EFits (e : Eng) : Prop := SFits e.cache ∧ e.files.length ≤ maxLen ∧ ∀ s ∈ e.files, s.size ≤ maxLen
def wtE (e : Eng) : Nat := e.cache.length + wtS e.cache + (e.files.length + wtT e.files)
theorem EFits.short {e : Eng} {n : Nat} (h : wtE e ≤ n) (hn : n ≤ 1048576) : EShort e := by
 unfold wtE at h
 refine ⟨SShort.of (n := n) (by omega) hn, fun x hx => ?_, by omega, fun s hs => ?_⟩
 ·have := wtS_mem e.cache x hx
  unfold wtS1 at this
  unfold maxLen
  omega
 ·have := wtT_mem e.files s hs
  omega
set_option maxHeartbeats 1000000 in
theorem szEngine (e : Eng) (v : Value) (left : Int) (w : World) (B : Nat) (hv : EngV w B v e) (hf : EFits e) (h0 : 0 ≤ left) (h1 : left ≤ 1048576) (hB : B ≤ w.heap.size) :
  Calls Tryz.prog 11 #[v, .int .i64 left] w fun b w' => ∃ r : Int, b = .returned (.int .i64 r) ∧ Hid (r = -1 ∨ 0 ≤ r ∧ r + (wtE e : Int) = left) ∧ Below w.heap.size w w' := by
 obtain ⟨vc, vf, rfl, hc, hl⟩ := hv
 unfold vE
 obtain ⟨Ac, cc, rfl, _⟩ := hc.look
 obtain ⟨A, cap, rfl, _⟩ := st_look hl
 have HF : Hid (EFits e) := hf
 have HLs : Hid (Lies w B 1 (.slice A e.files.length cap) (stR e.files)) := hl
 have HB : Hid (B ≤ w.heap.size) := hB
 have HW : Hid (wtE e = e.cache.length + wtS e.cache + (e.files.length + wtT e.files)) := rfl
 obtain ⟨X0, hX0⟩ : ∃ X0, X0 = w.alloc (.cells #[.int .i64 e.floor, .slice Ac e.cache.length cc, .slice A e.files.length cap] 26) := ⟨_, rfl⟩
 have BX : Hid (Below w.heap.size w X0) := by unfold Hid; rw [hX0]; exact (Below.refl _ w).alloc (Nat.le_refl _) _
 have KX : Hid (Blk X0 w.heap.size #[.int .i64 e.floor, .slice Ac e.cache.length cc, .slice A e.files.length cap] 26) := by unfold Hid; rw [hX0]; exact Blk.new w _ _
 have c1 := szSeriesS e.cache _ left X0 B (hc.on (BX.out.mono hB)) hf.1 h0 h1 (Nat.le_trans hB BX.out.size)
 have k1 := KX.out.cell 1 _ rfl
 clear hc hl hf hB
 generalize e.floor = f at *
 generalize hcl : e.cache.length = cl at *
 have q1 : left ≤ 1048576 := h1
 go_enter Tryz.func11, Tryz.ntmps11
 go_wp2_with fail
 rw [← hX0]
 clear hX0
 refine c1.mono ?_
 rintro b X1 ⟨r, rfl, hr, hb1⟩
 have B1 : Hid (Below w.heap.size w X1) := BX.out.trans (hb1.mono BX.out.size)
 have K1 := KX.out.on hb1 KX.out.lt
 have m2 := K1.cell 2 _ rfl
 clear hb1 c1 k1 K1
 rcases hr with rfl | ⟨hr0, hr1⟩
 ·go_wp2_with fail
  go_ret
  exact ⟨-1, rfl, .inl rfl, B1.out⟩
 ·have q2 : decide (r < 0) = false := decide_eq_false (by omega)
  have HR1 : Hid (r + ((cl + wtS e.cache : Nat) : Int) = left) := hr1
  have q3 : r ≤ 1048576 := by omega
  have c2 := szStringS e.files _ r X1 B (HLs.out.on (B1.out.mono HB.out)) HF.out.2.1 HF.out.2.2 hr0 q3
  clear hr1
  generalize hfl : e.files.length = fl at *
  go_wp2_with fail
  refine c2.mono ?_
  rintro b X2 ⟨r2, rfl, hr2, rfl⟩
  rcases hr2 with rfl | ⟨hr20, hr21⟩
  ·go_wp2_with fail
   go_ret
   exact ⟨-1, rfl, .inl rfl, B1.out⟩
  ·have q4 : decide (r2 < 0) = false := decide_eq_false (by omega)
   have HR2 : Hid (r2 + ((fl + wtT e.files : Nat) : Int) = r) := hr21
   clear hr21 c2
   go_wp2_with fail
   go_ret
   exact ⟨r2, rfl, .inr ⟨hr20, by have := HR1.out; have := HR2.out; rw [HW.out]; omega⟩, B1.out⟩
def stZ : List Value := [.string ⟨#[]⟩]
theorem st_made (n : Nat) : madeCells #[.string ⟨#[]⟩] (n * 1) = (List.replicate n stZ).flatten.toArray := by
 apply Array.ext'
 rw [List.toList_toArray]
 apply List.ext_getElem?
 intro k
 have hz : ∀ r ∈ List.replicate n stZ, r.length = 1 := fun r hr => by rw [List.eq_of_mem_replicate hr]; rfl
 by_cases hk : k < n * 1
 ·have hj : k < n := by omega
  have := flat_at 1 (List.replicate n stZ) hz k 0 (by simpa using hj) (by omega)
  rw [Nat.mul_one, Nat.add_zero] at this
  have hr : (List.replicate n stZ)[k]'(by simpa using hj) = stZ := by simp
  rw [this, hr]
  have hs : (madeCells #[.string ⟨#[]⟩] (n * 1)).toList[k]? = some (#[Value.string ⟨#[]⟩].getD (k % 1) default) := by simp [madeCells, hj]
  rw [hs, Nat.mod_one]
  rfl
 ·have hl : (List.replicate n stZ).flatten.length = n * 1 := by rw [flat_length 1 _ hz]; simp
  have hr : (List.replicate n stZ).flatten[k]? = none := List.getElem?_eq_none (by omega)
  rw [hr]
  apply List.getElem?_eq_none
  rw [Array.length_toList, size_madeCells]
  omega
def laidT (l : List ByteArray) (k : Nat) : List ByteArray := l.take k ++ List.replicate (l.length - k) ⟨#[]⟩
theorem laidT_length (l : List ByteArray) (k : Nat) (h : k ≤ l.length) : (laidT l k).length = l.length := by unfold laidT; rw [List.length_append, List.length_take, List.length_replicate]; omega
theorem laidT_set (l : List ByteArray) (k : Nat) (h : k < l.length) : (laidT l k).set k (l.getD k default) = laidT l (k + 1) := by
 unfold laidT
 rw [List.set_append_right _ _ (by rw [List.length_take]; omega), List.length_take, Nat.min_eq_left (by omega), Nat.sub_self, take_getD l k h]
 obtain ⟨m, hm⟩ : ∃ m, l.length - k = m + 1 := ⟨l.length - k - 1, by omega⟩
 rw [hm, show l.length - (k + 1) = m by omega, List.replicate_succ, List.set_cons_zero, List.append_assoc]
 rfl
theorem laidT_all (l : List ByteArray) : laidT l l.length = l := by unfold laidT; rw [List.take_length, Nat.sub_self]; simp
set_option maxHeartbeats 2000000 in
theorem toStringS (l : List ByteArray) (v : Value) (w : World) (B : Nat) (hv : Lies w B 1 v (stR l)) (hn : l.length ≤ 1048576) (hB : B ≤ w.heap.size) :
  Calls Tryz.prog 48 #[v] w fun e w' => (∃ u, e = .returned u ∧ Strs w' w.heap.size u l) ∧ Below w.heap.size w w' := by
 obtain ⟨A, cap, rfl, hl⟩ := st_look hv
 have HL : Hid (∀ wx, Below w.heap.size w wx → ∀ j, j < l.length → ∃ g off, A = some ⟨g, off, none⟩ ∧ g < B ∧ wx.cell? ⟨g, off + j, none⟩ = some (.string (l.getD j default))) := fun wx hx => st_cells (hv.on (hx.mono hB))
 have HSt : Hid (∀ k, k < l.length → (laidT l k).set k (l.getD k default) = laidT l (k + 1)) := laidT_set l
 have HLe : Hid (∀ k, k ≤ l.length → (laidT l k).length = l.length) := laidT_length l
 have HA : Hid (laidT l l.length = l) := laidT_all l
 have q1 : (l.length : Int) ≤ 1048576 := by omega
 clear hl hv hB
 obtain ⟨i0, hi, hz0, hz1, hz2⟩ := info_parts infoStr
 have hmk : ∀ wx : World, (Instr.makeSlice 24 (.int .i64 (l.length : Int)) (.int .i64 (l.length : Int))).run Tryz.prog wx = .ok (.slice (some ⟨wx.heap.size, 0, none⟩) l.length l.length) (wx.alloc (.cells (List.replicate l.length stZ).flatten.toArray 9)) := fun wx => by
  have h := run_make (P := Tryz.prog) wx 24 9 i0 _ Tryz.underlying24 hi hz0 .i64 .i64 (l.length : Int) (l.length : Int) (by omega) (by omega) (by rw [hz2]; omega) (by omega)
  rw [hz1] at h
  have e : (Value.string ⟨#[]⟩).cells = #[.string ⟨#[]⟩] := rfl
  rw [e, Int.toNat_natCast, st_made] at h
  exact h
 clear hi hz0 hz1 hz2
 have OM : Hid (Strs (w.alloc (.cells (List.replicate l.length stZ).flatten.toArray 9)) w.heap.size (.slice (some ⟨w.heap.size, 0, none⟩) l.length l.length) (laidT l 0)) := by
  have e : laidT l 0 = List.replicate l.length ⟨#[]⟩ := by unfold laidT; simp
  have e2 : strCells (List.replicate l.length ⟨#[]⟩) = (List.replicate l.length stZ).flatten := by
   rw [← stR_flat]
   unfold stR stC stZ
   rw [List.map_replicate]
  unfold Hid Strs
  rw [e, e2, List.length_replicate]
  have hfl : (List.replicate l.length stZ).flatten.length = l.length := by
   rw [flat_length 1 _ (fun r hr => by rw [List.eq_of_mem_replicate hr]; rfl)]; simp
  exact World.ownsRow_lit w _ l.length (Nat.le_refl _) (by unfold maxLen; omega) (by rw [List.size_toArray, hfl]; omega)
 have BM : Hid (Below w.heap.size w (w.alloc (.cells (List.replicate l.length stZ).flatten.toArray 9))) := (Below.refl _ w).alloc (Nat.le_refl _) _
 generalize hN : l.length = n at *
 clear hN
 go_enter Tryz.func48, Tryz.ntmps48
 go_wp2_with fail
 go_loopw [4] (fun v4 wr => ∃ k : Nat, k ≤ n ∧ v4 = .int .i64 (k : Int) ∧ Strs wr w.heap.size (.slice (some ⟨w.heap.size, 0, none⟩) n n) (laidT l k) ∧ Below w.heap.size w wr) (fun i _ => n - (intOf i).toNat)
 case atStart => exact ⟨0, by omega, rfl, OM.out, BM.out⟩
 case round =>
  obtain ⟨k, hk, rfl, hS, hb⟩ := hrel
  have HS : Hid (Strs wr w.heap.size (.slice (some ⟨w.heap.size, 0, none⟩) n n) (laidT l k)) := hS
  have HBr : Hid (Below w.heap.size w wr) := hb
  clear hS hb
  by_cases hlt : k < n
  ·have q4 : (k : Int) < (n : Int) := by omega
   obtain ⟨g, off, rfl, hg, e1⟩ := HL.out wr HBr.out k hlt
   have hll := HLe.out k hk
   have hS : Strs wr w.heap.size (.slice (some ⟨w.heap.size, 0, none⟩) (laidT l k).length n) (laidT l k) := by rw [hll]; exact HS.out
   have s0 := hS.cell k (by omega)
   have f0 := hS.frozen k
   have hS2 := hS.stored k (l.getD k default)
   rw [hll, HSt.out k hlt] at hS2
   generalize hx : l.getD k default = x at *
   have HS2 : Hid (Strs (wr.setCell ⟨w.heap.size, k, none⟩ (.string x)) w.heap.size (.slice (some ⟨w.heap.size, 0, none⟩) n n) (laidT l (k + 1))) := hS2
   have HB2 : Hid (Below w.heap.size w (wr.setCell ⟨w.heap.size, k, none⟩ (.string x))) := HBr.out.setCell (Nat.le_refl _) _
   generalize (laidT l k)[k] = y at *
   clear hS hS2 hll hx
   go_wp2_with fail
   go_roundw
   case rel => exact ⟨k + 1, by omega, by go_num, HS2.out, HB2.out⟩
   case measure => simp [intOf]; omega
  ·obtain rfl : k = n := by omega
   go_wp2_with fail
   go_ret
   exact ⟨⟨_, rfl, by have := HS.out; rw [HA.out] at this; exact this⟩, HBr.out⟩
set_option maxHeartbeats 1000000 in
theorem mark_allG (k base : Nat) (v : Value) (l : List ByteArray) (w : World) (hv : Strs w base v l) (hl : l.length ≤ 2097152) (h1 : 1 ≤ k) (h2 : k ≤ 100000000) (hbase : base ≤ w.heap.size) :
  Calls Tryz.prog 62 #[v, .int .i64 (k : Int)] w fun e w' => e = .returned (.int .i64 ((k + l.length : Nat) : Int)) ∧ Strs w' base v (marks k l.length) ∧ Below base w w' ∧ (∀ b, b < w.heap.size → v.ownBlock ≠ some b → w'.heap[b]? = w.heap[b]?) := by
 by_cases h0 : l.length = 0
 ·obtain ⟨A, ca, rfl⟩ : ∃ A ca, v = .slice A 0 ca := by
   rcases hv.form with ⟨rfl, _⟩ | ⟨g, c, rfl, _⟩
   ·exact ⟨_, _, rfl⟩
   ·rw [h0]; exact ⟨_, _, rfl⟩
  have HV : Hid (Strs w base (.slice A 0 ca) l) := hv
  have HZ : Hid (l.length = 0) := h0
  clear hv h0 hl
  go_enter Tryz.func62, Tryz.ntmps62
  go_wp2
  go_loop [1, 5] (fun v1 v5 => v1 = .int .i64 (k : Int) ∧ v5 = .int .i64 0) (fun _ _ => 0)
  case atStart => exact ⟨rfl, rfl⟩
  case round =>
   obtain ⟨rfl, rfl⟩ := hrel
   go_wp2
   go_ret
   have e := List.eq_nil_of_length_eq_zero HZ.out
   have hv := HV.out
   subst e
   exact ⟨rfl, hv, Below.refl _ _, fun _ _ _ => rfl⟩
 ·obtain ⟨g, ca, rfl, hg, _⟩ : ∃ g cap, v = .slice (some ⟨g, 0, none⟩) l.length cap ∧ base ≤ g ∧ g < w.heap.size := by
   rcases hv.form with ⟨rfl, rfl⟩ | h
   ·exact absurd rfl h0
   ·exact h
  have HV : Hid (Strs w base (.slice (some ⟨g, 0, none⟩) l.length ca) l) := hv
  have q1 : (l.length : Int) ≤ 2097152 := by omega
  have q3 : (k : Int) ≤ 100000000 := by omega
  clear hv hl
  generalize hn : l.length = n at *
  have HN : Hid (l.length = n) := hn
  have HG : Hid (base ≤ g) := hg
  clear hn hg
  go_enter Tryz.func62, Tryz.ntmps62
  go_wp2
  go_loopw [1, 5] (fun v1 v5 wr => ∃ j : Nat, j ≤ n ∧ v5 = .int .i64 j ∧ v1 = .int .i64 ((k + j : Nat) : Int) ∧ Strs wr base (.slice (some ⟨g, 0, none⟩) n ca) (marked k l j) ∧ Below base w wr ∧ (∀ b, b < w.heap.size → (Value.slice (some ⟨g, 0, none⟩) n ca).ownBlock ≠ some b → wr.heap[b]? = w.heap[b]?)) (fun _ i _ => n - (intOf i).toNat)
  case atStart => exact ⟨0, by omega, rfl, rfl, by rw [marked_zero]; exact HV.out, Below.refl _ _, fun _ _ _ => rfl⟩
  case round =>
   obtain ⟨j, hj, rfl, rfl, hS, hB, hE⟩ := hrel
   have HE : Hid (∀ b, b < w.heap.size → (Value.slice (some ⟨g, 0, none⟩) n ca).ownBlock ≠ some b → wr.heap[b]? = w.heap[b]?) := hE
   have HS : Hid (Strs wr base (.slice (some ⟨g, 0, none⟩) n ca) (marked k l j)) := hS
   have HB : Hid (Below base w wr) := hB
   clear hS hB hE
   by_cases hlt : j < n
   ·have q2 : (j : Int) < (n : Int) := by omega
    have hml : (marked k l j).length = n := by rw [marked_length _ _ _ (by rw [HN.out]; exact hj), HN.out]
    have c1 := markText (k + j) wr (by omega) (by omega)
    go_wp2_with fail
    refine c1.mono ?_
    rintro e w1 ⟨rfl, hb1⟩
    have hS1 := HS.out.on hb1
    rw [← hml] at hS1
    have e1 := hS1.cell j (by rw [hml]; exact hlt)
    have e2 := hS1.frozen j
    have hS2 := hS1.stored j (mark (k + j))
    rw [hml, marked_set _ _ _ (by rw [HN.out]; exact hlt)] at hS2
    have HS2 : Hid (Strs (w1.setCell ⟨g, j, none⟩ (.string (mark (k + j)))) base (.slice (some ⟨g, 0, none⟩) n ca) (marked k l (j + 1))) := hS2
    have hsz := HB.out.size
    have HB1 : Hid (Below base w w1) := HB.out.trans (hb1.mono (by omega))
    have E2 : Hid (∀ b, b < w.heap.size → (Value.slice (some ⟨g, 0, none⟩) n ca).ownBlock ≠ some b → (w1.setCell ⟨g, j, none⟩ (.string (mark (k + j)))).heap[b]? = w.heap[b]?) := fun b h1 h2 => by
     rw [Below.heap_setCell _ _ _ _ (show b ≠ g from fun e => h2 (by rw [e]; rfl)), hb1.block b (Nat.lt_of_lt_of_le h1 HB.out.size)]
     exact HE.out b h1 h2
    generalize (marked k l j)[j] = x at *
    clear hS1 hS2 hml
    go_wp2_with fail
    go_roundw
    case rel => exact ⟨j + 1, by omega, by go_num, by go_num, HS2.out, HB1.out.setCell HG.out _, E2.out⟩
    case measure => simp [intOf]; omega
   ·have hkk : j = n := by omega
    subst hkk
    go_wp2
    go_ret
    refine ⟨rfl, ?_, HB.out, HE.out⟩
    have := HS.out
    rw [← HN.out, marked_all] at this
    rw [HN.out] at this
    exact this
end Go.Proofs.YtikknmoeefipmaaGreatDoor
