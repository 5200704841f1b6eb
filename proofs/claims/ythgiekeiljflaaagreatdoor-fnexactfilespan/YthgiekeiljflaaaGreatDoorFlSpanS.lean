/-
  Contract of spec.FileSpan.
-/
import Derived.Test.YthgiekeiljflaaaGreatDoorFlSpanM
import Derived.Test.YthgiekeiljflaaaGreatDoorFlReadS
import Derived.WalkKit
import Derived.ProofKit
import Derived.OpenShut
import Derived.Below
import Derived.WalkSmall
import Derived.BigQuiet
import Derived.Deep.QuietTactic
import Derived.Deep.RegionWith
import Derived.Handy
namespace Go.Proofs.YthgiekeiljflaaaGreatDoor
open Go.ChangeShapes Go.WideShapes Go.ChangeAt Go.RowKit Go.PlainAid
set_option linter.unusedVariables false

set_option maxHeartbeats 4000000 in
theorem specFileSpan (s : ByteArray) (w : World) (hs : s.size ≤ 1048576) : Calls Tryz.prog 16 #[.string s] w fun e w' => FsOk s e ∧ Below w.heap.size w w' := by
  have c1 := specReadFile s w hs
  clear hs
  go_enter Tryz.func16, Tryz.ntmps16
  go_wp2_with fail
  refine c1.mono ?_
  rintro e X1 ⟨⟨u1, L1, ok1, hR, rfl, hO⟩, hb⟩
  have HR : Hid (RfAns s (L1.map Prod.fst) ok1) := hR
  have B1 : Hid (Below w.heap.size w X1) := hb
  have V1 : Hid (SerV X1 X1.heap.size u1 (L1.map Prod.fst)) := hO.view
  clear hR hb c1 hO
  cases ok1 with
  | false =>
    have HN : Hid (FsAns s 0 0 false) := by
      rcases HR.out with ⟨h, _⟩ | ⟨_, _, h⟩
      · cases h
      · exact .inr ⟨rfl, rfl, rfl, h⟩
    go_wp2_with fail
    refine bodyPost_ret (results_tmp3 rfl _ _ _) rfl ?_
    exact ⟨⟨0, 0, false, rfl, HN.out⟩, B1.out⟩
  | true =>
  obtain ⟨m, hm, em⟩ : ∃ m, GoodF s m ∧ L1.map Prod.fst = m := by
    rcases HR.out with ⟨_, h⟩ | ⟨h, _⟩
    · exact ⟨_, h, rfl⟩
    · cases h
  rw [em] at V1
  have HM : Hid (GoodF s m) := hm
  have q1 : (m.length : Int) ≤ 5 := by have := hm.2.1.1; omega
  have q2 : (1 : Int) ≤ (m.length : Int) := by have := hm.1; omega
  have HA : Hid (FsAns s (loT m m.length) (hiT m m.length) true) := .inl ⟨rfl, m, hm, rfl, rfl⟩
  have HLE : Hid (∀ k, k ≤ m.length → loT m k ≤ 1099511627776 ∧ hiT m k ≤ 1099511627776) := loT_le hm.2.1 hm.1
  obtain ⟨A, cap, rfl, hl⟩ := V1.out.look
  have HL : Hid (∀ j, j < m.length → ∃ g off v, A = some ⟨g, off, none⟩ ∧ g < X1.heap.size ∧ X1.cell? ⟨g, off + j * 2, none⟩ = some (.string (sAt m j).key) ∧ X1.cell? ⟨g, off + j * 2 + 1, none⟩ = some v ∧ Lies X1 X1.heap.size 2 v (ptR (sAt m j).pts)) := hl
  have HPt : Hid (∀ j, j < m.length → 1 ≤ (sAt m j).pts.length ∧ (sAt m j).pts.length ≤ 60 ∧ tAt (sAt m j).pts 0 = (fT m j : Int) ∧ tAt (sAt m j).pts ((sAt m j).pts.length - 1) = (lT m j : Int)) := fun j hj => by
    have h1 := (hm.2.1.2 j hj).2
    have h2 := hm.2.1.times j hj
    refine ⟨h1.1, h1.2.1, ?_, ?_⟩
    · unfold fT; omega
    · unfold lT; omega
  have HFL : Hid (∀ j, j < m.length → fT m j ≤ 1099511627776 ∧ lT m j ≤ 1099511627776) := fun j hj => by
    have h2 := hm.2.1.times j hj
    unfold fT lT
    omega
  clear hm em hl V1 HR
  generalize hn : m.length = n at *
  have HN : Hid (m.length = n) := hn
  clear hn
  have HLK : Hid (∀ j, j < n → ∃ g off gp offp cp, A = some ⟨g, off, none⟩ ∧ X1.cell? ⟨g, off + j * 2 + 1, none⟩ = some (.slice (some ⟨gp, offp, none⟩) (sAt m j).pts.length cp) ∧ X1.cell? ⟨gp, offp, none⟩ = some (.int .i64 (fT m j : Int)) ∧ X1.cell? ⟨gp, offp + ((sAt m j).pts.length - 1) * 2, none⟩ = some (.int .i64 (lT m j : Int))) := fun j hj => by
    obtain ⟨g, off, v, e0, _, _, e2, hv⟩ := HL.out j hj
    obtain ⟨hp1, hp2, hp3, hp4⟩ := HPt.out j hj
    obtain ⟨A', cp, rfl, hpl⟩ := pt_look hv
    obtain ⟨gp, offp, rfl, _, hf0, _⟩ := hpl 0 (by omega)
    obtain ⟨gp', offp', e', _, hf1, _⟩ := hpl ((sAt m j).pts.length - 1) (by omega)
    cases e'
    rw [show offp + 0 * 2 = offp by omega] at hf0
    change X1.cell? ⟨gp, offp, none⟩ = some (.int .i64 (tAt (sAt m j).pts 0)) at hf0
    change X1.cell? ⟨gp, offp + ((sAt m j).pts.length - 1) * 2, none⟩ = some (.int .i64 (tAt (sAt m j).pts ((sAt m j).pts.length - 1))) at hf1
    rw [hp3] at hf0
    rw [hp4] at hf1
    exact ⟨g, off, gp, offp, cp, e0, e2, hf0, hf1⟩
  have HP1 : Hid (∀ j, j < n → 1 ≤ (sAt m j).pts.length ∧ (sAt m j).pts.length ≤ 60) := fun j hj => ⟨(HPt.out j hj).1, (HPt.out j hj).2.1⟩
  clear HL HPt
  obtain ⟨g, off, gp, offp, cp, rfl, k0, k1, k2⟩ := HLK.out 0 (by omega)
  have hp0 := HP1.out 0 (by omega)
  rw [Nat.zero_mul, Nat.add_zero] at k0
  have q5 : ((sAt m 0).pts.length : Int) ≤ 60 := by omega
  have q6 : (1 : Int) ≤ ((sAt m 0).pts.length : Int) := by omega
  have q7 : (0 : Int) < ((sAt m 0).pts.length : Int) := by omega
  have q8 : 0 < n := by omega
  have q9 : (0 : Int) < (n : Int) := by omega
  have q10 : 0 < (sAt m 0).pts.length := by omega
  generalize (sAt m 0).pts.length = pn0 at *
  have H00 : Hid (loT m 0 = fT m 0 ∧ hiT m 0 = fT m 0) := ⟨rfl, rfl⟩
  go_wp2_with fail
  clear k0 k1 k2 q5 q6 q7 q10 hp0
  go_loop [7, 8, 9] (fun v7 v8 v9 => ∃ k : Nat, k ≤ n ∧ v9 = .int .i64 (k : Int) ∧ v7 = .int .i64 (loT m k : Int) ∧ v8 = .int .i64 (hiT m k : Int)) (fun _ _ i => n - (intOf i).toNat)
  case atStart => exact ⟨0, by omega, rfl, by rw [H00.out.1], by rw [H00.out.2]⟩
  case round =>
    obtain ⟨k, hk, rfl, rfl, rfl⟩ := hrel
    by_cases hlt : k < n
    · have q4 : (k : Int) < (n : Int) := by omega
      obtain ⟨g', off', gp, offp, cp, e', k0, k1, k2⟩ := HLK.out k hlt
      cases e'
      have hp0 := HP1.out k hlt
      have HLo : Hid (loT m (k + 1) = min (loT m k) (fT m k) ∧ hiT m (k + 1) = max (hiT m k) (lT m k)) := ⟨rfl, rfl⟩
      have hb1 := HLE.out k hk
      have hb2 := HFL.out k hlt
      have r1 : ((sAt m k).pts.length : Int) ≤ 60 := by omega
      have r2 : (1 : Int) ≤ ((sAt m k).pts.length : Int) := by omega
      have r3 : (((sAt m k).pts.length : Int) - 1).toNat = (sAt m k).pts.length - 1 := by omega
      have r4 : ((sAt m k).pts.length : Int) - 1 < ((sAt m k).pts.length : Int) := by omega
      have r5 : (0 : Int) < ((sAt m k).pts.length : Int) := by omega
      have r6 : 0 < (sAt m k).pts.length := by omega
      have r7 : (sAt m k).pts.length - 1 < (sAt m k).pts.length := by omega
      generalize (sAt m k).pts.length = pn at *
      generalize loT m k = lo at *
      generalize hiT m k = hi at *
      generalize fT m k = f at *
      generalize lT m k = la at *
      by_cases h1 : (f : Int) < (lo : Int)
      · by_cases h2 : (hi : Int) < (la : Int)
        · go_wp2_with fail
          go_round
          case rel => exact ⟨k + 1, by omega, by go_num, by rw [HLo.out.1, Nat.min_eq_right (by omega)], by rw [HLo.out.2, Nat.max_eq_right (by omega)]⟩
          case measure => simp [intOf]; omega
        · have d2 : decide ((hi : Int) < (la : Int)) = false := decide_eq_false h2
          go_wp2_with fail
          go_round
          case rel => exact ⟨k + 1, by omega, by go_num, by rw [HLo.out.1, Nat.min_eq_right (by omega)], by rw [HLo.out.2, Nat.max_eq_left (by omega)]⟩
          case measure => simp [intOf]; omega
      · have d1 : decide ((f : Int) < (lo : Int)) = false := decide_eq_false h1
        by_cases h2 : (hi : Int) < (la : Int)
        · go_wp2_with fail
          go_round
          case rel => exact ⟨k + 1, by omega, by go_num, by rw [HLo.out.1, Nat.min_eq_left (by omega)], by rw [HLo.out.2, Nat.max_eq_right (by omega)]⟩
          case measure => simp [intOf]; omega
        · have d2 : decide ((hi : Int) < (la : Int)) = false := decide_eq_false h2
          go_wp2_with fail
          go_round
          case rel => exact ⟨k + 1, by omega, by go_num, by rw [HLo.out.1, Nat.min_eq_left (by omega)], by rw [HLo.out.2, Nat.max_eq_left (by omega)]⟩
          case measure => simp [intOf]; omega
    · obtain rfl : k = n := by omega
      go_wp2_with fail
      refine bodyPost_ret (results_tmp3 rfl _ _ _) rfl ?_
      exact ⟨⟨_, _, true, rfl, HA.out⟩, B1.out⟩
end Go.Proofs.YthgiekeiljflaaaGreatDoor
