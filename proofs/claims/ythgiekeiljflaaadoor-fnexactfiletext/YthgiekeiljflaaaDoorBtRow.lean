/-
  Rows that are changed in their place: contracts of impl.unzigAll and impl.addUp.
-/
import Derived.Test.YthgiekeiljflaaaDoorRows
import Derived.Test.YthgiekeiljflaaaDoorNmLaw
import Derived.Test.YthgiekeiljflaaaDoorBtAid
import Derived.Test.YthgiekeiljflaaaDoorUntil
namespace Go.Proofs.YthgiekeiljflaaaDoor
open Go.ChangeShapes Go.WideShapes Go.ChangeAt Go.RowKit Go.PlainAid
set_option linter.unusedVariables false

/-- The first m numbers by f, the others as they were. -/
def mix (f : Nat → Int) (v : List Int) (m : Nat) : List Int := (List.range v.length).map fun i => if i < m then f i else v.getD i 0
theorem mix_length (f : Nat → Int) (v : List Int) (m : Nat) : (mix f v m).length = v.length := by simp [mix]
theorem mix_get (f : Nat → Int) (v : List Int) (m j : Nat) (h : j < v.length) : (mix f v m).getD j 0 = if j < m then f j else v.getD j 0 := by
  unfold mix
  rw [List.getD_eq_getElem?_getD, List.getElem?_map, List.getElem?_range h]
  rfl
theorem mix_set (f : Nat → Int) (v : List Int) (m : Nat) (h : m < v.length) : (mix f v m).set m (f m) = mix f v (m + 1) := by
  apply nums_ext
  · rw [List.length_set, mix_length, mix_length]
  · intro j hj
    rw [List.length_set, mix_length] at hj
    rw [mix_get f v (m + 1) j hj]
    by_cases e : m = j
    · subst e
      rw [getD_set_same _ _ _ (by rw [mix_length]; exact h), if_pos (by omega)]
    · rw [getD_set_ne _ _ _ _ e, mix_get f v m j hj]
      by_cases h2 : j < m
      · rw [if_pos h2, if_pos (by omega)]
      · rw [if_neg h2, if_neg (by omega)]
theorem mix_start (f : Nat → Int) (v : List Int) (m : Nat) (h : ∀ i, i < m → i < v.length → f i = v.getD i 0) : mix f v m = v := by
  apply nums_ext
  · rw [mix_length]
  · intro j hj
    rw [mix_length] at hj
    rw [mix_get f v m j hj]
    split
    · exact h j (by assumption) hj
    · rfl
/-- All n numbers by f. -/
def rowOf (f : Nat → Int) (n : Nat) : List Int := (List.range n).map f
theorem rowOf_length (f : Nat → Int) (n : Nat) : (rowOf f n).length = n := by simp [rowOf]
theorem rowOf_get (f : Nat → Int) (n j : Nat) (h : j < n) : (rowOf f n).getD j 0 = f j := by simp [rowOf, List.getD, h]
theorem rowOf_succ (f : Nat → Int) (n : Nat) : rowOf f (n + 1) = rowOf f n ++ [f n] := by simp [rowOf, List.range_succ]
theorem mix_all (f : Nat → Int) (v : List Int) (m : Nat) (h : v.length ≤ m) : mix f v m = rowOf f v.length := by
  apply nums_ext
  · rw [mix_length, rowOf_length]
  · intro j hj
    rw [mix_length] at hj
    rw [mix_get f v m j hj, rowOf_get f _ j hj, if_pos (by omega)]
/-- What unzigAll of the numbers from place off on leaves. -/
def uzF (off : Nat) (v : List Int) (i : Nat) : Int := if off ≤ i then unz (v.getD i 0) else v.getD i 0
/-- What addUp of the numbers from place off on leaves. -/
def auF (off : Nat) (v : List Int) : Nat → Int
  | 0 => v.getD 0 0
  | i + 1 => if i + 1 ≤ off then v.getD (i + 1) 0 else auF off v i + v.getD (i + 1) 0
theorem auF_le (off : Nat) (v : List Int) (i : Nat) (h : i ≤ off) : auF off v i = v.getD i 0 := by
  cases i with
  | zero => rfl
  | succ i => rw [auF, if_pos h]
theorem auF_gt (off : Nat) (v : List Int) (i : Nat) (h : off < i) : auF off v i = auF off v (i - 1) + v.getD i 0 := by
  cases i with
  | zero => omega
  | succ i => rw [auF, if_neg (by omega)]; rfl

set_option maxHeartbeats 1000000 in
theorem unzigAllV (off m : Nat) (l : List Int) (g cap base n : Nat) (A : Option Addr) (c : Nat) (w : World) (hN : Nums w base (.slice (some ⟨g, 0, none⟩) n cap) l) (hl : l.length = off + m) (hA : 0 < m → A = some ⟨g, off, none⟩) (hm : m ≤ 1000) (hg : base ≤ g)
    (hb : ∀ j, -9223372036854775808 ≤ l.getD j 0 ∧ l.getD j 0 ≤ 9223372036854775807) :
    Calls Tryd.prog 96 #[.slice A m c] w fun e w' => (∃ u, e = .returned u) ∧ Nums w' base (.slice (some ⟨g, 0, none⟩) n cap) (rowOf (uzF off l) l.length) ∧ Below base w w' := by
  have HN : Hid (Nums w base (.slice (some ⟨g, 0, none⟩) n cap) l) := hN
  have HL : Hid (l.length = off + m) := hl
  have HA : Hid (0 < m → A = some ⟨g, off, none⟩) := hA
  have HG : Hid (base ≤ g) := hg
  have HB : Hid (∀ j, -9223372036854775808 ≤ l.getD j 0 ∧ l.getD j 0 ≤ 9223372036854775807) := hb
  have q1 : (m : Int) ≤ 1000 := by omega
  clear hN hl hA hg hb
  go_enter Tryd.func96, Tryd.ntmps96
  go_wp2_with fail
  go_loopw [6] (fun v6 wr => ∃ k : Nat, k ≤ m ∧ v6 = .int .i64 (k : Int) ∧ Nums wr base (.slice (some ⟨g, 0, none⟩) n cap) (mix (uzF off l) l (off + k)) ∧ Below base w wr) (fun i _ => m - (intOf i).toNat)
  case atStart =>
    refine ⟨0, by omega, rfl, ?_, Below.refl _ _⟩
    rw [mix_start _ _ _ (fun i hi _ => by unfold uzF; rw [if_neg (by omega)])]
    exact HN.out
  case round =>
    obtain ⟨k, hk, rfl, hN1, hb1⟩ := hrel
    have HB1 : Hid (Below base w wr) := hb1
    have HN1 : Hid (Nums wr base (.slice (some ⟨g, 0, none⟩) n cap) (mix (uzF off l) l (off + k))) := hN1
    clear hb1
    by_cases hlt : k < m
    · have q2 : (k : Int) < (m : Int) := by omega
      have hA := HA.out (by omega)
      subst hA
      have hkl : off + k < l.length := by rw [HL.out]; omega
      have e1 := hN1.cell (off + k) (by rw [mix_length]; exact hkl)
      rw [mix_get _ _ _ _ hkl, if_neg (by omega)] at e1
      have e2 := hN1.frozen (off + k)
      have hbk := HB.out (off + k)
      have cu := fun wx => impl_unz (l.getD (off + k) 0) wx hbk.1 hbk.2
      have hS := hN1.stored (off + k) (unz (l.getD (off + k) 0))
      rw [show unz (l.getD (off + k) 0) = uzF off l (off + k) by unfold uzF; rw [if_pos (by omega)], mix_set _ _ _ hkl] at hS
      rw [show uzF off l (off + k) = unz (l.getD (off + k) 0) by unfold uzF; rw [if_pos (by omega)]] at hS
      have HS : Hid (Nums (wr.setCell ⟨g, off + k, none⟩ (.int .i64 (unz (l.getD (off + k) 0)))) base (.slice (some ⟨g, 0, none⟩) n cap) (mix (uzF off l) l (off + k + 1))) := hS
      clear hS hN1 hkl hbk
      generalize zok (l.getD (off + k) 0) = zk at *
      generalize unz (l.getD (off + k) 0) = y at *
      generalize l.getD (off + k) 0 = x at *
      go_wp2_with fail
      refine (cu _).mono ?_
      rintro e w1 ⟨rfl, rfl⟩
      go_wp2_with fail
      go_roundw
      case rel => exact ⟨k + 1, by omega, by go_num, HS.out, HB1.out.setCell HG.out _⟩
      case measure => simp [intOf]; omega
    · obtain rfl : k = m := by omega
      clear hN1
      go_wp2_with fail
      have h := HN1.out
      rw [mix_all _ _ _ (by rw [HL.out]; omega)] at h
      exact bodyPost_end (v := .tuple #[]) (by simp [results, go_sem]) rfl ⟨⟨_, rfl⟩, h, HB1.out⟩

set_option maxHeartbeats 1000000 in
theorem addUpV (off m : Nat) (l : List Int) (g cap base n : Nat) (A : Option Addr) (c : Nat) (w : World) (hN : Nums w base (.slice (some ⟨g, 0, none⟩) n cap) l) (hl : l.length = off + m) (hA : 0 < m → A = some ⟨g, off, none⟩) (hm : m ≤ 1000) (hg : base ≤ g)
    (hb : ∀ j, j < l.length → -4611686018427387904 ≤ auF off l j ∧ auF off l j ≤ 4611686018427387904) :
    Calls Tryd.prog 97 #[.slice A m c] w fun e w' => (∃ u, e = .returned u) ∧ Nums w' base (.slice (some ⟨g, 0, none⟩) n cap) (rowOf (auF off l) l.length) ∧ Below base w w' := by
  have HN : Hid (Nums w base (.slice (some ⟨g, 0, none⟩) n cap) l) := hN
  have HL : Hid (l.length = off + m) := hl
  have HA : Hid (0 < m → A = some ⟨g, off, none⟩) := hA
  have HG : Hid (base ≤ g) := hg
  have HB : Hid (∀ j, j < l.length → -4611686018427387904 ≤ auF off l j ∧ auF off l j ≤ 4611686018427387904) := hb
  have q1 : (m : Int) ≤ 1000 := by omega
  clear hN hl hA hg hb
  go_enter Tryd.func97, Tryd.ntmps97
  go_wp2_with fail
  go_loopw [2] (fun v2 wr => ∃ k : Nat, 1 ≤ k ∧ (k ≤ m ∨ k = 1) ∧ v2 = .int .i64 (k : Int) ∧ Nums wr base (.slice (some ⟨g, 0, none⟩) n cap) (mix (auF off l) l (off + k)) ∧ Below base w wr) (fun i _ => m - (intOf i).toNat)
  case atStart =>
    refine ⟨1, by omega, by omega, rfl, ?_, Below.refl _ _⟩
    rw [mix_start _ _ _ (fun i hi _ => auF_le off l i (by omega))]
    exact HN.out
  case round =>
    obtain ⟨k, hk1, hk, rfl, hN1, hb1⟩ := hrel
    have HB1 : Hid (Below base w wr) := hb1
    have HN1 : Hid (Nums wr base (.slice (some ⟨g, 0, none⟩) n cap) (mix (auF off l) l (off + k))) := hN1
    clear hb1
    by_cases hlt : k < m
    · have q2 : (k : Int) < (m : Int) := by omega
      have q3 : (1 : Int) ≤ (k : Int) := by omega
      have hA := HA.out (by omega)
      subst hA
      have hkl : off + k < l.length := by rw [HL.out]; omega
      have e1 := hN1.cell (off + k) (by rw [mix_length]; exact hkl)
      rw [mix_get _ _ _ _ hkl, if_neg (by omega)] at e1
      have e0 := hN1.cell (off + (k - 1)) (by rw [mix_length]; omega)
      rw [mix_get _ _ _ _ (by omega), if_pos (by omega)] at e0
      have e2 := hN1.frozen (off + k)
      have hbk := HB.out (off + k) hkl
      have hbj := HB.out (off + (k - 1)) (by omega)
      have ef := auF_gt off l (off + k) (by omega)
      rw [show off + k - 1 = off + (k - 1) by omega] at ef
      have hS := hN1.stored (off + k) (auF off l (off + k))
      rw [mix_set _ _ _ hkl] at hS
      have ef2 : auF off l (off + k) = l.getD (off + k) 0 + auF off l (off + (k - 1)) := by omega
      rw [ef2] at hS hbk
      have HS : Hid (Nums (wr.setCell ⟨g, off + k, none⟩ (.int .i64 (l.getD (off + k) 0 + auF off l (off + (k - 1))))) base (.slice (some ⟨g, 0, none⟩) n cap) (mix (auF off l) l (off + k + 1))) := hS
      clear hS hN1 hkl ef ef2
      generalize auF off l (off + (k - 1)) = y at *
      generalize l.getD (off + k) 0 = x at *
      have g1 : IntKind.i64.wrap ((k : Int) - 1) = (k : Int) - 1 := by rw [IntKind.wrap_i64]; omega
      have g3 : (0 : Int) ≤ (k : Int) - 1 := by omega
      have g4 : (k : Int) - 1 < (m : Int) := by omega
      have g5 : ((k : Int) - 1).toNat = k - 1 := by omega
      have g7 : IntKind.i64.wrap (x + y) = x + y := by rw [IntKind.wrap_i64]; omega
      have S0 : Hid (wr.cell? ⟨g, off + k, none⟩ = some (.int .i64 x) ∧ wr.cell? ⟨g, off + (k - 1), none⟩ = some (.int .i64 y)) := ⟨e1, e0⟩
      go_wp2_with fail
      refine wp_region_until (fun w' => w'.cell? ⟨g, off + k, none⟩ = some (.int .i64 x) ∧ w'.cell? ⟨g, off + (k - 1), none⟩ = some (.int .i64 y)) (fun i => i == 11) 12 (by rfl) (by kernel_rfl) ?_
      refine until_take 0 (v := ?_) (by rfl) (by kernel_rfl) (by exact fun _ _ _ h => h) (by rfl) ?_ S0.out ?_
      rotate_left
      · intro w hSw
        try dsimp only at hSw
        go_simp
        try with_reducible rfl
      try simp only [Act.put, List.setIfInBounds_toArray, List.set_cons_zero, List.set_cons_succ]
      refine until_take 1 (v := ?_) (by rfl) (by kernel_rfl) (by exact fun _ _ _ h => h) (by rfl) ?_ S0.out ?_
      rotate_left
      · intro w hSw
        try dsimp only at hSw
        go_simp
        try with_reducible rfl
      try simp only [Act.put, List.setIfInBounds_toArray, List.set_cons_zero, List.set_cons_succ]
      refine until_take 2 (v := ?_) (by rfl) (by kernel_rfl) (by exact fun _ _ _ h => h) (by rfl) ?_ S0.out ?_
      rotate_left
      · intro w hSw
        try dsimp only at hSw
        go_simp
        try with_reducible rfl
      try simp only [Act.put, List.setIfInBounds_toArray, List.set_cons_zero, List.set_cons_succ]
      refine until_take 3 (v := ?_) (by rfl) (by kernel_rfl) (by exact fun _ _ _ h => h) (by rfl) ?_ S0.out ?_
      rotate_left
      · intro w hSw
        try dsimp only at hSw
        go_simp
        try with_reducible rfl
      try simp only [Act.put, List.setIfInBounds_toArray, List.set_cons_zero, List.set_cons_succ]
      refine until_take 4 (v := ?_) (by rfl) (by kernel_rfl) (by exact fun _ _ _ h => h) (by rfl) ?_ S0.out ?_
      rotate_left
      · intro w hSw
        try dsimp only at hSw
        go_simp
        try with_reducible rfl
      try simp only [Act.put, List.setIfInBounds_toArray, List.set_cons_zero, List.set_cons_succ]
      refine until_take 5 (v := ?_) (by rfl) (by kernel_rfl) (by exact fun _ _ _ h => h) (by rfl) ?_ S0.out ?_
      rotate_left
      · intro w hSw
        try dsimp only at hSw
        go_simp
        try with_reducible rfl
      try simp only [Act.put, List.setIfInBounds_toArray, List.set_cons_zero, List.set_cons_succ]
      refine until_take 6 (v := ?_) (by rfl) (by kernel_rfl) (by exact fun _ _ _ h => h) (by rfl) ?_ S0.out ?_
      rotate_left
      · intro w hSw
        try dsimp only at hSw
        go_simp
        try with_reducible rfl
      try simp only [Act.put, List.setIfInBounds_toArray, List.set_cons_zero, List.set_cons_succ]
      refine until_take 7 (v := ?_) (by rfl) (by kernel_rfl) (by exact fun _ _ _ h => h) (by rfl) ?_ S0.out ?_
      rotate_left
      · intro w hSw
        try dsimp only at hSw
        go_simp
        try with_reducible rfl
      try simp only [Act.put, List.setIfInBounds_toArray, List.set_cons_zero, List.set_cons_succ]
      refine until_take 8 (v := ?_) (by rfl) (by kernel_rfl) (by exact fun _ _ _ h => h) (by rfl) ?_ S0.out ?_
      rotate_left
      · intro w hSw
        try dsimp only at hSw
        go_simp
        try with_reducible rfl
      try simp only [Act.put, List.setIfInBounds_toArray, List.set_cons_zero, List.set_cons_succ]
      refine until_take 9 (v := ?_) (by rfl) (by kernel_rfl) (by exact fun _ _ _ h => h) (by rfl) ?_ S0.out ?_
      rotate_left
      · intro w hSw
        try dsimp only at hSw
        go_simp
        try with_reducible rfl
      try simp only [Act.put, List.setIfInBounds_toArray, List.set_cons_zero, List.set_cons_succ]
      refine until_take 10 (v := ?_) (by rfl) (by kernel_rfl) (by exact fun _ _ _ h => h) (by rfl) ?_ S0.out ?_
      rotate_left
      · intro w hSw
        try dsimp only at hSw
        go_simp
        try with_reducible rfl
      try simp only [Act.put, List.setIfInBounds_toArray, List.set_cons_zero, List.set_cons_succ]
      refine until_one 11 (by rfl) (by kernel_rfl) (fun K hK => ?_)
      go_simp
      go_wp2_with fail
      refine hK.out _ _ (fun h => absurd h (by decide)) ?_
      clear hK K
      try simp only [Act.put, List.setIfInBounds_toArray, List.set_cons_zero, List.set_cons_succ]
      refine until_done (by kernel_rfl) ?_ _
      go_wp2_with fail
      go_roundw
      case rel => exact ⟨k + 1, by omega, by omega, by go_num, HS.out, (HB1.out.setCell (p := ⟨g, off + k, none⟩) HG.out (.int .i64 (x + y))).drew⟩
      case measure => simp [intOf]; omega
    · clear hN1
      have q2 : (m : Int) ≤ (k : Int) := by omega
      go_wp2_with fail
      have h := HN1.out
      rw [mix_all _ _ _ (by rw [HL.out]; omega)] at h
      exact bodyPost_end (v := .tuple #[]) (by simp [results, go_sem]) rfl ⟨⟨_, rfl⟩, h, HB1.out⟩
end Go.Proofs.YthgiekeiljflaaaDoor
