/- BtRow BtDef BtMath BkMath PtLaw PtArg SrRow SrAid OpDef PtOk UntilS -/
import Derived.Test.YtifmjdakefkbiaaGreatDoorRows
import Derived.Test.YtifmjdakefkbiaaGreatDoorQt0
import Derived.Test.YtifmjdakefkbiaaGreatDoorQt2
import Derived.Test.YtifmjdakefkbiaaGreatDoorQt1
import Derived.WalkKit
import Derived.ProofKit
import Derived.OpenShut
import Derived.Below
import Derived.WalkSmall
import Derived.WalkLawsBesides
import Derived.Outline
import Derived.BigQuiet
import Derived.Deep.QuietTactic
import Derived.Deep.RegionWith
import Derived.Deep.Slices
import Derived.ChangeArms
open List (setIfInBounds_toArray set_cons_zero set_cons_succ)
namespace Go.Proofs.YtifmjdakefkbiaaGreatDoor
open Go.ChangeShapes Go.WideShapes Go.ChangeAt Go.RowKit Go.PlainAid
set_option linter.unusedVariables false
def mix (f : Nat → Int) (v : List Int) (m : Nat) : List Int := (List.range v.length).map fun i => if i < m then f i else v.getD i 0
theorem mix_length (f : Nat → Int) (v : List Int) (m : Nat) : (mix f v m).length = v.length := by simp [mix]
theorem mix_get (f : Nat → Int) (v : List Int) (m j : Nat) (h : j < v.length) : (mix f v m).getD j 0 = if j < m then f j else v.getD j 0 := by
 unfold mix
 rw [List.getD_eq_getElem?_getD, List.getElem?_map, List.getElem?_range h]
 rfl
theorem mix_set (f : Nat → Int) (v : List Int) (m : Nat) (h : m < v.length) : (mix f v m).set m (f m) = mix f v (m + 1) := by
 apply nums_ext
 ·rw [List.length_set, mix_length, mix_length]
 ·intro j hj
  rw [List.length_set, mix_length] at hj
  rw [mix_get f v (m + 1) j hj]
  by_cases e : m = j
  ·subst e
   rw [getD_set_same _ _ _ (by rw [mix_length]; exact h), if_pos (by omega)]
  ·rw [getD_set_ne _ _ _ _ e, mix_get f v m j hj]
   by_cases h2 : j < m
   ·rw [if_pos h2, if_pos (by omega)]
   ·rw [if_neg h2, if_neg (by omega)]
theorem mix_start (f : Nat → Int) (v : List Int) (m : Nat) (h : ∀ i, i < m → i < v.length → f i = v.getD i 0) : mix f v m = v := by
 apply nums_ext
 ·rw [mix_length]
 ·intro j hj
  rw [mix_length] at hj
  rw [mix_get f v m j hj]
  split
  ·exact h j (by assumption) hj
  ·rfl
def rowOf (f : Nat → Int) (n : Nat) : List Int := (List.range n).map f
theorem rowOf_length (f : Nat → Int) (n : Nat) : (rowOf f n).length = n := by simp [rowOf]
theorem rowOf_get (f : Nat → Int) (n j : Nat) (h : j < n) : (rowOf f n).getD j 0 = f j := by simp [rowOf, List.getD, h]
theorem rowOf_succ (f : Nat → Int) (n : Nat) : rowOf f (n + 1) = rowOf f n ++ [f n] := by simp [rowOf, List.range_succ]
theorem mix_all (f : Nat → Int) (v : List Int) (m : Nat) (h : v.length ≤ m) : mix f v m = rowOf f v.length := by
 apply nums_ext
 ·rw [mix_length, rowOf_length]
 ·intro j hj
  rw [mix_length] at hj
  rw [mix_get f v m j hj, rowOf_get f _ j hj, if_pos (by omega)]
def uzF (off : Nat) (v : List Int) (i : Nat) : Int := if off ≤ i then unz (v.getD i 0) else v.getD i 0
def auF (off : Nat) (v : List Int) : Nat → Int
 | 0 => v.getD 0 0
 | i + 1 => if i + 1 ≤ off then v.getD (i + 1) 0 else auF off v i + v.getD (i + 1) 0
theorem auF_le (off : Nat) (v : List Int) (i : Nat) (h : i ≤ off) : auF off v i = v.getD i 0 := by
 cases i with
 | zero => rfl
 | succ i => rw [auF, if_pos h]
theorem auF_gt (off : Nat) (v : List Int) (i : Nat) (h : off < i) : auF off v i = auF off v (i - 1) + v.getD i 0 := by
 cases i with
 | zero => omega
 | succ i => rw [auF, if_neg (by omega)]; rfl
set_option maxHeartbeats 1000000 in
theorem unzigAllV (off m : Nat) (l : List Int) (g cap base n : Nat) (A : Option Addr) (c : Nat) (w : World) (hN : Nums w base (.slice (some ⟨g, 0, none⟩) n cap) l) (hl : l.length = off + m) (hA : 0 < m → A = some ⟨g, off, none⟩) (hm : m ≤ 1000) (hg : base ≤ g)
  (hb : ∀ j, -9223372036854775808 ≤ l.getD j 0 ∧ l.getD j 0 ≤ 9223372036854775807) :
  Calls Tryz.prog 154 #[.slice A m c] w fun e w' => (∃ u, e = .returned u) ∧ Nums w' base (.slice (some ⟨g, 0, none⟩) n cap) (rowOf (uzF off l) l.length) ∧ Below base w w' := by
 have HN : Hid (Nums w base (.slice (some ⟨g, 0, none⟩) n cap) l) := hN
 have HL : Hid (l.length = off + m) := hl
 have HA : Hid (0 < m → A = some ⟨g, off, none⟩) := hA
 have HG : Hid (base ≤ g) := hg
 have HB : Hid (∀ j, -9223372036854775808 ≤ l.getD j 0 ∧ l.getD j 0 ≤ 9223372036854775807) := hb
 have q1 : (m : Int) ≤ 1000 := by omega
 clear hN hl hA hg hb
 go_enter Tryz.func154, Tryz.ntmps154
 go_wp2_with fail
 go_loopw [6] (fun v6 wr => ∃ k : Nat, k ≤ m ∧ v6 = .int .i64 (k : Int) ∧ Nums wr base (.slice (some ⟨g, 0, none⟩) n cap) (mix (uzF off l) l (off + k)) ∧ Below base w wr) (fun i _ => m - (intOf i).toNat)
 case atStart =>
  refine ⟨0, by omega, rfl, ?_, Below.refl _ _⟩
  rw [mix_start _ _ _ (fun i hi _ => by unfold uzF; rw [if_neg (by omega)])]
  exact HN.out
 case round =>
  obtain ⟨k, hk, rfl, hN1, hb1⟩ := hrel
  have HB1 : Hid (Below base w wr) := hb1
  have HN1 : Hid (Nums wr base (.slice (some ⟨g, 0, none⟩) n cap) (mix (uzF off l) l (off + k))) := hN1
  clear hb1
  by_cases hlt : k < m
  ·have q2 : (k : Int) < (m : Int) := by omega
   have hA := HA.out (by omega)
   subst hA
   have hkl : off + k < l.length := by rw [HL.out]; omega
   have e1 := hN1.cell (off + k) (by rw [mix_length]; exact hkl)
   rw [mix_get _ _ _ _ hkl, if_neg (by omega)] at e1
   have e2 := hN1.frozen (off + k)
   have hbk := HB.out (off + k)
   have cu := fun wx => impl_unz (l.getD (off + k) 0) wx hbk.1 hbk.2
   have hS := hN1.stored (off + k) (unz (l.getD (off + k) 0))
   rw [show unz (l.getD (off + k) 0) = uzF off l (off + k) by unfold uzF; rw [if_pos (by omega)], mix_set _ _ _ hkl] at hS
   rw [show uzF off l (off + k) = unz (l.getD (off + k) 0) by unfold uzF; rw [if_pos (by omega)]] at hS
   have HS : Hid (Nums (wr.setCell ⟨g, off + k, none⟩ (.int .i64 (unz (l.getD (off + k) 0)))) base (.slice (some ⟨g, 0, none⟩) n cap) (mix (uzF off l) l (off + k + 1))) := hS
   clear hS hN1 hkl hbk
   generalize zok (l.getD (off + k) 0) = zk at *
   generalize unz (l.getD (off + k) 0) = y at *
   generalize l.getD (off + k) 0 = x at *
   go_wp2_with fail
   refine (cu _).mono ?_
   rintro e w1 ⟨rfl, rfl⟩
   go_wp2_with fail
   go_roundw
   case rel => exact ⟨k + 1, by omega, by go_num, HS.out, HB1.out.setCell HG.out _⟩
   case measure => simp [intOf]; omega
  ·obtain rfl : k = m := by omega
   clear hN1
   go_wp2_with fail
   have h := HN1.out
   rw [mix_all _ _ _ (by rw [HL.out]; omega)] at h
   exact bodyPost_end (v := .tuple #[]) (by simp [results, go_sem]) rfl ⟨⟨_, rfl⟩, h, HB1.out⟩
set_option maxHeartbeats 1000000 in
theorem addUpV (off m : Nat) (l : List Int) (g cap base n : Nat) (A : Option Addr) (c : Nat) (w : World) (hN : Nums w base (.slice (some ⟨g, 0, none⟩) n cap) l) (hl : l.length = off + m) (hA : 0 < m → A = some ⟨g, off, none⟩) (hm : m ≤ 1000) (hg : base ≤ g)
  (hb : ∀ j, j < l.length → -4611686018427387904 ≤ auF off l j ∧ auF off l j ≤ 4611686018427387904) :
  Calls Tryz.prog 155 #[.slice A m c] w fun e w' => (∃ u, e = .returned u) ∧ Nums w' base (.slice (some ⟨g, 0, none⟩) n cap) (rowOf (auF off l) l.length) ∧ Below base w w' := by
 have HN : Hid (Nums w base (.slice (some ⟨g, 0, none⟩) n cap) l) := hN
 have HL : Hid (l.length = off + m) := hl
 have HA : Hid (0 < m → A = some ⟨g, off, none⟩) := hA
 have HG : Hid (base ≤ g) := hg
 have HB : Hid (∀ j, j < l.length → -4611686018427387904 ≤ auF off l j ∧ auF off l j ≤ 4611686018427387904) := hb
 have q1 : (m : Int) ≤ 1000 := by omega
 clear hN hl hA hg hb
 go_enter Tryz.func155, Tryz.ntmps155
 go_wp2_with fail
 go_loopw [2] (fun v2 wr => ∃ k : Nat, 1 ≤ k ∧ (k ≤ m ∨ k = 1) ∧ v2 = .int .i64 (k : Int) ∧ Nums wr base (.slice (some ⟨g, 0, none⟩) n cap) (mix (auF off l) l (off + k)) ∧ Below base w wr) (fun i _ => m - (intOf i).toNat)
 case atStart =>
  refine ⟨1, by omega, by omega, rfl, ?_, Below.refl _ _⟩
  rw [mix_start _ _ _ (fun i hi _ => auF_le off l i (by omega))]
  exact HN.out
 case round =>
  obtain ⟨k, hk1, hk, rfl, hN1, hb1⟩ := hrel
  have HB1 : Hid (Below base w wr) := hb1
  have HN1 : Hid (Nums wr base (.slice (some ⟨g, 0, none⟩) n cap) (mix (auF off l) l (off + k))) := hN1
  clear hb1
  by_cases hlt : k < m
  ·have q2 : (k : Int) < (m : Int) := by omega
   have q3 : (1 : Int) ≤ (k : Int) := by omega
   have hA := HA.out (by omega)
   subst hA
   have hkl : off + k < l.length := by rw [HL.out]; omega
   have e1 := hN1.cell (off + k) (by rw [mix_length]; exact hkl)
   rw [mix_get _ _ _ _ hkl, if_neg (by omega)] at e1
   have e0 := hN1.cell (off + (k - 1)) (by rw [mix_length]; omega)
   rw [mix_get _ _ _ _ (by omega), if_pos (by omega)] at e0
   have e2 := hN1.frozen (off + k)
   have hbk := HB.out (off + k) hkl
   have hbj := HB.out (off + (k - 1)) (by omega)
   have ef := auF_gt off l (off + k) (by omega)
   rw [show off + k - 1 = off + (k - 1) by omega] at ef
   have hS := hN1.stored (off + k) (auF off l (off + k))
   rw [mix_set _ _ _ hkl] at hS
   have ef2 : auF off l (off + k) = l.getD (off + k) 0 + auF off l (off + (k - 1)) := by omega
   rw [ef2] at hS hbk
   have HS : Hid (Nums (wr.setCell ⟨g, off + k, none⟩ (.int .i64 (l.getD (off + k) 0 + auF off l (off + (k - 1))))) base (.slice (some ⟨g, 0, none⟩) n cap) (mix (auF off l) l (off + k + 1))) := hS
   clear hS hN1 hkl ef ef2
   generalize auF off l (off + (k - 1)) = y at *
   generalize l.getD (off + k) 0 = x at *
   have g1 : IntKind.i64.wrap ((k : Int) - 1) = (k : Int) - 1 := by rw [IntKind.wrap_i64]; omega
   have g3 : (0 : Int) ≤ (k : Int) - 1 := by omega
   have g4 : (k : Int) - 1 < (m : Int) := by omega
   have g5 : ((k : Int) - 1).toNat = k - 1 := by omega
   have g7 : IntKind.i64.wrap (x + y) = x + y := by rw [IntKind.wrap_i64]; omega
   have S0 : Hid (wr.cell? ⟨g, off + k, none⟩ = some (.int .i64 x) ∧ wr.cell? ⟨g, off + (k - 1), none⟩ = some (.int .i64 y)) := ⟨e1, e0⟩
   go_wp2_with fail
   refine wp_region_until (fun w' => w'.cell? ⟨g, off + k, none⟩ = some (.int .i64 x) ∧ w'.cell? ⟨g, off + (k - 1), none⟩ = some (.int .i64 y)) (fun i => i == 11) 12 (by rfl) (by kernel_rfl) ?_
   refine tKf 0 S0.out ?_
   refine tKf 1 S0.out ?_
   refine tKf 2 S0.out ?_
   refine tKf 3 S0.out ?_
   refine tKf 4 S0.out ?_
   refine tKf 5 S0.out ?_
   refine tKf 6 S0.out ?_
   refine tKf 7 S0.out ?_
   refine tKf 8 S0.out ?_
   refine tKf 9 S0.out ?_
   refine tKf 10 S0.out ?_
   refine uNe 11 (fun K hK => ?_)
   go_simp
   go_wp2_with fail
   refine hK.out _ _ (fun h => absurd h (by decide)) ?_
   clear hK K
   try simp only [Act.put, zQ1, zQ2, zQ3]
   refine until_done (by kernel_rfl) ?_ _
   go_wp2_with fail
   go_roundw
   case rel => exact ⟨k + 1, by omega, by omega, by go_num, HS.out, (HB1.out.setCell (p := ⟨g, off + k, none⟩) HG.out (.int .i64 (x + y))).drew⟩
   case measure => simp [intOf]; omega
  ·clear hN1
   have q2 : (m : Int) ≤ (k : Int) := by omega
   go_wp2_with fail
   have h := HN1.out
   rw [mix_all _ _ _ (by rw [HL.out]; omega)] at h
   exact bodyPost_end (v := .tuple #[]) (by simp [results, go_sem]) rfl ⟨⟨_, rfl⟩, h, HB1.out⟩
end Go.Proofs.YtifmjdakefkbiaaGreatDoor
namespace Go.Proofs.YtifmjdakefkbiaaGreatDoor
open Go.RowKit Go.PlainAid
def rv (v : List Int) : Nat → Int
 | 0 => unz (v.getD 0 0)
 | i + 1 => rv v i + unz (v.getD (i + 1) 0)
def rowV (v : List Int) : List Int := rowOf (rv v) v.length
def gp (v : List Int) : Nat → Int
 | 0 => 0
 | i + 1 => gp v i + if i = 0 then v.getD 1 0 else unz (v.getD (i + 1) 0)
def rt (v : List Int) : Nat → Int
 | 0 => v.getD 0 0
 | i + 1 => rt v i + gp v (i + 1)
def rowT (v : List Int) : List Int := rowOf (rt v) v.length
theorem rv_bound (v : List Int) (i : Nat) : -140737488355328 * ((i : Int) + 1) ≤ rv v i ∧ rv v i ≤ 140737488355328 * ((i : Int) + 1) := by
 induction i with
 | zero => have := unz_range (v.getD 0 0); unfold rv; omega
 | succ i ih => have := unz_range (v.getD (i + 1) 0); unfold rv; omega
theorem gp_bound (v : List Int) (hv : ∀ j, 0 ≤ v.getD j 0 ∧ v.getD j 0 ≤ 562949953421311) (i : Nat) : -140737488355328 * (i : Int) ≤ gp v i ∧ gp v i ≤ 562949953421311 + 140737488355328 * (i : Int) := by
 induction i with
 | zero => unfold gp; omega
 | succ i ih =>
  have h1 := hv 1
  have h2 := unz_range (v.getD (i + 1) 0)
  by_cases h0 : i = 0
  ·subst h0
   rw [gp, if_pos rfl]
   have : gp v 0 = 0 := rfl
   omega
  ·rw [gp, if_neg h0]
   omega
theorem rt_bound (v : List Int) (hv : ∀ j, 0 ≤ v.getD j 0 ∧ v.getD j 0 ≤ 562949953421311) (i : Nat) (hi : i ≤ 60) : -9007199254740992 * ((i : Int) + 1) ≤ rt v i ∧ rt v i ≤ 9007199254740992 * ((i : Int) + 1) := by
 induction i with
 | zero => have := hv 0; unfold rt; omega
 | succ i ih =>
  have := gp_bound v hv (i + 1)
  have := ih (by omega)
  unfold rt
  omega
theorem rowV_made (v : List Int) : rowOf (auF 0 (rowOf (uzF 0 v) v.length)) v.length = rowV v := by
 have key : ∀ i, i < v.length → auF 0 (rowOf (uzF 0 v) v.length) i = rv v i := by
  intro i
  induction i with
  | zero =>
   intro h
   rw [auF, rowOf_get _ _ _ h]
   rfl
  | succ i ih =>
   intro h
   rw [auF_gt _ _ _ (by omega), Nat.add_sub_cancel, ih (by omega), rowOf_get _ _ _ h]
   rfl
 apply nums_ext
 ·rw [rowOf_length, rowV, rowOf_length]
 ·intro j hj
  rw [rowOf_length] at hj
  rw [rowOf_get _ _ _ hj, rowV, rowOf_get _ _ _ hj, key j hj]
theorem gaps_made (v : List Int) (hv : 1 ≤ v.length) (i : Nat) (hi : i < v.length) (h1 : 1 ≤ i) : auF 1 (rowOf (uzF (min 2 v.length) v) v.length) i = gp v i := by
 induction i with
 | zero => omega
 | succ i ih =>
  by_cases h0 : i = 0
  ·subst h0
   rw [auF_le _ _ _ (by omega), rowOf_get _ _ _ hi]
   unfold uzF
   rw [if_neg (by omega)]
   simp [gp]
  ·rw [auF_gt _ _ _ (by omega), Nat.add_sub_cancel, ih (by omega) (by omega), rowOf_get _ _ _ hi]
   conv => rhs; unfold gp
   rw [if_neg h0]
   unfold uzF
   rw [if_pos (by omega)]
theorem gaps_zero (v : List Int) (hv : 1 ≤ v.length) : auF 1 (rowOf (uzF (min 2 v.length) v) v.length) 0 = v.getD 0 0 := by
 rw [auF, rowOf_get _ _ _ (by omega)]
 unfold uzF
 rw [if_neg (by omega)]
theorem times_made (v : List Int) (hv : 1 ≤ v.length) (i : Nat) (hi : i < v.length) : auF 0 (rowOf (auF 1 (rowOf (uzF (min 2 v.length) v) v.length)) v.length) i = rt v i := by
 induction i with
 | zero =>
  rw [auF, rowOf_get _ _ _ hi, gaps_zero v hv]
  rfl
 | succ i ih =>
  rw [auF_gt _ _ _ (by omega), Nat.add_sub_cancel, ih (by omega), rowOf_get _ _ _ hi, gaps_made v hv _ hi (by omega)]
  rfl
theorem rowT_made (v : List Int) (hv : 1 ≤ v.length) : rowOf (auF 0 (rowOf (auF 1 (rowOf (uzF (min 2 v.length) v) v.length)) v.length)) v.length = rowT v := by
 apply nums_ext
 ·rw [rowOf_length, rowT, rowOf_length]
 ·intro j hj
  rw [rowOf_length] at hj
  rw [rowOf_get _ _ _ hj, rowT, rowOf_get _ _ _ hj, times_made v hv j hj]
def RdAns (shw : List Int → ByteArray) (row : List Int → List Int) (s : ByteArray) (n : Int) (l : List Int) (k : Nat) : Prop :=
 (∃ (m : Nat) (v : List Int), n = (m : Int) ∧ 1 ≤ m ∧ m ≤ 60 ∧ Rd s m v k ∧ shw (row v) = s.extract 0 k ∧ l = row v) ∨
 ((∀ (m : Nat) (v : List Int) (u : Nat), n = (m : Int) → 1 ≤ m → m ≤ 60 → Rd s m v u → shw (row v) ≠ s.extract 0 u) ∧ l = [] ∧ k = 0)
theorem RdAns.one {shw : List Int → ByteArray} {row : List Int → List Int} {s : ByteArray} {n : Int} {l l' : List Int} {k k' : Nat} (h : RdAns shw row s n l k) (h' : RdAns shw row s n l' k') : l = l' ∧ k = k' := by
 rcases h with ⟨m, v, h1, h2, h3, h4, h5, h6⟩ | ⟨h1, h2, h3⟩ <;> rcases h' with ⟨m', v', h1', h2', h3', h4', h5', h6'⟩ | ⟨h1', h2', h3'⟩
 ·obtain rfl : m = m' := by omega
  obtain ⟨rfl, rfl⟩ := h4.one h4'
  exact ⟨h6.trans h6'.symm, rfl⟩
 ·exact absurd h5 (h1' m v k h1 h2 h3 h4)
 ·exact absurd h5' (h1 m' v' k' h1' h2' h3' h4')
 ·exact ⟨h2.trans h2'.symm, h3.trans h3'.symm⟩
theorem extract_ne (s : ByteArray) (u : Nat) (h1 : 1 ≤ u) (h2 : u ≤ s.size) : txt [] ≠ s.extract 0 u := by
 intro h
 have := congrArg ByteArray.size h
 rw [ByteArray.size_extract, txt_size] at this
 simp at this
 omega
theorem rowV_length (v : List Int) : (rowV v).length = v.length := by rw [rowV, rowOf_length]
theorem rowT_length (v : List Int) : (rowT v).length = v.length := by rw [rowT, rowOf_length]
theorem showV_out (v : List Int) (j : Nat) (hj : j < v.length) (h : rv v j < -1099511627776 ∨ 1099511627776 < rv v j) : showV (rowV v) = txt [] := by
 unfold showV
 rw [if_neg]
 intro ho
 have := ho.2.2 j (by rw [rowV_length]; exact hj)
 rw [rowV, rowOf_get _ _ _ hj] at this
 omega
theorem showT_out (v : List Int) (j : Nat) (hj : j < v.length) (h : rt v j < 0 ∨ 1099511627776 < rt v j) : showT (rowT v) = txt [] := by
 unfold showT
 rw [if_neg]
 intro ho
 have := (ho.2.2 j (by rw [rowT_length]; exact hj)).1
 rw [rowT, rowOf_get _ _ _ hj] at this
 omega
theorem RdAns.few {shw : List Int → ByteArray} {row : List Int → List Int} {s : ByteArray} {m : Nat} (h : RdNo s m) : RdAns shw row s (m : Int) [] 0 := by
 refine .inr ⟨fun m' v u e _ _ hr => ?_, rfl, rfl⟩
 obtain rfl : m = m' := by omega
 exact absurd h hr.no
theorem RdAns.none {shw : List Int → ByteArray} {row : List Int → List Int} {s : ByteArray} {n : Int} (h : n < 1 ∨ 60 < n) : RdAns shw row s n [] 0 :=
 .inr ⟨fun m' v u e _ _ hr => by omega, rfl, rfl⟩
theorem RdAns.other {shw : List Int → ByteArray} {row : List Int → List Int} {s : ByteArray} {m : Nat} {v : List Int} {u : Nat} (hr : Rd s m v u) (h : shw (row v) ≠ s.extract 0 u) : RdAns shw row s (m : Int) [] 0 := by
 refine .inr ⟨fun m' v' u' e _ _ hr' => ?_, rfl, rfl⟩
 obtain rfl : m = m' := by omega
 obtain ⟨rfl, rfl⟩ := hr.one hr'
 exact h
theorem RdAns.yes {shw : List Int → ByteArray} {row : List Int → List Int} {s : ByteArray} {m : Nat} {v : List Int} {u : Nat} (h1 : 1 ≤ m) (h2 : m ≤ 60) (hr : Rd s m v u) (h : shw (row v) = s.extract 0 u) : RdAns shw row s (m : Int) (row v) u :=
 .inl ⟨m, v, rfl, h1, h2, hr, h, rfl⟩
theorem RdAns.short {shw : List Int → ByteArray} {row : List Int → List Int} {s : ByteArray} {n : Int} {l : List Int} {k : Nat} (hrow : ∀ v, (row v).length = v.length) (h : RdAns shw row s n l k) : l.length ≤ 60 ∧ k ≤ s.size := by
 rcases h with ⟨m, v, h1, h2, h3, h4, h5, h6⟩ | ⟨_, rfl, rfl⟩
 ·rw [h6, hrow, h4.length]
  exact ⟨h3, h4.le.2⟩
 ·simp
theorem bytes_ne {a b : ByteArray} (h : a ≠ b) : (a.toList == b.toList) = false := by
 rw [beq_eq_false_iff_ne]
 intro e
 apply h
 rw [Lib.toList_data, Lib.toList_data] at e
 cases a
 cases b
 simp only at e
 congr 1
 exact Array.ext' e
theorem bytes_eq {a b : ByteArray} (h : a = b) : (a.toList == b.toList) = true := by rw [h]; simp
end Go.Proofs.YtifmjdakefkbiaaGreatDoor
namespace Go.Proofs.YtifmjdakefkbiaaGreatDoor
open Go.RowKit Go.PlainAid
theorem cat_split (f : Nat → List UInt8) (k n : Nat) (hk : k < n) : ∃ rest, cat f n = cat f k ++ (f k ++ rest) := by
 induction n with
 | zero => omega
 | succ n ih =>
  by_cases e : k = n
  ·subst e
   exact ⟨[], by rw [cat_succ, List.append_nil]⟩
  ·obtain ⟨rest, h⟩ := ih (by omega)
   exact ⟨rest ++ f n, by rw [cat_succ, h]; simp⟩
theorem extract_back (a b : List UInt8) : (txt (a ++ b)).extract a.length (txt (a ++ b)).size = txt b := by
 rw [txt_size]
 apply ByteArray.ext
 apply Array.toList_inj.1
 rw [Lib.extract_data]
 simp [txt]
theorem extract_front (a b : List UInt8) : (txt (a ++ b)).extract 0 a.length = txt a := by
 apply ByteArray.ext
 apply Array.toList_inj.1
 rw [Lib.extract_data]
 simp [txt]
theorem rd_cat (x : Nat → Nat) (n : Nat) (hx : ∀ i, i < n → x i ≤ 562949953421311) (tl : List UInt8) (k : Nat) (hk : k ≤ n) : Rd (txt (cat (fun i => vF 6 (x i)) n ++ tl)) k (rowOf (fun i => (x i : Int)) k) (cat (fun i => vF 6 (x i)) k).length := by
 induction k with
 | zero => exact ⟨rfl, rfl⟩
 | succ k ih =>
  obtain ⟨rest, h⟩ := cat_split (fun i => vF 6 (x i)) k n (by omega)
  have e : txt (cat (fun i => vF 6 (x i)) n ++ tl) = txt (cat (fun i => vF 6 (x i)) k ++ (vF 6 (x k) ++ (rest ++ tl))) := by rw [h]; simp
  have hf := find_var (x k) (rest ++ tl) (hx k (by omega))
  refine ⟨_, _, (vF 6 (x k)).length, ih (by omega), ?_, ?_, ?_⟩
  ·rw [e, extract_back]
   exact hf.1
  ·rw [e, extract_back, hf.2, rowOf_succ]
  ·rw [cat_succ, List.length_append]
theorem rowOf_ext (f g : Nat → Int) (n : Nat) (h : ∀ i, i < n → f i = g i) : rowOf f n = rowOf g n := by
 apply nums_ext
 ·rw [rowOf_length, rowOf_length]
 ·intro j hj
  rw [rowOf_length] at hj
  rw [rowOf_get _ _ _ hj, rowOf_get _ _ _ hj, h j hj]
theorem gp_turn (l : List Int) (h : TOk l) (i : Nat) (h1 : 1 ≤ i) (hi : i < l.length) : gp (rowOf (turn l) l.length) i = dif l i := by
 induction i with
 | zero => omega
 | succ i ih =>
  by_cases h0 : i = 0
  ·subst h0
   rw [gp, if_pos rfl, rowOf_get _ _ _ hi]
   have : gp (rowOf (turn l) l.length) 0 = 0 := rfl
   rw [this]
   unfold turn
   rw [if_pos (by omega)]
   omega
  ·rw [gp, if_neg h0, ih (by omega) (by omega), rowOf_get _ _ _ hi]
   have d1 := h.dif (i + 1) hi
   have d2 := h.dif i (by omega)
   unfold turn
   rw [if_neg (by omega), Nat.add_sub_cancel, unz_zig _ (by omega) (by omega)]
   omega
theorem rt_turn (l : List Int) (h : TOk l) (i : Nat) (hi : i < l.length) : rt (rowOf (turn l) l.length) i = l.getD i 0 := by
 induction i with
 | zero =>
  rw [rt, rowOf_get _ _ _ hi]
  unfold turn dif prv
  simp
 | succ i ih =>
  rw [rt, ih (by omega), gp_turn l h (i + 1) (by omega) hi]
  unfold dif
  rw [prv_succ]
  omega
theorem rowT_turn (l : List Int) (h : TOk l) : rowT (rowOf (turn l) l.length) = l := by
 unfold rowT
 rw [rowOf_length]
 apply nums_ext
 ·rw [rowOf_length]
 ·intro j hj
  rw [rowOf_length] at hj
  rw [rowOf_get _ _ _ hj, rt_turn l h j hj]
theorem readT_back (l : List Int) (h : TOk l) (tl : List UInt8) : RdAns showT rowT (txt (cat (tPiece l) l.length ++ tl)) (l.length : Int) l (cat (tPiece l) l.length).length := by
 have hr := rd_cat (fun i => (turn l i).toNat) l.length (fun i hi => by have := h.turn i hi; omega) tl l.length (Nat.le_refl _)
 rw [rowOf_ext (fun i => (((turn l i).toNat : Nat) : Int)) (turn l) l.length (fun i hi => Int.toNat_of_nonneg (h.turn i hi).1)] at hr
 have hy := RdAns.yes (shw := showT) (row := rowT) h.1 h.2.1 hr (by rw [rowT_turn l h]; unfold showT; rw [if_pos h]; exact (extract_front _ _).symm)
 rw [rowT_turn l h] at hy
 exact hy
theorem rv_zig (l : List Int) (h : VOk l) (i : Nat) (hi : i < l.length) : rv (rowOf (fun i => zig (dif l i)) l.length) i = l.getD i 0 := by
 induction i with
 | zero =>
  have d := h.dif 0 hi
  rw [rv, rowOf_get _ _ _ hi, unz_zig _ (by omega) (by omega)]
  unfold dif prv
  simp
 | succ i ih =>
  have d := h.dif (i + 1) hi
  rw [rv, ih (by omega), rowOf_get _ _ _ hi, unz_zig _ (by omega) (by omega)]
  unfold dif
  rw [prv_succ]
  omega
theorem rowV_zig (l : List Int) (h : VOk l) : rowV (rowOf (fun i => zig (dif l i)) l.length) = l := by
 unfold rowV
 rw [rowOf_length]
 apply nums_ext
 ·rw [rowOf_length]
 ·intro j hj
  rw [rowOf_length] at hj
  rw [rowOf_get _ _ _ hj, rv_zig l h j hj]
theorem readV_back (l : List Int) (h : VOk l) (tl : List UInt8) : RdAns showV rowV (txt (cat (vPiece l) l.length ++ tl)) (l.length : Int) l (cat (vPiece l) l.length).length := by
 have hz : ∀ i, i < l.length → 0 ≤ zig (dif l i) := fun i hi => zig_pos _ (by have := h.dif i hi; omega) (by have := h.dif i hi; omega)
 have hr := rd_cat (fun i => (zig (dif l i)).toNat) l.length (fun i hi => by have := (zig_range (dif l i)).2; omega) tl l.length (Nat.le_refl _)
 rw [rowOf_ext (fun i => (((zig (dif l i)).toNat : Nat) : Int)) (fun i => zig (dif l i)) l.length (fun i hi => Int.toNat_of_nonneg (hz i hi))] at hr
 have hy := RdAns.yes (shw := showV) (row := rowV) h.1 h.2.1 hr (by rw [rowV_zig l h]; unfold showV; rw [if_pos h]; exact (extract_front _ _).symm)
 rw [rowV_zig l h] at hy
 exact hy
theorem showT_size (l : List Int) : (showT l).size ≤ 420 := by
 unfold showT
 split
 ·rename_i h
  rw [txt_size]
  have := cat_length (tPiece l) (tPiece_length l) l.length
  have := h.2.1
  omega
 ·rw [txt_size]; simp
theorem showV_size (l : List Int) : (showV l).size ≤ 420 := by
 unfold showV
 split
 ·rename_i h
  rw [txt_size]
  have := cat_length (vPiece l) (vPiece_length l) l.length
  have := h.2.1
  omega
 ·rw [txt_size]; simp
theorem cat_pos (f : Nat → List UInt8) (n : Nat) (h1 : 1 ≤ n) (h : 1 ≤ (f 0).length) : 1 ≤ (cat f n).length := by
 obtain ⟨rest, e⟩ := cat_split f 0 n (by omega)
 rw [e, cat_zero, List.nil_append, List.length_append]
 omega
end Go.Proofs.YtifmjdakefkbiaaGreatDoor
namespace Go.Proofs.YtifmjdakefkbiaaGreatDoor
open Go.RowKit Go.PlainAid
def ts (l : List Pnt) : List Int := l.map fun p => p.t
def vs (l : List Pnt) : List Int := l.map fun p => p.v
theorem ts_length (l : List Pnt) : (ts l).length = l.length := by simp [ts]
theorem vs_length (l : List Pnt) : (vs l).length = l.length := by simp [vs]
theorem ts_get (l : List Pnt) (j : Nat) (h : j < l.length) : (ts l).getD j 0 = tAt l j := by
 rw [tAt, ← getD_at l j h]
 simp [ts, List.getD, h]
theorem vs_get (l : List Pnt) (j : Nat) (h : j < l.length) : (vs l).getD j 0 = vAt l j := by
 rw [vAt, ← getD_at l j h]
 simp [vs, List.getD, h]
theorem rows_of_ok {l : List Pnt} (h : POk l) (h1 : 1 ≤ l.length) : TOk (ts l) ∧ VOk (vs l) := by
 refine ⟨⟨by rw [ts_length]; exact h1, by rw [ts_length]; exact h.1, fun j hj => ?_⟩, by rw [vs_length]; exact h1, by rw [vs_length]; exact h.1, fun j hj => ?_⟩
 ·rw [ts_length] at hj
  rw [ts_get l j hj]
  refine ⟨(h.2 j hj).1.1, fun h0 => ?_⟩
  rw [ts_get l (j - 1) (by omega)]
  exact (h.2 j hj).2 h0
 ·rw [vs_length] at hj
  rw [vs_get l j hj]
  exact (h.2 j hj).1.2
theorem ok_of_rows {l : List Pnt} (h : TOk (ts l)) (h' : VOk (vs l)) : POk l := by
 refine ⟨by have := h.2.1; rwa [ts_length] at this, fun j hj => ?_⟩
 have h1 := h.2.2 j (by rw [ts_length]; exact hj)
 have h2 := h'.2.2 j (by rw [vs_length]; exact hj)
 rw [ts_get l j hj] at h1
 rw [vs_get l j hj] at h2
 refine ⟨⟨h1.1, h2⟩, fun h0 => ?_⟩
 have := h1.2 h0
 rwa [ts_get l (j - 1) (by omega)] at this
def zipP (t v : List Int) : List Pnt := List.zipWith Pnt.mk t v
theorem zipP_length (t v : List Int) : (zipP t v).length = min t.length v.length := by simp [zipP]
theorem zipP_rows : ∀ l : List Pnt, zipP (ts l) (vs l) = l
 | [] => rfl
 | p :: l => by
  have := zipP_rows l
  simp only [zipP, ts, vs, List.map_cons, List.zipWith_cons_cons] at this ⊢
  rw [this]
theorem ts_zip : ∀ (t v : List Int), t.length = v.length → ts (zipP t v) = t ∧ vs (zipP t v) = v
 | [], [], _ => ⟨rfl, rfl⟩
 | [], _ :: _, h => by simp at h
 | _ :: _, [], h => by simp at h
 | x :: t, y :: v, h => by
  have ih := ts_zip t v (by simpa using h)
  simp only [zipP, ts, vs, List.zipWith_cons_cons, List.map_cons] at ih ⊢
  rw [ih.1, ih.2]
  exact ⟨rfl, rfl⟩
theorem zipP_get (t v : List Int) (k : Nat) (h1 : k < t.length) (h2 : k < v.length) : (zipP t v).take (k + 1) = (zipP t v).take k ++ [⟨t.getD k 0, v.getD k 0⟩] := by
 have hk : k < (zipP t v).length := by rw [zipP_length]; omega
 rw [List.take_succ_eq_append_getElem hk]
 congr 2
 simp [zipP, List.getD, h1, h2]
def bodyB (l : List Pnt) : List UInt8 := vF 6 l.length ++ (cat (tPiece (ts l)) l.length ++ cat (vPiece (vs l)) l.length)
def showB (l : List Pnt) : ByteArray := if 1 ≤ l.length ∧ POk l then frame (txt (vF 6 l.length) ++ showT (ts l) ++ showV (vs l)) else txt []
theorem body_is {l : List Pnt} (h : POk l) (h1 : 1 ≤ l.length) : txt (vF 6 l.length) ++ showT (ts l) ++ showV (vs l) = txt (bodyB l) := by
 obtain ⟨ht, hv⟩ := rows_of_ok h h1
 unfold showT showV bodyB
 rw [if_pos ht, if_pos hv, ts_length, vs_length, txt_cat, txt_cat, List.append_assoc]
theorem bodyB_size {l : List Pnt} (h : POk l) : 1 ≤ (bodyB l).length ∧ (bodyB l).length ≤ 847 := by
 have h1 := vF_pos 6 l.length
 have h2 := vF_length 6 l.length
 have h3 := cat_length (tPiece (ts l)) (tPiece_length (ts l)) l.length
 have h4 := cat_length (vPiece (vs l)) (vPiece_length (vs l)) l.length
 have := h.1
 unfold bodyB
 simp only [List.length_append]
 omega
def Good (s : ByteArray) (l : List Pnt) : Prop := 1 ≤ l.length ∧ POk l ∧ showB l = s
theorem Good.frame {s : ByteArray} {l : List Pnt} (h : Good s l) : s = frameOf (txt (bodyB l)) := by
 obtain ⟨h1, h2, rfl⟩ := h
 have hb := bodyB_size h2
 rw [showB, if_pos ⟨h1, h2⟩, body_is h2 h1, Go.Proofs.YtifmjdakefkbiaaGreatDoor.frame, if_neg (by rw [txt_size]; omega)]
theorem Good.read {s : ByteArray} {l : List Pnt} (h : Good s l) : code s = 0 ∧ 8 + rdv s 4 = s.size ∧ bodyOf s = txt (bodyB l) := by
 have hf := h.frame
 have hb := bodyB_size h.2.1
 have e : s = frameOf (txt (bodyB l)) ++ ByteArray.empty := by rw [ByteArray.append_empty]; exact hf
 have hz : (txt (bodyB l)).size ≤ 2000 := by rw [txt_size]; omega
 refine ⟨by rw [e]; exact code_frameOf _ _ (by rw [txt_size]; omega) hz, ?_, by rw [e]; exact bodyOf_frameOf _ _ hz⟩
 have h4 : rdv s 4 = (txt (bodyB l)).size := by rw [e]; exact rdv_frameOf _ _ hz
 rw [h4, hf, frameOf_size]
def RdV (s : ByteArray) (n : Int) (k : Nat) : Prop := (FindV s k ∧ n = (vvS s 0 k : Int)) ∨ ((∀ j, ¬ FindV s j) ∧ n = 0 ∧ k = 0)
theorem ReadV.rd {s : ByteArray} {e : Ending} (h : ReadV s e) : ∃ n k, RdV s n k ∧ e = .returned (.tuple #[.int .i64 n, .int .i64 (k : Int)]) := by
 rcases h with ⟨k, h1, h2⟩ | ⟨h1, h2⟩
 ·exact ⟨_, k, .inl ⟨h1, rfl⟩, h2⟩
 ·exact ⟨0, 0, .inr ⟨h1, rfl, rfl⟩, h2⟩
theorem RdV.one {s : ByteArray} {n n' : Int} {k k' : Nat} (h : RdV s n k) (h' : RdV s n' k') : n = n' ∧ k = k' := by
 rcases h with ⟨h1, h2⟩ | ⟨h1, h2, h3⟩ <;> rcases h' with ⟨h1', h2'⟩ | ⟨h1', h2', h3'⟩
 ·obtain rfl := h1.one h1'
  exact ⟨h2.trans h2'.symm, rfl⟩
 ·exact absurd h1 (h1' k)
 ·exact absurd h1' (h1 k')
 ·exact ⟨h2.trans h2'.symm, h3.trans h3'.symm⟩
theorem RdV.le {s : ByteArray} {n : Int} {k : Nat} (h : RdV s n k) : k ≤ s.size ∧ k ≤ 7 ∧ 0 ≤ n := by
 rcases h with ⟨⟨_, h2, h3, _⟩, h4⟩ | ⟨_, h2, h3⟩
 ·exact ⟨h3, h2, by omega⟩
 ·omega
def bodyR (s : ByteArray) : ByteArray := if code s = 0 then bodyOf s else ⟨#[]⟩
theorem bodyR_size (s : ByteArray) : (bodyR s).size ≤ 2000 := by
 unfold bodyR
 split
 ·rename_i h
  obtain ⟨_, _, h2, h8, _⟩ := (code_zero s).1 h
  rw [bodyOf_size s h8]
  exact h2
 ·exact Nat.zero_le _
structure Steps (s : ByteArray) (n : Int) (k : Nat) (t : List Int) (a : Nat) (v : List Int) (b : Nat) : Prop where
 rn : RdV (bodyR s) n k
 rt : RdAns showT rowT ((bodyR s).extract k (bodyR s).size) n t a
 rv : RdAns showV rowV ((bodyR s).extract (k + a) (bodyR s).size) n v b
theorem Good.steps {s : ByteArray} {l : List Pnt} (h : Good s l) : Steps s (l.length : Int) (vF 6 l.length).length (ts l) (cat (tPiece (ts l)) l.length).length (vs l) (cat (vPiece (vs l)) l.length).length := by
 obtain ⟨hc, _, hb⟩ := h.read
 obtain ⟨ht, hv⟩ := rows_of_ok h.2.1 h.1
 have hB : bodyR s = txt (bodyB l) := by rw [bodyR, if_pos hc, hb]
 have hn : l.length ≤ 562949953421311 := by have := h.2.1.1; omega
 have hf := find_var l.length (cat (tPiece (ts l)) l.length ++ cat (vPiece (vs l)) l.length) hn
 refine ⟨?_, ?_, ?_⟩
 ·rw [hB]
  exact .inl ⟨hf.1, by unfold bodyB; rw [hf.2]⟩
 ·rw [hB, bodyB, extract_back]
  have := readT_back (ts l) ht (cat (vPiece (vs l)) l.length)
  rw [ts_length] at this
  exact this
 ·rw [hB]
  have e : bodyB l = (vF 6 l.length ++ cat (tPiece (ts l)) l.length) ++ cat (vPiece (vs l)) l.length := by rw [bodyB, List.append_assoc]
  have := readV_back (vs l) hv []
  rw [vs_length, List.append_nil] at this
  rw [e, ← List.length_append, extract_back]
  exact this
theorem Steps.one {s : ByteArray} {n n' : Int} {k k' a a' b b' : Nat} {t t' v v' : List Int} (h : Steps s n k t a v b) (h' : Steps s n' k' t' a' v' b') : n = n' ∧ k = k' ∧ t = t' ∧ a = a' ∧ v = v' ∧ b = b' := by
 obtain ⟨rfl, rfl⟩ := h.rn.one h'.rn
 obtain ⟨rfl, rfl⟩ := h.rt.one h'.rt
 obtain ⟨rfl, rfl⟩ := h.rv.one h'.rv
 exact ⟨rfl, rfl, rfl, rfl, rfl, rfl⟩
theorem Steps.good {s : ByteArray} {n : Int} {k a b : Nat} {t v : List Int} (h : Steps s n k t a v b) {l : List Pnt} (hg : Good s l) : zipP t v = l ∧ n = (l.length : Int) ∧ t = ts l ∧ v = vs l ∧ 1 ≤ k ∧ 1 ≤ a ∧ 1 ≤ b ∧ k + a + b = (bodyR s).size := by
 obtain ⟨rfl, rfl, rfl, rfl, rfl, rfl⟩ := h.one hg.steps
 obtain ⟨hc, _, hb⟩ := hg.read
 have hB : bodyR s = txt (bodyB l) := by rw [bodyR, if_pos hc, hb]
 refine ⟨zipP_rows l, rfl, rfl, rfl, vF_pos _ _, cat_pos _ _ hg.1 (vF_pos _ _), cat_pos _ _ hg.1 (vF_pos _ _), ?_⟩
 rw [hB, txt_size, bodyB]
 simp only [List.length_append]
 omega
theorem Good.one {s : ByteArray} {l m : List Pnt} (h : Good s l) (h' : Good s m) : l = m := by
 have := (h.steps.good h').1
 rw [zipP_rows] at this
 exact this
theorem RdAns.pos {shw : List Int → ByteArray} {row : List Int → List Int} {s : ByteArray} {n : Int} {l : List Int} {k : Nat} (hrow : ∀ v, (row v).length = v.length) (h : RdAns shw row s n l k) (hk : k ≠ 0) : n = (l.length : Int) ∧ 1 ≤ l.length ∧ l.length ≤ 60 ∧ shw l = s.extract 0 k ∧ k ≤ s.size := by
 rcases h with ⟨m, v, h1, h2, h3, h4, h5, h6⟩ | ⟨_, _, h0⟩
 ·have hl : l.length = m := by rw [h6, hrow, h4.length]
  exact ⟨by rw [hl]; exact h1, by omega, by omega, by rw [h6]; exact h5, h4.le.2⟩
 ·exact absurd h0 hk
theorem okT_of_show {l : List Int} {s : ByteArray} {k : Nat} (h : showT l = s.extract 0 k) (hk : k ≠ 0) (hs : k ≤ s.size) : TOk l := by
 by_cases ho : TOk l
 ·exact ho
 ·unfold showT at h
  rw [if_neg ho] at h
  exact absurd h (extract_ne s k (by omega) hs)
theorem okV_of_show {l : List Int} {s : ByteArray} {k : Nat} (h : showV l = s.extract 0 k) (hk : k ≠ 0) (hs : k ≤ s.size) : VOk l := by
 by_cases ho : VOk l
 ·exact ho
 ·unfold showV at h
  rw [if_neg ho] at h
  exact absurd h (extract_ne s k (by omega) hs)
theorem Steps.back {s : ByteArray} {n : Int} {k a b : Nat} {t v : List Int} (h : Steps s n k t a v b) (hc : code s = 0) (h8 : 8 + rdv s 4 = s.size) (hk : k ≠ 0) (ha : a ≠ 0) (hb : b ≠ 0) (hs : k + a + b = (bodyR s).size) : Good s (zipP t v) ∧ t.length = v.length ∧ n = (t.length : Int) := by
 obtain ⟨ht1, ht2, ht3, ht4, ht5⟩ := h.rt.pos rowT_length ha
 obtain ⟨hv1, hv2, hv3, hv4, hv5⟩ := h.rv.pos rowV_length hb
 have hlen : t.length = v.length := by omega
 have hT := okT_of_show ht4 ha ht5
 have hV := okV_of_show hv4 hb hv5
 obtain ⟨e1, e2⟩ := ts_zip t v hlen
 have hzl : (zipP t v).length = t.length := by rw [zipP_length]; omega
 have hP : POk (zipP t v) := ok_of_rows (by rw [e1]; exact hT) (by rw [e2]; exact hV)
 have hfv : FindV (bodyR s) k ∧ n = (vvS (bodyR s) 0 k : Int) := by
  rcases h.rn with h | ⟨_, _, h0⟩
  ·exact h
  ·exact absurd h0 hk
 obtain ⟨⟨c1, c2, c3, c4⟩, hn⟩ := hfv
 have hvar : txt (vF 6 (zipP t v).length) = (bodyR s).extract 0 k := by
  have hh := (var_eq (bodyR s) k c1 c2 c3).2 c4
  have hm : vvS (bodyR s) 0 k = (zipP t v).length := by omega
  rw [hm] at hh
  by_cases e : txt (vF 6 (zipP t v).length) = (bodyR s).extract 0 k
  ·exact e
  ·rw [bytes_ne e] at hh
   cases hh
 have hbody : txt (vF 6 (zipP t v).length) ++ showT (ts (zipP t v)) ++ showV (vs (zipP t v)) = bodyR s := by
  rw [e1, e2, hvar, ht4, hv4, ByteArray.extract_extract, ByteArray.extract_extract, Nat.add_zero, Nat.add_zero, Nat.min_eq_left (by omega), Nat.min_eq_left (by omega), ByteArray.extract_append_extract, show min 0 k = 0 by omega, show max k (k + a) = k + a by omega, ByteArray.extract_append_extract, show min 0 (k + a) = 0 by omega, show max (k + a) (k + a + b) = k + a + b by omega, hs, ByteArray.extract_zero_size]
 refine ⟨⟨by omega, hP, ?_⟩, hlen, ht1⟩
 rw [showB, if_pos ⟨by omega, hP⟩, hbody, bodyR, if_pos hc]
 obtain ⟨g4, g1, g2, g8, gs⟩ := (code_zero s).1 hc
 rw [(frame_fits s g4 g1 g2 g8).2 gs, h8, ByteArray.extract_zero_size]
theorem Steps.empty {n : Int} {k a b : Nat} {t v : List Int} (h : Steps (txt []) n k t a v b) : t = [] := by
 have hc : ¬ code (txt []) = 0 := fun hc => by
  obtain ⟨h4, _⟩ := (code_zero _).1 hc
  rw [txt_size] at h4
  simp at h4
 have hB : bodyR (txt []) = ⟨#[]⟩ := by rw [bodyR, if_neg hc]
 have hz : n = 0 := by
  rcases h.rn with ⟨⟨h1, _, h3, _⟩, _⟩ | ⟨_, h0, _⟩
  ·rw [hB] at h3
   have : (ByteArray.mk #[]).size = 0 := rfl
   omega
  ·exact h0
 rcases h.rt with ⟨m, v, h1, h2, _⟩ | ⟨_, h0, _⟩
 ·omega
 ·exact h0
theorem Steps.shown {s : ByteArray} {n : Int} {k a b : Nat} {t v : List Int} (h : Steps s n k t a v b) (h1 : 1 ≤ (zipP t v).length) (hs : showB (zipP t v) = s) : Good s (zipP t v) := by
 by_cases hp : POk (zipP t v)
 ·exact ⟨h1, hp, hs⟩
 ·exfalso
  rw [showB, if_neg (fun hh => hp hh.2)] at hs
  subst hs
  rw [h.empty] at h1
  simp [zipP] at h1
def RbAns (s : ByteArray) (l : List Pnt) (ok : Bool) : Prop := (ok = true ∧ Good s l) ∨ (ok = false ∧ l = [] ∧ ∀ m, ¬ Good s m)
theorem RbAns.one {s : ByteArray} {l m : List Pnt} {x y : Bool} (h : RbAns s l x) (h' : RbAns s m y) : l = m ∧ x = y := by
 rcases h with ⟨h1, h2⟩ | ⟨h1, h2, h3⟩ <;> rcases h' with ⟨h1', h2'⟩ | ⟨h1', h2', h3'⟩
 ·exact ⟨h2.one h2', h1.trans h1'.symm⟩
 ·exact absurd h2 (h3' l)
 ·exact absurd h2' (h3 m)
 ·exact ⟨h2.trans h2'.symm, h1.trans h1'.symm⟩
theorem RbAns.len {s : ByteArray} {l : List Pnt} {x : Bool} (h : RbAns s l x) : l.length ≤ 60 := by
 rcases h with ⟨_, h2⟩ | ⟨_, h2, _⟩
 ·exact h2.2.1.1
 ·rw [h2]; simp
theorem showB_size (l : List Pnt) : (showB l).size ≤ 900 := by
 unfold showB
 split
 ·rename_i h
  have hb := bodyB_size h.2
  rw [body_is h.2 h.1, frame, if_neg (by rw [txt_size]; omega), frameOf_size, txt_size]
  omega
 ·rw [txt_size]; simp
end Go.Proofs.YtifmjdakefkbiaaGreatDoor
namespace Go.Proofs.YtifmjdakefkbiaaGreatDoor
open Go.ChangeShapes Go.WideShapes Go.ChangeAt Go.RowKit Go.PlainAid
set_option linter.unusedVariables false
theorem Tryz.infoPt : (Tryz.prog.info? 174).map (fun i => (i.zero, i.size, i.bytes)) = some (some (.agg #[.int .i64 0, .int .i64 0]), 2, 16) := by kernel_rfl
end Go.Proofs.YtifmjdakefkbiaaGreatDoor
namespace Go.Proofs.YtifmjdakefkbiaaGreatDoor
open Go.ChangeShapes Go.WideShapes Go.ChangeAt Go.RowKit Go.PlainAid
set_option linter.unusedVariables false
def Apart (u v : Value) : Prop := ∀ g, u.ownBlock = some g → v.ownBlock ≠ some g
theorem Apart.symm {u v : Value} (h : Apart u v) : Apart v u := fun g h1 h2 => h g h2 h1
theorem Apart.of {w w' : World} {b : Nat} {e : TypeId} {sz : Nat} {u v : Value} {r r' : List (List Value)} (h : Owns w b e sz u r) (h' : Owns w' w.heap.size e sz v r') : Apart u v := fun g h1 h2 => by
 have := (h.lt g h1).2
 have := (h'.lt g h2).1
 omega
section
variable {H : Type} {enc : TypeId × Value → H} {P : Program} {w : World} {base : Nat} {spare : Nat → Bool} {held : Bool}
end
section
variable {H : Type} {enc : TypeId × Value → H} {w : World} {base : Nat} {spare : Nat → Bool} {held : Bool}
end
end Go.Proofs.YtifmjdakefkbiaaGreatDoor
namespace Go.Proofs.YtifmjdakefkbiaaGreatDoor
open Go.RowKit Go.PlainAid
structure Ser where
 key : ByteArray
 pts : List Pnt
instance : Inhabited Ser := ⟨⟨⟨#[]⟩, []⟩⟩
theorem Ser.same {x y : Ser} (h1 : x.key = y.key) (h2 : x.pts = y.pts) : x = y := by
 cases x
 cases y
 simp only at h1 h2
 subst h1
 subst h2
 rfl
instance : Inhabited (Ser × Value) := ⟨⟨default, .slice none 0 0⟩⟩
def srC (p : Ser × Value) : List Value := [.string p.1.key, p.2]
def srR (L : List (Ser × Value)) : List (List Value) := L.map srC
theorem sr_look {w : World} {B : Nat} {v : Value} {L : List (Ser × Value)} (h : Lies w B 2 v (srR L)) : ∃ A cap, v = .slice A L.length cap ∧ ∀ j, j < L.length → ∃ g off, A = some ⟨g, off, none⟩ ∧ g < B ∧
  w.cell? ⟨g, off + j * 2, none⟩ = some (.string (L.getD j default).1.key) ∧ w.cell? ⟨g, off + j * 2 + 1, none⟩ = some (L.getD j default).2 := by
 obtain ⟨A, cap, e, h⟩ := h.look
 refine ⟨A, cap, by rw [e]; simp [srR], fun j hj => ?_⟩
 rw [← getD_at L j hj]
 obtain ⟨g, off, e, hg, hc⟩ := h j (by simpa [srR] using hj)
 refine ⟨g, off, e, hg, ?_, ?_⟩
 ·have := hc 0 _ (by omega) (by simp [srR, srC]; rfl); simpa [Nat.add_assoc] using this
 ·have := hc 1 _ (by omega) (by simp [srR, srC]; rfl); simpa [Nat.add_assoc] using this
def SerL (w : World) (B : Nat) (v : Value) (L : List (Ser × Value)) : Prop := Lies w B 2 v (srR L) ∧ ∀ p ∈ L, Lies w B 2 p.2 (ptR p.1.pts)
theorem SerL.on {w w' : World} {B : Nat} {v : Value} {L : List (Ser × Value)} (h : SerL w B v L) (hb : Below B w w') : SerL w' B v L := ⟨h.1.on hb, fun p hp => (h.2 p hp).on hb⟩
theorem SerL.mono {w : World} {B C : Nat} {v : Value} {L : List (Ser × Value)} (h : SerL w B v L) (hB : B ≤ C) : SerL w C v L := ⟨h.1.mono hB, fun p hp => (h.2 p hp).mono hB⟩
theorem SerL.heap {w w' : World} {B : Nat} {v : Value} {L : List (Ser × Value)} (h : SerL w B v L) (hh : w'.heap = w.heap) : SerL w' B v L := ⟨h.1.heap hh, fun p hp => (h.2 p hp).heap hh⟩
def SerV (w : World) (B : Nat) (v : Value) (l : List Ser) : Prop := ∃ L : List (Ser × Value), L.map Prod.fst = l ∧ SerL w B v L
theorem SerV.on {w w' : World} {B : Nat} {v : Value} {l : List Ser} (h : SerV w B v l) (hb : Below B w w') : SerV w' B v l := h.imp fun _ h => ⟨h.1, h.2.on hb⟩
theorem SerV.mono {w : World} {B C : Nat} {v : Value} {l : List Ser} (h : SerV w B v l) (hB : B ≤ C) : SerV w C v l := h.imp fun _ h => ⟨h.1, h.2.mono hB⟩
theorem SerV.heap {w w' : World} {B : Nat} {v : Value} {l : List Ser} (h : SerV w B v l) (hh : w'.heap = w.heap) : SerV w' B v l := h.imp fun _ h => ⟨h.1, h.2.heap hh⟩
theorem SerV.look {w : World} {B : Nat} {v : Value} {l : List Ser} (h : SerV w B v l) : ∃ A cap, v = .slice A l.length cap ∧ ∀ j, j < l.length → ∃ g off u, A = some ⟨g, off, none⟩ ∧ g < B ∧
  w.cell? ⟨g, off + j * 2, none⟩ = some (.string (l.getD j default).key) ∧ w.cell? ⟨g, off + j * 2 + 1, none⟩ = some u ∧ Lies w B 2 u (ptR (l.getD j default).pts) := by
 obtain ⟨L, rfl, h, hp⟩ := h
 obtain ⟨A, cap, e, hl⟩ := sr_look h
 refine ⟨A, cap, by rw [e]; simp, fun j hj => ?_⟩
 have hj' : j < L.length := by simpa using hj
 obtain ⟨g, off, e, hg, h1, h2⟩ := hl j hj'
 have hd : (L.map Prod.fst).getD j default = (L.getD j default).1 := by rw [← getD_at _ j hj, ← getD_at _ j hj', List.getElem_map]
 rw [hd]
 exact ⟨g, off, _, e, hg, h1, h2, hp _ (getD_mem L j hj')⟩
end Go.Proofs.YtifmjdakefkbiaaGreatDoor
namespace Go.Proofs.YtifmjdakefkbiaaGreatDoor
open Go.RowKit Go.PlainAid
def KOk (s : ByteArray) : Prop := 1 ≤ s.size ∧ s.size ≤ 8 ∧ ∀ j, j < s.size → 97 ≤ bn s j ∧ bn s j ≤ 122
def ahd (a b : ByteArray) : Bool := Op.bytesLess a.toList b.toList
theorem toList_inj {a b : ByteArray} (h : a.toList = b.toList) : a = b := by
 rw [Lib.toList_data, Lib.toList_data] at h
 rw [← txt_toList a, ← txt_toList b, h]
def sAt (l : List Ser) (j : Nat) : Ser := l.getD j default
def SOk (l : List Ser) : Prop := l.length ≤ 5 ∧ ∀ j, j < l.length → (KOk (sAt l j).key ∧ (0 < j → ahd (sAt l (j - 1)).key (sAt l j).key = true)) ∧ 1 ≤ (sAt l j).pts.length ∧ POk (sAt l j).pts
instance (s : ByteArray) : Decidable (KOk s) := by unfold KOk; infer_instance
instance (l : List Ser) : Decidable (SOk l) := by unfold SOk; infer_instance
theorem SOk.nil : SOk [] := ⟨by simp, fun j hj => by simp at hj⟩
end Go.Proofs.YtifmjdakefkbiaaGreatDoor
namespace Go.Proofs.YtifmjdakefkbiaaGreatDoor
open Go.ChangeShapes Go.WideShapes Go.ChangeAt Go.RowKit Go.PlainAid
set_option linter.unusedVariables false
def emB (s : ByteArray) : Bool := s.toList.isEmpty
theorem em_facts {s : ByteArray} (h : ¬ s = ⟨#[]⟩) : (s.toList == []) = false ∧ (([] : List UInt8) == s.toList) = false ∧ s.toList.isEmpty = false ∧ emB s = false := by
 have h0 : ¬ s.toList = [] := fun e => by
  rw [Lib.toList_data] at e
  exact h (ByteArray.ext (Array.toList_inj.1 e))
 have h1 : s.toList.isEmpty = false := by simpa using h0
 exact ⟨by simpa using h0, by simpa using h0, h1, h1⟩
theorem em_nil : emB ⟨#[]⟩ = true := by unfold emB; rw [Lib.toList_data]; rfl
def zB (i : Int) : Bool := decide (i = 0)
theorem z_facts {i : Int} (h : ¬ i = 0) : (i == 0) = false ∧ ((0 : Int) == i) = false ∧ zB i = false := ⟨by simpa using h, by simpa using fun e => h e.symm, decide_eq_false h⟩
theorem z_nil : zB 0 = true := rfl
def spanB (f t : Int) : Bool := decide (0 ≤ f) && decide (f < t) && decide (t ≤ 1099511627776)
open Classical in
noncomputable def rdB (s : ByteArray) : Bool := decide (∃ l, RbAns s l true)
open Classical in
theorem rdB_is {s : ByteArray} {l : List Pnt} {ok : Bool} (h : RbAns s l ok) : rdB s = ok := by
 unfold rdB
 cases ok
 ·exact decide_eq_false fun ⟨m, hm⟩ => by have := (h.one hm).2; cases this
 ·exact decide_eq_true ⟨l, h⟩
open Classical in
noncomputable def keyB (s : ByteArray) : Bool := decide (KOk s)
noncomputable def opOk (x : Opx) : Bool :=
 if x.kind = 1 then spanB x.frm x.til && emB x.key && emB x.data
 else if x.kind = 2 ∨ x.kind = 6 then inRg x.frm 0 1099511627776 && emB x.key && zB x.til && emB x.data
 else if x.kind = 3 then inRg x.frm 0 100000 && emB x.key && zB x.til && emB x.data
 else if x.kind = 4 then keyB x.key && rdB x.data && zB x.frm && zB x.til
 else if x.kind = 5 then keyB x.key && spanB x.frm x.til && emB x.data
 else if x.kind = 7 then emB x.key && zB x.frm && zB x.til && emB x.data
 else false
set_option maxHeartbeats 400000 in
theorem implSpanOk (f t : Int) (w : World) : Calls Tryz.prog 126 #[.int .i64 f, .int .i64 t] w fun e w' => e = .returned (.bool (spanB f t)) ∧ w = w' := by
 unfold spanB
 by_cases h1 : 0 ≤ f
 ·rw [decide_eq_true h1]
  by_cases h2 : f < t
  ·rw [decide_eq_true h2]
   by_cases h3 : t ≤ 1099511627776
   ·rw [decide_eq_true h3]
    go_enter Tryz.func126, Tryz.ntmps126
    go_wp2
    go_ret
    exact ⟨rfl, rfl⟩
   ·have d : decide (t ≤ 1099511627776) = false := decide_eq_false h3
    rw [d]
    go_enter Tryz.func126, Tryz.ntmps126
    go_wp2
    go_ret
    exact ⟨rfl, rfl⟩
  ·have d : decide (f < t) = false := decide_eq_false h2
   rw [d]
   go_enter Tryz.func126, Tryz.ntmps126
   go_wp2
   go_ret
   exact ⟨rfl, rfl⟩
 ·have d : decide (0 ≤ f) = false := decide_eq_false h1
  rw [d]
  go_enter Tryz.func126, Tryz.ntmps126
  go_wp2
  go_ret
  exact ⟨rfl, rfl⟩
end Go.Proofs.YtifmjdakefkbiaaGreatDoor
namespace Go.Proofs.YtifmjdakefkbiaaGreatDoor
open Go.ChangeShapes Go.WideShapes Go.ChangeAt Go.RowKit Go.PlainAid
set_option linter.unusedVariables false
theorem dec_of {p : Prop} [Decidable p] (b : Bool) (h : b = true ↔ p) : decide p = b := by
 cases b
 ·exact decide_eq_false fun hp => by simp [hp] at h
 ·exact decide_eq_true (h.1 rfl)
set_option maxHeartbeats 1000000 in
theorem implPointsOk (l : List Pnt) (v : Value) (w : World) (B : Nat) (hv : Lies w B 2 v (ptR l)) (hn : l.length ≤ 1048576) (hB : B ≤ w.heap.size) : Calls Tryz.prog 158 #[v] w fun e w' => e = .returned (.bool (decide (POk l))) ∧ Below w.heap.size w w' := by
 obtain ⟨A, cap, rfl, hl⟩ := pt_look hv
 have HL : Hid (∀ j, j < l.length → ∃ g off, A = some ⟨g, off, none⟩ ∧ g < B ∧ w.cell? ⟨g, off + j * 2, none⟩ = some (.int .i64 (tAt l j)) ∧ w.cell? ⟨g, off + j * 2 + 1, none⟩ = some (.int .i64 (vAt l j))) := hl
 have HB : Hid (B ≤ w.heap.size) := hB
 have HD : Hid (∀ b, (b = true ↔ POk l) → decide (POk l) = b) := fun b hb => dec_of b hb
 have HV : Hid (POk l ↔ l.length ≤ 60 ∧ ∀ j, j < l.length → ((0 ≤ tAt l j ∧ tAt l j ≤ 1099511627776) ∧ (-1099511627776 ≤ vAt l j ∧ vAt l j ≤ 1099511627776)) ∧ (0 < j → tAt l (j - 1) < tAt l j)) := Iff.rfl
 have q0 : (l.length : Int) ≤ 1048576 := by omega
 clear hl hn hv hB
 generalize hN : l.length = n at *
 clear hN
 by_cases h2 : (60 : Int) < (n : Int)
 ·go_enter Tryz.func158, Tryz.ntmps158
  go_wp2
  go_ret
  refine ⟨?_, Below.refl _ _⟩
  rw [HD.out false]
  ·rfl
  rw [HV.out]
  exact ⟨fun h => (by cases h), fun h => by omega⟩
 have q1 : (n : Int) ≤ 60 := by omega
 clear h2
 go_enter Tryz.func158, Tryz.ntmps158
 go_wp2
 go_loopw [3, 11] (fun v3 v11 wr => ∃ (k : Nat) (m : Int), k ≤ n ∧ v11 = .int .i64 (k : Int) ∧ v3 = .int .i64 m ∧ 0 ≤ m ∧ m ≤ 1099511627777 ∧ Hid ((k = 0 → m = 0) ∧ (0 < k → m = tAt l (k - 1) + 1)) ∧ Below w.heap.size w wr ∧ Hid (∀ j, j < k → ((0 ≤ tAt l j ∧ tAt l j ≤ 1099511627776) ∧ (-1099511627776 ≤ vAt l j ∧ vAt l j ≤ 1099511627776)) ∧ (0 < j → tAt l (j - 1) < tAt l j))) (fun _ i _ => n - (intOf i).toNat)
 case atStart => exact ⟨0, 0, by omega, rfl, rfl, by omega, by omega, ⟨fun _ => rfl, fun h => by omega⟩, Below.refl _ _, fun j hj => by omega⟩
 case round =>
  obtain ⟨k, m, hk, rfl, rfl, hm0, hm1, HM, hb, HJ⟩ := hrel
  have HB1 : Hid (Below w.heap.size w wr) := hb
  clear hb
  by_cases hlt : k < n
  ·have q2 : (k : Int) < (n : Int) := by omega
   obtain ⟨g, off, rfl, hg, e1, e2⟩ := HL.out k hlt
   have hgw : g < w.heap.size := Nat.lt_of_lt_of_le hg HB.out
   rw [← HB1.out.cell (p := ⟨_, _, none⟩) hgw] at e1
   rw [← HB1.out.cell (p := ⟨_, _, none⟩) hgw] at e2
   have HBa : Hid (∀ cs cs' : Array Value, Below w.heap.size w ((wr.alloc (.cells cs 174)))) := fun cs _ => HB1.out.alloc HB1.out.size _
   generalize hx : tAt l k = x at *
   have HX : Hid (tAt l k = x) := hx
   clear hx
   generalize hy : vAt l k = y at *
   have HY : Hid (vAt l k = y) := hy
   clear hy hgw hg
   have HNo : Hid ((x < m ∨ 1099511627776 < x ∨ y < -1099511627776 ∨ 1099511627776 < y) → decide (POk l) = false) := fun h => by
    apply HD.out
    rw [HV.out]
    refine ⟨fun h => (by cases h), fun h2 => ?_⟩
    have h3 := h2.2 k hlt
    rw [HX.out, HY.out] at h3
    have h4 := HM.out
    by_cases h0 : k = 0
    ·have := h4.1 h0; omega
    ·have := h4.2 (by omega); have := h3.2 (by omega); omega
   by_cases c1 : x < m
   ·skip
    go_wp2
    go_ret
    exact ⟨by rw [HNo.out (.inl c1)]; rfl, HBa.out _ #[]⟩
   by_cases c2 : 1099511627776 < x
   ·skip
    go_wp2
    go_ret
    exact ⟨by rw [HNo.out (.inr (.inl c2))]; rfl, HBa.out _ #[]⟩
   by_cases c3 : y < -1099511627776
   ·skip
    go_wp2
    go_ret
    exact ⟨by rw [HNo.out (.inr (.inr (.inl c3)))]; rfl, HBa.out _ #[]⟩
   by_cases c4 : 1099511627776 < y
   ·skip
    go_wp2
    go_ret
    exact ⟨by rw [HNo.out (.inr (.inr (.inr c4)))]; rfl, HBa.out _ #[]⟩
   go_wp2
   go_roundw
   case rel =>
    refine ⟨k + 1, x + 1, by omega, by go_num, by go_num, by omega, by omega, ⟨fun h => by omega, fun _ => by rw [Nat.add_sub_cancel, HX.out]⟩, HBa.out _ #[], fun j hj => ?_⟩
    by_cases e : j = k
    ·subst e
     rw [HX.out, HY.out]
     have h4 := HM.out
     refine ⟨⟨⟨by omega, by omega⟩, by omega, by omega⟩, fun h => ?_⟩
     have := h4.2 h
     omega
    ·exact HJ.out j (by omega)
   case measure => simp [intOf]; omega
  ·have hkk : k = n := by omega
   subst hkk
   go_wp2
   go_ret
   refine ⟨?_, HB1.out⟩
   rw [HD.out true]
   ·rfl
   rw [HV.out]
   exact ⟨fun _ => ⟨by omega, HJ.out⟩, fun _ => rfl⟩
end Go.Proofs.YtifmjdakefkbiaaGreatDoor
namespace Go.Proofs.YtifmjdakefkbiaaGreatDoor
open Go
theorem until_skip {P : Program} {Q : Exit → Act → World → Prop} {md : Region.Mode} {S : World → Prop} {T : Nat → Bool} {l : List Oper} (i : Nat) {oi : Oper} {rest : List Oper} {fuel : Nat} {listed : Array Bool} {a : Act} {w : World} (hd : l.drop i = oi :: rest) (hB : pureB md l.toArray listed i = true)
  (hQ : ∀ c a w, Q (.panic c) (a.put oi.dst undef) w → Q (.panic c) a w) (hw : Region.wanted oi (yielded l.toArray a.tmps) = false)
  (h : wpUntil P md l.toArray Q S T fuel (listed.setIfInBounds i true) (a.put oi.dst undef) w) : wpUntil P md l.toArray Q S T (fuel + 1) listed a w := by
 unfold pureB at hB
 simp only [Bool.and_eq_true] at hB
 obtain ⟨⟨hs, hf⟩, hr⟩ := hB
 exact wpUntil_pure (drop_at hd) (Region.noSelect_spec hs) hQ fuel listed a w (Region.free_spec (drop_at hd) hf) (by simpa using hr) (.inr ⟨hw, rfl⟩) h
theorem sKi {P : Program} {Q : Exit → Act → World → Prop} {md : Region.Mode} {S : World → Prop} {T : Nat → Bool} {l : List Oper} (i : Nat) {oi : Oper} {rest : List Oper} {fuel : Nat} {listed : Array Bool} {a : Act} {w : World} (h : wpUntil P md l.toArray Q S T fuel (listed.setIfInBounds i true) (a.put oi.dst undef) w) (hd : l.drop i = oi :: rest := by rfl) (hB : pureB md l.toArray listed i = true := by kernel_rfl) (hQ : ∀ c a w, Q (.panic c) (a.put oi.dst undef) w → Q (.panic c) a w := by exact fun _ _ _ h => h) (hw : Region.wanted oi (yielded l.toArray a.tmps) = false := by rfl) : wpUntil P md l.toArray Q S T (fuel + 1) listed a w := until_skip i hd hB hQ hw h
theorem sKf {P : Program} {Q : Exit → Act → World → Prop} {md : Region.Mode} {S : World → Prop} {T : Nat → Bool} {l : List Oper} (i : Nat) {oi : Oper} {rest : List Oper} {fuel : Nat} {listed : Array Bool} {a b : Act} {w : World} (h : wpUntil P md l.toArray Q S T fuel (listed.setIfInBounds i true) b w) (hd : l.drop i = oi :: rest := by rfl) (hB : pureB md l.toArray listed i = true := by kernel_rfl) (hw : Region.wanted oi (yielded l.toArray a.tmps) = false := by rfl) (hb : a.put oi.dst undef = b := by (try simp only [Act.put, zQ1, zQ2, zQ3]); exact rfl) (hQ : ∀ c a w, Q (.panic c) (a.put oi.dst undef) w → Q (.panic c) a w := by exact fun _ _ _ h => h) : wpUntil P md l.toArray Q S T (fuel + 1) listed a w := until_skip i hd hB hQ hw (hb ▸ h)
end Go.Proofs.YtifmjdakefkbiaaGreatDoor
