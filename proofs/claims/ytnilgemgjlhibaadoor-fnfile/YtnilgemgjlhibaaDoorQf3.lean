/- BtDef BtMath BkMath FlMath TnMath FlAid -/
import Derived.Test.YtnilgemgjlhibaaDoorQf2
import Derived.Test.YtnilgemgjlhibaaDoorQf1
import Derived.Test.YtnilgemgjlhibaaDoorQf0
import Derived.Test.YtnilgemgjlhibaaDoorRows
import Derived.WalkKit
import Derived.ProofKit
import Derived.OpenShut
import Derived.Below
import Derived.WalkSmall
import Derived.BigQuiet
import Derived.Deep.QuietTactic
import Derived.Deep.RegionWith
import Derived.Handy
namespace Go.Proofs.YtnilgemgjlhibaaDoor
open Go.RowKit Go.PlainAid
def rv (v : List Int) : Nat → Int
 | 0 => unz (v.getD 0 0)
 | i + 1 => rv v i + unz (v.getD (i + 1) 0)
def rowV (v : List Int) : List Int := rowOf (rv v) v.length
def gp (v : List Int) : Nat → Int
 | 0 => 0
 | i + 1 => gp v i + if i = 0 then v.getD 1 0 else unz (v.getD (i + 1) 0)
def rt (v : List Int) : Nat → Int
 | 0 => v.getD 0 0
 | i + 1 => rt v i + gp v (i + 1)
def rowT (v : List Int) : List Int := rowOf (rt v) v.length
theorem rv_bound (v : List Int) (i : Nat) : -140737488355328 * ((i : Int) + 1) ≤ rv v i ∧ rv v i ≤ 140737488355328 * ((i : Int) + 1) := by
 induction i with
 | zero => have := unz_range (v.getD 0 0); unfold rv; omega
 | succ i ih => have := unz_range (v.getD (i + 1) 0); unfold rv; omega
theorem gp_bound (v : List Int) (hv : ∀ j, 0 ≤ v.getD j 0 ∧ v.getD j 0 ≤ 562949953421311) (i : Nat) : -140737488355328 * (i : Int) ≤ gp v i ∧ gp v i ≤ 562949953421311 + 140737488355328 * (i : Int) := by
 induction i with
 | zero => unfold gp; omega
 | succ i ih =>
  have h1 := hv 1
  have h2 := unz_range (v.getD (i + 1) 0)
  by_cases h0 : i = 0
  ·subst h0
   rw [gp, if_pos rfl]
   have : gp v 0 = 0 := rfl
   omega
  ·rw [gp, if_neg h0]
   omega
theorem rt_bound (v : List Int) (hv : ∀ j, 0 ≤ v.getD j 0 ∧ v.getD j 0 ≤ 562949953421311) (i : Nat) (hi : i ≤ 60) : -9007199254740992 * ((i : Int) + 1) ≤ rt v i ∧ rt v i ≤ 9007199254740992 * ((i : Int) + 1) := by
 induction i with
 | zero => have := hv 0; unfold rt; omega
 | succ i ih =>
  have := gp_bound v hv (i + 1)
  have := ih (by omega)
  unfold rt
  omega
theorem rowV_made (v : List Int) : rowOf (auF 0 (rowOf (uzF 0 v) v.length)) v.length = rowV v := by
 have key : ∀ i, i < v.length → auF 0 (rowOf (uzF 0 v) v.length) i = rv v i := by
  intro i
  induction i with
  | zero =>
   intro h
   rw [auF, rowOf_get _ _ _ h]
   rfl
  | succ i ih =>
   intro h
   rw [auF_gt _ _ _ (by omega), Nat.add_sub_cancel, ih (by omega), rowOf_get _ _ _ h]
   rfl
 apply nums_ext
 ·rw [rowOf_length, rowV, rowOf_length]
 ·intro j hj
  rw [rowOf_length] at hj
  rw [rowOf_get _ _ _ hj, rowV, rowOf_get _ _ _ hj, key j hj]
theorem gaps_made (v : List Int) (hv : 1 ≤ v.length) (i : Nat) (hi : i < v.length) (h1 : 1 ≤ i) : auF 1 (rowOf (uzF (min 2 v.length) v) v.length) i = gp v i := by
 induction i with
 | zero => omega
 | succ i ih =>
  by_cases h0 : i = 0
  ·subst h0
   rw [auF_le _ _ _ (by omega), rowOf_get _ _ _ hi]
   unfold uzF
   rw [if_neg (by omega)]
   simp [gp]
  ·rw [auF_gt _ _ _ (by omega), Nat.add_sub_cancel, ih (by omega) (by omega), rowOf_get _ _ _ hi]
   conv => rhs; unfold gp
   rw [if_neg h0]
   unfold uzF
   rw [if_pos (by omega)]
theorem gaps_zero (v : List Int) (hv : 1 ≤ v.length) : auF 1 (rowOf (uzF (min 2 v.length) v) v.length) 0 = v.getD 0 0 := by
 rw [auF, rowOf_get _ _ _ (by omega)]
 unfold uzF
 rw [if_neg (by omega)]
theorem times_made (v : List Int) (hv : 1 ≤ v.length) (i : Nat) (hi : i < v.length) : auF 0 (rowOf (auF 1 (rowOf (uzF (min 2 v.length) v) v.length)) v.length) i = rt v i := by
 induction i with
 | zero =>
  rw [auF, rowOf_get _ _ _ hi, gaps_zero v hv]
  rfl
 | succ i ih =>
  rw [auF_gt _ _ _ (by omega), Nat.add_sub_cancel, ih (by omega), rowOf_get _ _ _ hi, gaps_made v hv _ hi (by omega)]
  rfl
theorem rowT_made (v : List Int) (hv : 1 ≤ v.length) : rowOf (auF 0 (rowOf (auF 1 (rowOf (uzF (min 2 v.length) v) v.length)) v.length)) v.length = rowT v := by
 apply nums_ext
 ·rw [rowOf_length, rowT, rowOf_length]
 ·intro j hj
  rw [rowOf_length] at hj
  rw [rowOf_get _ _ _ hj, rowT, rowOf_get _ _ _ hj, times_made v hv j hj]
def RdAns (shw : List Int → ByteArray) (row : List Int → List Int) (s : ByteArray) (n : Int) (l : List Int) (k : Nat) : Prop :=
 (∃ (m : Nat) (v : List Int), n = (m : Int) ∧ 1 ≤ m ∧ m ≤ 60 ∧ Rd s m v k ∧ shw (row v) = s.extract 0 k ∧ l = row v) ∨
 ((∀ (m : Nat) (v : List Int) (u : Nat), n = (m : Int) → 1 ≤ m → m ≤ 60 → Rd s m v u → shw (row v) ≠ s.extract 0 u) ∧ l = [] ∧ k = 0)
theorem RdAns.one {shw : List Int → ByteArray} {row : List Int → List Int} {s : ByteArray} {n : Int} {l l' : List Int} {k k' : Nat} (h : RdAns shw row s n l k) (h' : RdAns shw row s n l' k') : l = l' ∧ k = k' := by
 rcases h with ⟨m, v, h1, h2, h3, h4, h5, h6⟩ | ⟨h1, h2, h3⟩ <;> rcases h' with ⟨m', v', h1', h2', h3', h4', h5', h6'⟩ | ⟨h1', h2', h3'⟩
 ·obtain rfl : m = m' := by omega
  obtain ⟨rfl, rfl⟩ := h4.one h4'
  exact ⟨h6.trans h6'.symm, rfl⟩
 ·exact absurd h5 (h1' m v k h1 h2 h3 h4)
 ·exact absurd h5' (h1 m' v' k' h1' h2' h3' h4')
 ·exact ⟨h2.trans h2'.symm, h3.trans h3'.symm⟩
theorem rowV_length (v : List Int) : (rowV v).length = v.length := by rw [rowV, rowOf_length]
theorem rowT_length (v : List Int) : (rowT v).length = v.length := by rw [rowT, rowOf_length]
theorem RdAns.few {shw : List Int → ByteArray} {row : List Int → List Int} {s : ByteArray} {m : Nat} (h : RdNo s m) : RdAns shw row s (m : Int) [] 0 := by
 refine .inr ⟨fun m' v u e _ _ hr => ?_, rfl, rfl⟩
 obtain rfl : m = m' := by omega
 exact absurd h hr.no
theorem RdAns.none {shw : List Int → ByteArray} {row : List Int → List Int} {s : ByteArray} {n : Int} (h : n < 1 ∨ 60 < n) : RdAns shw row s n [] 0 :=
 .inr ⟨fun m' v u e _ _ hr => by omega, rfl, rfl⟩
theorem RdAns.other {shw : List Int → ByteArray} {row : List Int → List Int} {s : ByteArray} {m : Nat} {v : List Int} {u : Nat} (hr : Rd s m v u) (h : shw (row v) ≠ s.extract 0 u) : RdAns shw row s (m : Int) [] 0 := by
 refine .inr ⟨fun m' v' u' e _ _ hr' => ?_, rfl, rfl⟩
 obtain rfl : m = m' := by omega
 obtain ⟨rfl, rfl⟩ := hr.one hr'
 exact h
theorem RdAns.yes {shw : List Int → ByteArray} {row : List Int → List Int} {s : ByteArray} {m : Nat} {v : List Int} {u : Nat} (h1 : 1 ≤ m) (h2 : m ≤ 60) (hr : Rd s m v u) (h : shw (row v) = s.extract 0 u) : RdAns shw row s (m : Int) (row v) u :=
 .inl ⟨m, v, rfl, h1, h2, hr, h, rfl⟩
theorem RdAns.short {shw : List Int → ByteArray} {row : List Int → List Int} {s : ByteArray} {n : Int} {l : List Int} {k : Nat} (hrow : ∀ v, (row v).length = v.length) (h : RdAns shw row s n l k) : l.length ≤ 60 ∧ k ≤ s.size := by
 rcases h with ⟨m, v, h1, h2, h3, h4, h5, h6⟩ | ⟨_, rfl, rfl⟩
 ·rw [h6, hrow, h4.length]
  exact ⟨h3, h4.le.2⟩
 ·simp
theorem bytes_ne {a b : ByteArray} (h : a ≠ b) : (a.toList == b.toList) = false := by
 rw [beq_eq_false_iff_ne]
 intro e
 apply h
 rw [Lib.toList_data, Lib.toList_data] at e
 cases a
 cases b
 simp only at e
 congr 1
 exact Array.ext' e
theorem bytes_eq {a b : ByteArray} (h : a = b) : (a.toList == b.toList) = true := by rw [h]; simp
end Go.Proofs.YtnilgemgjlhibaaDoor
namespace Go.Proofs.YtnilgemgjlhibaaDoor
open Go.RowKit Go.PlainAid
theorem cat_split (f : Nat → List UInt8) (k n : Nat) (hk : k < n) : ∃ rest, cat f n = cat f k ++ (f k ++ rest) := by
 induction n with
 | zero => omega
 | succ n ih =>
  by_cases e : k = n
  ·subst e
   exact ⟨[], by rw [cat_succ, List.append_nil]⟩
  ·obtain ⟨rest, h⟩ := ih (by omega)
   exact ⟨rest ++ f n, by rw [cat_succ, h]; simp⟩
theorem extract_back (a b : List UInt8) : (txt (a ++ b)).extract a.length (txt (a ++ b)).size = txt b := by
 rw [txt_size]
 apply ByteArray.ext
 apply Array.toList_inj.1
 rw [Lib.extract_data]
 simp [txt]
theorem extract_front (a b : List UInt8) : (txt (a ++ b)).extract 0 a.length = txt a := by
 apply ByteArray.ext
 apply Array.toList_inj.1
 rw [Lib.extract_data]
 simp [txt]
theorem rd_cat (x : Nat → Nat) (n : Nat) (hx : ∀ i, i < n → x i ≤ 562949953421311) (tl : List UInt8) (k : Nat) (hk : k ≤ n) : Rd (txt (cat (fun i => vF 6 (x i)) n ++ tl)) k (rowOf (fun i => (x i : Int)) k) (cat (fun i => vF 6 (x i)) k).length := by
 induction k with
 | zero => exact ⟨rfl, rfl⟩
 | succ k ih =>
  obtain ⟨rest, h⟩ := cat_split (fun i => vF 6 (x i)) k n (by omega)
  have e : txt (cat (fun i => vF 6 (x i)) n ++ tl) = txt (cat (fun i => vF 6 (x i)) k ++ (vF 6 (x k) ++ (rest ++ tl))) := by rw [h]; simp
  have hf := find_var (x k) (rest ++ tl) (hx k (by omega))
  refine ⟨_, _, (vF 6 (x k)).length, ih (by omega), ?_, ?_, ?_⟩
  ·rw [e, extract_back]
   exact hf.1
  ·rw [e, extract_back, hf.2, rowOf_succ]
  ·rw [cat_succ, List.length_append]
theorem rowOf_ext (f g : Nat → Int) (n : Nat) (h : ∀ i, i < n → f i = g i) : rowOf f n = rowOf g n := by
 apply nums_ext
 ·rw [rowOf_length, rowOf_length]
 ·intro j hj
  rw [rowOf_length] at hj
  rw [rowOf_get _ _ _ hj, rowOf_get _ _ _ hj, h j hj]
theorem gp_turn (l : List Int) (h : TOk l) (i : Nat) (h1 : 1 ≤ i) (hi : i < l.length) : gp (rowOf (turn l) l.length) i = dif l i := by
 induction i with
 | zero => omega
 | succ i ih =>
  by_cases h0 : i = 0
  ·subst h0
   rw [gp, if_pos rfl, rowOf_get _ _ _ hi]
   have : gp (rowOf (turn l) l.length) 0 = 0 := rfl
   rw [this]
   unfold turn
   rw [if_pos (by omega)]
   omega
  ·rw [gp, if_neg h0, ih (by omega) (by omega), rowOf_get _ _ _ hi]
   have d1 := h.dif (i + 1) hi
   have d2 := h.dif i (by omega)
   unfold turn
   rw [if_neg (by omega), Nat.add_sub_cancel, unz_zig _ (by omega) (by omega)]
   omega
theorem rt_turn (l : List Int) (h : TOk l) (i : Nat) (hi : i < l.length) : rt (rowOf (turn l) l.length) i = l.getD i 0 := by
 induction i with
 | zero =>
  rw [rt, rowOf_get _ _ _ hi]
  unfold turn dif prv
  simp
 | succ i ih =>
  rw [rt, ih (by omega), gp_turn l h (i + 1) (by omega) hi]
  unfold dif
  rw [prv_succ]
  omega
theorem rowT_turn (l : List Int) (h : TOk l) : rowT (rowOf (turn l) l.length) = l := by
 unfold rowT
 rw [rowOf_length]
 apply nums_ext
 ·rw [rowOf_length]
 ·intro j hj
  rw [rowOf_length] at hj
  rw [rowOf_get _ _ _ hj, rt_turn l h j hj]
theorem readT_back (l : List Int) (h : TOk l) (tl : List UInt8) : RdAns showT rowT (txt (cat (tPiece l) l.length ++ tl)) (l.length : Int) l (cat (tPiece l) l.length).length := by
 have hr := rd_cat (fun i => (turn l i).toNat) l.length (fun i hi => by have := h.turn i hi; omega) tl l.length (Nat.le_refl _)
 rw [rowOf_ext (fun i => (((turn l i).toNat : Nat) : Int)) (turn l) l.length (fun i hi => Int.toNat_of_nonneg (h.turn i hi).1)] at hr
 have hy := RdAns.yes (shw := showT) (row := rowT) h.1 h.2.1 hr (by rw [rowT_turn l h]; unfold showT; rw [if_pos h]; exact (extract_front _ _).symm)
 rw [rowT_turn l h] at hy
 exact hy
theorem rv_zig (l : List Int) (h : VOk l) (i : Nat) (hi : i < l.length) : rv (rowOf (fun i => zig (dif l i)) l.length) i = l.getD i 0 := by
 induction i with
 | zero =>
  have d := h.dif 0 hi
  rw [rv, rowOf_get _ _ _ hi, unz_zig _ (by omega) (by omega)]
  unfold dif prv
  simp
 | succ i ih =>
  have d := h.dif (i + 1) hi
  rw [rv, ih (by omega), rowOf_get _ _ _ hi, unz_zig _ (by omega) (by omega)]
  unfold dif
  rw [prv_succ]
  omega
theorem rowV_zig (l : List Int) (h : VOk l) : rowV (rowOf (fun i => zig (dif l i)) l.length) = l := by
 unfold rowV
 rw [rowOf_length]
 apply nums_ext
 ·rw [rowOf_length]
 ·intro j hj
  rw [rowOf_length] at hj
  rw [rowOf_get _ _ _ hj, rv_zig l h j hj]
theorem readV_back (l : List Int) (h : VOk l) (tl : List UInt8) : RdAns showV rowV (txt (cat (vPiece l) l.length ++ tl)) (l.length : Int) l (cat (vPiece l) l.length).length := by
 have hz : ∀ i, i < l.length → 0 ≤ zig (dif l i) := fun i hi => zig_pos _ (by have := h.dif i hi; omega) (by have := h.dif i hi; omega)
 have hr := rd_cat (fun i => (zig (dif l i)).toNat) l.length (fun i hi => by have := (zig_range (dif l i)).2; omega) tl l.length (Nat.le_refl _)
 rw [rowOf_ext (fun i => (((zig (dif l i)).toNat : Nat) : Int)) (fun i => zig (dif l i)) l.length (fun i hi => Int.toNat_of_nonneg (hz i hi))] at hr
 have hy := RdAns.yes (shw := showV) (row := rowV) h.1 h.2.1 hr (by rw [rowV_zig l h]; unfold showV; rw [if_pos h]; exact (extract_front _ _).symm)
 rw [rowV_zig l h] at hy
 exact hy
theorem showT_size (l : List Int) : (showT l).size ≤ 420 := by
 unfold showT
 split
 ·rename_i h
  rw [txt_size]
  have := cat_length (tPiece l) (tPiece_length l) l.length
  have := h.2.1
  omega
 ·rw [txt_size]; simp
theorem showV_size (l : List Int) : (showV l).size ≤ 420 := by
 unfold showV
 split
 ·rename_i h
  rw [txt_size]
  have := cat_length (vPiece l) (vPiece_length l) l.length
  have := h.2.1
  omega
 ·rw [txt_size]; simp
theorem cat_pos (f : Nat → List UInt8) (n : Nat) (h1 : 1 ≤ n) (h : 1 ≤ (f 0).length) : 1 ≤ (cat f n).length := by
 obtain ⟨rest, e⟩ := cat_split f 0 n (by omega)
 rw [e, cat_zero, List.nil_append, List.length_append]
 omega
end Go.Proofs.YtnilgemgjlhibaaDoor
namespace Go.Proofs.YtnilgemgjlhibaaDoor
open Go.RowKit Go.PlainAid
def ts (l : List Pnt) : List Int := l.map fun p => p.t
def vs (l : List Pnt) : List Int := l.map fun p => p.v
theorem ts_length (l : List Pnt) : (ts l).length = l.length := by simp [ts]
theorem vs_length (l : List Pnt) : (vs l).length = l.length := by simp [vs]
theorem ts_get (l : List Pnt) (j : Nat) (h : j < l.length) : (ts l).getD j 0 = tAt l j := by
 rw [tAt, ← getD_at l j h]
 simp [ts, List.getD, h]
theorem vs_get (l : List Pnt) (j : Nat) (h : j < l.length) : (vs l).getD j 0 = vAt l j := by
 rw [vAt, ← getD_at l j h]
 simp [vs, List.getD, h]
theorem rows_of_ok {l : List Pnt} (h : POk l) (h1 : 1 ≤ l.length) : TOk (ts l) ∧ VOk (vs l) := by
 refine ⟨⟨by rw [ts_length]; exact h1, by rw [ts_length]; exact h.1, fun j hj => ?_⟩, by rw [vs_length]; exact h1, by rw [vs_length]; exact h.1, fun j hj => ?_⟩
 ·rw [ts_length] at hj
  rw [ts_get l j hj]
  refine ⟨(h.2 j hj).1.1, fun h0 => ?_⟩
  rw [ts_get l (j - 1) (by omega)]
  exact (h.2 j hj).2 h0
 ·rw [vs_length] at hj
  rw [vs_get l j hj]
  exact (h.2 j hj).1.2
def zipP (t v : List Int) : List Pnt := List.zipWith Pnt.mk t v
theorem zipP_length (t v : List Int) : (zipP t v).length = min t.length v.length := by simp [zipP]
theorem zipP_rows : ∀ l : List Pnt, zipP (ts l) (vs l) = l
 | [] => rfl
 | p :: l => by
  have := zipP_rows l
  simp only [zipP, ts, vs, List.map_cons, List.zipWith_cons_cons] at this ⊢
  rw [this]
theorem zipP_get (t v : List Int) (k : Nat) (h1 : k < t.length) (h2 : k < v.length) : (zipP t v).take (k + 1) = (zipP t v).take k ++ [⟨t.getD k 0, v.getD k 0⟩] := by
 have hk : k < (zipP t v).length := by rw [zipP_length]; omega
 rw [List.take_succ_eq_append_getElem hk]
 congr 2
 simp [zipP, List.getD, h1, h2]
def bodyB (l : List Pnt) : List UInt8 := vF 6 l.length ++ (cat (tPiece (ts l)) l.length ++ cat (vPiece (vs l)) l.length)
def showB (l : List Pnt) : ByteArray := if 1 ≤ l.length ∧ POk l then frame (txt (vF 6 l.length) ++ showT (ts l) ++ showV (vs l)) else txt []
theorem body_is {l : List Pnt} (h : POk l) (h1 : 1 ≤ l.length) : txt (vF 6 l.length) ++ showT (ts l) ++ showV (vs l) = txt (bodyB l) := by
 obtain ⟨ht, hv⟩ := rows_of_ok h h1
 unfold showT showV bodyB
 rw [if_pos ht, if_pos hv, ts_length, vs_length, txt_cat, txt_cat, List.append_assoc]
theorem bodyB_size {l : List Pnt} (h : POk l) : 1 ≤ (bodyB l).length ∧ (bodyB l).length ≤ 847 := by
 have h1 := vF_pos 6 l.length
 have h2 := vF_length 6 l.length
 have h3 := cat_length (tPiece (ts l)) (tPiece_length (ts l)) l.length
 have h4 := cat_length (vPiece (vs l)) (vPiece_length (vs l)) l.length
 have := h.1
 unfold bodyB
 simp only [List.length_append]
 omega
def Good (s : ByteArray) (l : List Pnt) : Prop := 1 ≤ l.length ∧ POk l ∧ showB l = s
theorem Good.frame {s : ByteArray} {l : List Pnt} (h : Good s l) : s = frameOf (txt (bodyB l)) := by
 obtain ⟨h1, h2, rfl⟩ := h
 have hb := bodyB_size h2
 rw [showB, if_pos ⟨h1, h2⟩, body_is h2 h1, Go.Proofs.YtnilgemgjlhibaaDoor.frame, if_neg (by rw [txt_size]; omega)]
theorem Good.read {s : ByteArray} {l : List Pnt} (h : Good s l) : code s = 0 ∧ 8 + rdv s 4 = s.size ∧ bodyOf s = txt (bodyB l) := by
 have hf := h.frame
 have hb := bodyB_size h.2.1
 have e : s = frameOf (txt (bodyB l)) ++ ByteArray.empty := by rw [ByteArray.append_empty]; exact hf
 have hz : (txt (bodyB l)).size ≤ 2000 := by rw [txt_size]; omega
 refine ⟨by rw [e]; exact code_frameOf _ _ (by rw [txt_size]; omega) hz, ?_, by rw [e]; exact bodyOf_frameOf _ _ hz⟩
 have h4 : rdv s 4 = (txt (bodyB l)).size := by rw [e]; exact rdv_frameOf _ _ hz
 rw [h4, hf, frameOf_size]
def RdV (s : ByteArray) (n : Int) (k : Nat) : Prop := (FindV s k ∧ n = (vvS s 0 k : Int)) ∨ ((∀ j, ¬ FindV s j) ∧ n = 0 ∧ k = 0)
theorem ReadV.rd {s : ByteArray} {e : Ending} (h : ReadV s e) : ∃ n k, RdV s n k ∧ e = .returned (.tuple #[.int .i64 n, .int .i64 (k : Int)]) := by
 rcases h with ⟨k, h1, h2⟩ | ⟨h1, h2⟩
 ·exact ⟨_, k, .inl ⟨h1, rfl⟩, h2⟩
 ·exact ⟨0, 0, .inr ⟨h1, rfl, rfl⟩, h2⟩
theorem RdV.one {s : ByteArray} {n n' : Int} {k k' : Nat} (h : RdV s n k) (h' : RdV s n' k') : n = n' ∧ k = k' := by
 rcases h with ⟨h1, h2⟩ | ⟨h1, h2, h3⟩ <;> rcases h' with ⟨h1', h2'⟩ | ⟨h1', h2', h3'⟩
 ·obtain rfl := h1.one h1'
  exact ⟨h2.trans h2'.symm, rfl⟩
 ·exact absurd h1 (h1' k)
 ·exact absurd h1' (h1 k')
 ·exact ⟨h2.trans h2'.symm, h3.trans h3'.symm⟩
theorem RdV.le {s : ByteArray} {n : Int} {k : Nat} (h : RdV s n k) : k ≤ s.size ∧ k ≤ 7 ∧ 0 ≤ n := by
 rcases h with ⟨⟨_, h2, h3, _⟩, h4⟩ | ⟨_, h2, h3⟩
 ·exact ⟨h3, h2, by omega⟩
 ·omega
def bodyR (s : ByteArray) : ByteArray := if code s = 0 then bodyOf s else ⟨#[]⟩
theorem bodyR_size (s : ByteArray) : (bodyR s).size ≤ 2000 := by
 unfold bodyR
 split
 ·rename_i h
  obtain ⟨_, _, h2, h8, _⟩ := (code_zero s).1 h
  rw [bodyOf_size s h8]
  exact h2
 ·exact Nat.zero_le _
structure Steps (s : ByteArray) (n : Int) (k : Nat) (t : List Int) (a : Nat) (v : List Int) (b : Nat) : Prop where
 rn : RdV (bodyR s) n k
 rt : RdAns showT rowT ((bodyR s).extract k (bodyR s).size) n t a
 rv : RdAns showV rowV ((bodyR s).extract (k + a) (bodyR s).size) n v b
theorem Good.steps {s : ByteArray} {l : List Pnt} (h : Good s l) : Steps s (l.length : Int) (vF 6 l.length).length (ts l) (cat (tPiece (ts l)) l.length).length (vs l) (cat (vPiece (vs l)) l.length).length := by
 obtain ⟨hc, _, hb⟩ := h.read
 obtain ⟨ht, hv⟩ := rows_of_ok h.2.1 h.1
 have hB : bodyR s = txt (bodyB l) := by rw [bodyR, if_pos hc, hb]
 have hn : l.length ≤ 562949953421311 := by have := h.2.1.1; omega
 have hf := find_var l.length (cat (tPiece (ts l)) l.length ++ cat (vPiece (vs l)) l.length) hn
 refine ⟨?_, ?_, ?_⟩
 ·rw [hB]
  exact .inl ⟨hf.1, by unfold bodyB; rw [hf.2]⟩
 ·rw [hB, bodyB, extract_back]
  have := readT_back (ts l) ht (cat (vPiece (vs l)) l.length)
  rw [ts_length] at this
  exact this
 ·rw [hB]
  have e : bodyB l = (vF 6 l.length ++ cat (tPiece (ts l)) l.length) ++ cat (vPiece (vs l)) l.length := by rw [bodyB, List.append_assoc]
  have := readV_back (vs l) hv []
  rw [vs_length, List.append_nil] at this
  rw [e, ← List.length_append, extract_back]
  exact this
theorem Steps.one {s : ByteArray} {n n' : Int} {k k' a a' b b' : Nat} {t t' v v' : List Int} (h : Steps s n k t a v b) (h' : Steps s n' k' t' a' v' b') : n = n' ∧ k = k' ∧ t = t' ∧ a = a' ∧ v = v' ∧ b = b' := by
 obtain ⟨rfl, rfl⟩ := h.rn.one h'.rn
 obtain ⟨rfl, rfl⟩ := h.rt.one h'.rt
 obtain ⟨rfl, rfl⟩ := h.rv.one h'.rv
 exact ⟨rfl, rfl, rfl, rfl, rfl, rfl⟩
theorem Steps.good {s : ByteArray} {n : Int} {k a b : Nat} {t v : List Int} (h : Steps s n k t a v b) {l : List Pnt} (hg : Good s l) : zipP t v = l ∧ n = (l.length : Int) ∧ t = ts l ∧ v = vs l ∧ 1 ≤ k ∧ 1 ≤ a ∧ 1 ≤ b ∧ k + a + b = (bodyR s).size := by
 obtain ⟨rfl, rfl, rfl, rfl, rfl, rfl⟩ := h.one hg.steps
 obtain ⟨hc, _, hb⟩ := hg.read
 have hB : bodyR s = txt (bodyB l) := by rw [bodyR, if_pos hc, hb]
 refine ⟨zipP_rows l, rfl, rfl, rfl, vF_pos _ _, cat_pos _ _ hg.1 (vF_pos _ _), cat_pos _ _ hg.1 (vF_pos _ _), ?_⟩
 rw [hB, txt_size, bodyB]
 simp only [List.length_append]
 omega
theorem Good.one {s : ByteArray} {l m : List Pnt} (h : Good s l) (h' : Good s m) : l = m := by
 have := (h.steps.good h').1
 rw [zipP_rows] at this
 exact this
theorem RdAns.pos {shw : List Int → ByteArray} {row : List Int → List Int} {s : ByteArray} {n : Int} {l : List Int} {k : Nat} (hrow : ∀ v, (row v).length = v.length) (h : RdAns shw row s n l k) (hk : k ≠ 0) : n = (l.length : Int) ∧ 1 ≤ l.length ∧ l.length ≤ 60 ∧ shw l = s.extract 0 k ∧ k ≤ s.size := by
 rcases h with ⟨m, v, h1, h2, h3, h4, h5, h6⟩ | ⟨_, _, h0⟩
 ·have hl : l.length = m := by rw [h6, hrow, h4.length]
  exact ⟨by rw [hl]; exact h1, by omega, by omega, by rw [h6]; exact h5, h4.le.2⟩
 ·exact absurd h0 hk
theorem Steps.empty {n : Int} {k a b : Nat} {t v : List Int} (h : Steps (txt []) n k t a v b) : t = [] := by
 have hc : ¬ code (txt []) = 0 := fun hc => by
  obtain ⟨h4, _⟩ := (code_zero _).1 hc
  rw [txt_size] at h4
  simp at h4
 have hB : bodyR (txt []) = ⟨#[]⟩ := by rw [bodyR, if_neg hc]
 have hz : n = 0 := by
  rcases h.rn with ⟨⟨h1, _, h3, _⟩, _⟩ | ⟨_, h0, _⟩
  ·rw [hB] at h3
   have : (ByteArray.mk #[]).size = 0 := rfl
   omega
  ·exact h0
 rcases h.rt with ⟨m, v, h1, h2, _⟩ | ⟨_, h0, _⟩
 ·omega
 ·exact h0
theorem Steps.shown {s : ByteArray} {n : Int} {k a b : Nat} {t v : List Int} (h : Steps s n k t a v b) (h1 : 1 ≤ (zipP t v).length) (hs : showB (zipP t v) = s) : Good s (zipP t v) := by
 by_cases hp : POk (zipP t v)
 ·exact ⟨h1, hp, hs⟩
 ·exfalso
  rw [showB, if_neg (fun hh => hp hh.2)] at hs
  subst hs
  rw [h.empty] at h1
  simp [zipP] at h1
def RbAns (s : ByteArray) (l : List Pnt) (ok : Bool) : Prop := (ok = true ∧ Good s l) ∨ (ok = false ∧ l = [] ∧ ∀ m, ¬ Good s m)
theorem RbAns.one {s : ByteArray} {l m : List Pnt} {x y : Bool} (h : RbAns s l x) (h' : RbAns s m y) : l = m ∧ x = y := by
 rcases h with ⟨h1, h2⟩ | ⟨h1, h2, h3⟩ <;> rcases h' with ⟨h1', h2'⟩ | ⟨h1', h2', h3'⟩
 ·exact ⟨h2.one h2', h1.trans h1'.symm⟩
 ·exact absurd h2 (h3' l)
 ·exact absurd h2' (h3 m)
 ·exact ⟨h2.trans h2'.symm, h1.trans h1'.symm⟩
theorem RbAns.len {s : ByteArray} {l : List Pnt} {x : Bool} (h : RbAns s l x) : l.length ≤ 60 := by
 rcases h with ⟨_, h2⟩ | ⟨_, h2, _⟩
 ·exact h2.2.1.1
 ·rw [h2]; simp
theorem showB_size (l : List Pnt) : (showB l).size ≤ 900 := by
 unfold showB
 split
 ·rename_i h
  have hb := bodyB_size h.2
  rw [body_is h.2 h.1, frame, if_neg (by rw [txt_size]; omega), frameOf_size, txt_size]
  omega
 ·rw [txt_size]; simp
end Go.Proofs.YtnilgemgjlhibaaDoor
namespace Go.Proofs.YtnilgemgjlhibaaDoor
open Go.RowKit Go.PlainAid
def bl (s : ByteArray) : List UInt8 := s.data.toList
theorem txt_bl (s : ByteArray) : txt (bl s) = s := txt_toList s
theorem bl_length (s : ByteArray) : (bl s).length = s.size := by rw [← txt_size, txt_bl]
def magic : List UInt8 := [116, 115, 98, 49]
def blkB (l : List Ser) (j : Nat) : List UInt8 := bl (showB (sAt l j).pts)
def blks (l : List Ser) (k : Nat) : List UInt8 := cat (blkB l) k
def atB (l : List Ser) (k : Nat) : Nat := 4 + (blks l k).length
def fT (l : List Ser) (j : Nat) : Nat := (tAt (sAt l j).pts 0).toNat
def lT (l : List Ser) (j : Nat) : Nat := (tAt (sAt l j).pts ((sAt l j).pts.length - 1)).toNat
def spB (l : List Ser) (j : Nat) : List UInt8 := vF 6 (sAt l j).key.size ++ (bl (sAt l j).key ++ (vF 6 (atB l j) ++ (vF 6 (blkB l j).length ++ (vF 6 (fT l j) ++ vF 6 (lT l j)))))
def idxB (l : List Ser) (k : Nat) : List UInt8 := cat (spB l) k
def bodyF (l : List Ser) : List UInt8 := magic ++ (blks l l.length ++ (idxB l l.length ++ low (atB l l.length) 4))
def fileB (l : List Ser) : List UInt8 := bodyF l ++ low (crc (txt (bodyF l))) 4
def fileT (l : List Ser) : ByteArray := if 1 ≤ l.length ∧ SOk l then txt (fileB l) else txt []
def GoodF (s : ByteArray) (l : List Ser) : Prop := 1 ≤ l.length ∧ SOk l ∧ fileT l = s
theorem GoodF.text {s : ByteArray} {l : List Ser} (h : GoodF s l) : s = txt (fileB l) := by
 rw [← h.2.2, fileT, if_pos ⟨h.1, h.2.1⟩]
theorem blkB_length (l : List Ser) (j : Nat) : (blkB l j).length ≤ 900 := by unfold blkB; rw [bl_length]; exact showB_size _
theorem blks_length (l : List Ser) (k : Nat) : (blks l k).length ≤ 900 * k := by
 induction k with
 | zero => simp [blks, cat_zero]
 | succ k ih => unfold blks at ih ⊢; rw [cat_succ, List.length_append]; have := blkB_length l k; omega
theorem SOk.key {l : List Ser} (h : SOk l) (j : Nat) (hj : j < l.length) : 1 ≤ (sAt l j).key.size ∧ (sAt l j).key.size ≤ 8 := ⟨(h.2 j hj).1.1.1, (h.2 j hj).1.1.2.1⟩
theorem SOk.times {l : List Ser} (h : SOk l) (j : Nat) (hj : j < l.length) : (0 ≤ tAt (sAt l j).pts 0 ∧ tAt (sAt l j).pts 0 ≤ 1099511627776) ∧ (0 ≤ tAt (sAt l j).pts ((sAt l j).pts.length - 1) ∧ tAt (sAt l j).pts ((sAt l j).pts.length - 1) ≤ 1099511627776) := by
 have h1 := (h.2 j hj).2
 exact ⟨(h1.2.2 0 (by omega)).1.1, (h1.2.2 _ (by omega)).1.1⟩
theorem spB_length {l : List Ser} (h : SOk l) (j : Nat) (hj : j < l.length) : 6 ≤ (spB l j).length ∧ (spB l j).length ≤ 43 := by
 have := h.key j hj
 unfold spB
 simp only [List.length_append, bl_length]
 have a1 := vF_pos 6 (sAt l j).key.size
 have a2 := vF_pos 6 (atB l j)
 have a3 := vF_pos 6 (blkB l j).length
 have a4 := vF_pos 6 (fT l j)
 have a5 := vF_pos 6 (lT l j)
 have b1 := vF_length 6 (sAt l j).key.size
 have b2 := vF_length 6 (atB l j)
 have b3 := vF_length 6 (blkB l j).length
 have b4 := vF_length 6 (fT l j)
 have b5 := vF_length 6 (lT l j)
 omega
theorem idxB_length {l : List Ser} (h : SOk l) (k : Nat) (hk : k ≤ l.length) : 6 * k ≤ (idxB l k).length ∧ (idxB l k).length ≤ 43 * k := by
 induction k with
 | zero => simp [idxB, cat_zero]
 | succ k ih =>
  have ih := ih (by omega)
  have := spB_length h k (by omega)
  unfold idxB at ih ⊢
  rw [cat_succ, List.length_append]
  omega
theorem atB_le {l : List Ser} (h : SOk l) (k : Nat) (hk : k ≤ l.length) : atB l k ≤ 4504 := by
 have := blks_length l k
 have := h.1
 unfold atB
 omega
theorem bodyF_length {l : List Ser} (h : SOk l) : (bodyF l).length = 8 + (blks l l.length).length + (idxB l l.length).length ∧ (bodyF l).length ≤ 5000 := by
 have h1 := blks_length l l.length
 have h2 := idxB_length h l.length (Nat.le_refl _)
 have := h.1
 unfold bodyF
 simp only [List.length_append, low_length]
 have : magic.length = 4 := rfl
 omega
theorem fileB_length (l : List Ser) : (fileB l).length = (bodyF l).length + 4 := by unfold fileB; rw [List.length_append, low_length]
theorem fileT_size (l : List Ser) : (fileT l).size ≤ 5004 := by
 unfold fileT
 split
 ·rename_i h
  rw [txt_size, fileB_length]
  have := bodyF_length h.2
  omega
 ·rw [txt_size]; simp
theorem rdV_ex (s : ByteArray) : ∃ n k : Nat, RdV s (n : Int) k := by
 by_cases h : ∃ k, FindV s k
 ·obtain ⟨k, h⟩ := h
  exact ⟨vvS s 0 k, k, .inl ⟨h, rfl⟩⟩
 ·exact ⟨0, 0, .inr ⟨fun j hj => h ⟨j, hj⟩, rfl, rfl⟩⟩
noncomputable def rvN (s : ByteArray) : Nat := Classical.choose (rdV_ex s)
noncomputable def rvK (s : ByteArray) : Nat := Classical.choose (Classical.choose_spec (rdV_ex s))
theorem rv_rd (s : ByteArray) : RdV s (rvN s : Int) (rvK s) := Classical.choose_spec (Classical.choose_spec (rdV_ex s))
theorem rv_is {s : ByteArray} {n : Int} {k : Nat} (h : RdV s n k) : n = (rvN s : Int) ∧ k = rvK s := h.one (rv_rd s)
theorem rvN_le (s : ByteArray) : rvN s ≤ 562949953421311 := by
 rcases rv_rd s with ⟨⟨_, h7, _, _⟩, h⟩ | ⟨_, h, _⟩
 ·have := vvS_le s (rvK s) h7 0
  omega
 ·omega
theorem rvK_le (s : ByteArray) : rvK s ≤ s.size ∧ rvK s ≤ 7 := by
 have := (rv_rd s).le
 omega
theorem rv_var (n : Nat) (tl : List UInt8) (hn : n ≤ 562949953421311) : rvN (txt (vF 6 n ++ tl)) = n ∧ rvK (txt (vF 6 n ++ tl)) = (vF 6 n).length := by
 have hf := find_var n tl hn
 have := rv_is (s := txt (vF 6 n ++ tl)) (n := (n : Int)) (k := (vF 6 n).length) (.inl ⟨hf.1, by rw [hf.2]⟩)
 omega
theorem extract_mid (a b c : List UInt8) : (txt (a ++ (b ++ c))).extract a.length (a.length + b.length) = txt b := by
 have h1 := extract_back a (b ++ c)
 have h2 := extract_front b c
 rw [← h1, ByteArray.extract_extract] at h2
 rw [← h2]
 congr 1
 rw [txt_size]
 simp only [List.length_append]
 omega
theorem rest_mid (a b : List UInt8) : rest (txt (a ++ b)) a.length = txt b := extract_back a b
noncomputable def tkN (s : ByteArray) (p : Nat) : Nat := rvN (rest s p)
noncomputable def tkP (s : ByteArray) (p : Nat) : Nat := p + rvK (rest s p)
theorem tkP_le (s : ByteArray) (p : Nat) (h : p ≤ s.size) : tkP s p ≤ s.size := by
 have := (rvK_le (rest s p)).1
 rw [rest_size] at this
 unfold tkP
 omega
theorem tk_var (a : List UInt8) (n : Nat) (tl : List UInt8) (hn : n ≤ 562949953421311) : tkN (txt (a ++ (vF 6 n ++ tl))) a.length = n ∧ tkP (txt (a ++ (vF 6 n ++ tl))) a.length = (a ++ vF 6 n).length := by
 unfold tkN tkP
 rw [rest_mid, (rv_var n tl hn).1, (rv_var n tl hn).2, List.length_append]
 exact ⟨rfl, rfl⟩
structure Spot where
 key : ByteArray
 at' : Nat
 size : Nat
 first : Nat
 last : Nat
instance : Inhabited Spot := ⟨⟨⟨#[]⟩, 0, 0, 0, 0⟩⟩
def tk (s : ByteArray) (p many : Nat) : Nat := min (p + many) s.size
noncomputable def spK (s : ByteArray) (p : Nat) : Nat := tk s (tkP s p) (tkN s p)
noncomputable def spotA (s : ByteArray) (p : Nat) : Spot :=
 ⟨s.extract (tkP s p) (spK s p), tkN s (spK s p), tkN s (tkP s (spK s p)), tkN s (tkP s (tkP s (spK s p))), tkN s (tkP s (tkP s (tkP s (spK s p))))⟩
noncomputable def spotP (s : ByteArray) (p : Nat) : Nat := tkP s (tkP s (tkP s (tkP s (spK s p))))
theorem tk_le (s : ByteArray) (p many : Nat) : tk s p many ≤ s.size := Nat.min_le_right _ _
theorem spotP_le (s : ByteArray) (p : Nat) : spotP s p ≤ s.size := tkP_le _ _ (tkP_le _ _ (tkP_le _ _ (tkP_le _ _ (tk_le _ _ _))))
noncomputable def idxA (s : ByteArray) (e : Nat) : Nat → Nat → List Spot
 | 0, _ => []
 | f + 1, p => if p < e then spotA s p :: idxA s e f (spotP s p) else []
noncomputable def spots (s : ByteArray) : List Spot := if s.size < 8 then [] else idxA s (s.size - 8) 5 (min (rdv (rest s (s.size - 8)) 4) s.size)
theorem idxA_length (s : ByteArray) (e : Nat) : ∀ f p, (idxA s e f p).length ≤ f
 | 0, _ => by simp [idxA]
 | f + 1, p => by
  rw [idxA]
  split
  ·have := idxA_length s e f (spotP s p)
   simp only [List.length_cons]
   omega
  ·simp
theorem spots_length (s : ByteArray) : (spots s).length ≤ 5 := by
 unfold spots
 split
 ·simp
 ·exact idxA_length _ _ _ _
def blkA (s : ByteArray) (x : Spot) : ByteArray := s.extract (min x.at' s.size) (tk s (min x.at' s.size) x.size)
theorem rb_ex (s : ByteArray) : ∃ l ok, RbAns s l ok := by
 by_cases h : ∃ l, Good s l
 ·obtain ⟨l, h⟩ := h
  exact ⟨l, true, .inl ⟨rfl, h⟩⟩
 ·exact ⟨[], false, .inr ⟨rfl, rfl, fun m hm => h ⟨m, hm⟩⟩⟩
noncomputable def rbP (s : ByteArray) : List Pnt := Classical.choose (rb_ex s)
theorem rbP_is {s : ByteArray} {l : List Pnt} {ok : Bool} (h : RbAns s l ok) : l = rbP s := by
 obtain ⟨ok', h'⟩ := Classical.choose_spec (rb_ex s)
 exact (h.one h').1
theorem rbP_good {s : ByteArray} {l : List Pnt} (h : Good s l) : rbP s = l := (rbP_is (ok := true) (.inl ⟨rfl, h⟩)).symm
theorem rbP_length (s : ByteArray) : (rbP s).length ≤ 60 := by
 obtain ⟨ok, h⟩ := Classical.choose_spec (rb_ex s)
 exact h.len
noncomputable def serA (s : ByteArray) (x : Spot) : Ser := ⟨x.key, rbP (blkA s x)⟩
noncomputable def serAll (s : ByteArray) : List Ser := (spots s).map (serA s)
def spotOf (l : List Ser) (j : Nat) : Spot := ⟨(sAt l j).key, atB l j, (blkB l j).length, fT l j, lT l j⟩
def posF (l : List Ser) (j : Nat) : Nat := atB l l.length + (idxB l j).length
theorem file_at (l : List Ser) (j : Nat) (hj : j < l.length) : ∃ a b : List UInt8, fileB l = a ++ (spB l j ++ (b ++ (low (atB l l.length) 4 ++ low (crc (txt (bodyF l))) 4))) ∧ a.length = posF l j ∧ idxB l l.length = idxB l j ++ (spB l j ++ b) := by
 obtain ⟨b, hb⟩ := cat_split (spB l) j l.length hj
 refine ⟨magic ++ (blks l l.length ++ idxB l j), b, ?_, ?_, hb⟩
 ·unfold fileB bodyF
  rw [show idxB l l.length = cat (spB l) l.length from rfl, hb]
  simp only [List.append_assoc]
  rfl
 ·unfold posF atB
  simp only [List.length_append]
  have : magic.length = 4 := rfl
  omega
theorem posF_end {l : List Ser} (h : SOk l) : posF l l.length + 8 = (fileB l).length := by
 have := bodyF_length h
 rw [fileB_length, this.1]
 unfold posF atB
 omega
theorem posF_lt {l : List Ser} (h : SOk l) (j : Nat) (hj : j < l.length) : posF l j < posF l l.length := by
 obtain ⟨a, b, _, _, hb⟩ := file_at l j hj
 have := spB_length h j hj
 unfold posF
 rw [hb]
 simp only [List.length_append]
 omega
theorem posF_succ (l : List Ser) (j : Nat) : posF l (j + 1) = posF l j + (spB l j).length := by
 unfold posF idxB
 rw [cat_succ, List.length_append, Nat.add_assoc]
theorem nums_le {l : List Ser} (h : SOk l) (j : Nat) (hj : j < l.length) : (sAt l j).key.size ≤ 562949953421311 ∧ atB l j ≤ 562949953421311 ∧ (blkB l j).length ≤ 562949953421311 ∧ fT l j ≤ 562949953421311 ∧ lT l j ≤ 562949953421311 := by
 have h1 := h.key j hj
 have h2 := atB_le h j (by omega)
 have h3 := blkB_length l j
 have h4 := h.times j hj
 unfold fT lT
 omega
theorem spot_read {l : List Ser} (h : SOk l) (j : Nat) (hj : j < l.length) : spotA (txt (fileB l)) (posF l j) = spotOf l j ∧ spotP (txt (fileB l)) (posF l j) = posF l (j + 1) := by
 obtain ⟨a, b, hf, ha, _⟩ := file_at l j hj
 obtain ⟨n1, n2, n3, n4, n5⟩ := nums_le h j hj
 generalize hK : (sAt l j).key = K at *
 generalize hA : atB l j = A at *
 generalize hZ : (blkB l j).length = Z at *
 generalize hF : fT l j = F at *
 generalize hE : lT l j = E at *
 generalize b ++ (low (atB l l.length) 4 ++ low (crc (txt (bodyF l))) 4) = T at hf
 have hsp : spB l j = vF 6 K.size ++ (bl K ++ (vF 6 A ++ (vF 6 Z ++ (vF 6 F ++ vF 6 E)))) := by unfold spB; rw [hK, hA, hZ, hF, hE]
 have e0 : fileB l = a ++ (vF 6 K.size ++ (bl K ++ (vF 6 A ++ (vF 6 Z ++ (vF 6 F ++ (vF 6 E ++ T)))))) := by rw [hf, hsp]; simp only [List.append_assoc]
 have e1 : fileB l = (a ++ vF 6 K.size) ++ (bl K ++ (vF 6 A ++ (vF 6 Z ++ (vF 6 F ++ (vF 6 E ++ T))))) := by rw [e0]; simp only [List.append_assoc]
 have e2 : fileB l = (a ++ vF 6 K.size ++ bl K) ++ (vF 6 A ++ (vF 6 Z ++ (vF 6 F ++ (vF 6 E ++ T)))) := by rw [e0]; simp only [List.append_assoc]
 have e3 : fileB l = (a ++ vF 6 K.size ++ bl K ++ vF 6 A) ++ (vF 6 Z ++ (vF 6 F ++ (vF 6 E ++ T))) := by rw [e0]; simp only [List.append_assoc]
 have e4 : fileB l = (a ++ vF 6 K.size ++ bl K ++ vF 6 A ++ vF 6 Z) ++ (vF 6 F ++ (vF 6 E ++ T)) := by rw [e0]; simp only [List.append_assoc]
 have e5 : fileB l = (a ++ vF 6 K.size ++ bl K ++ vF 6 A ++ vF 6 Z ++ vF 6 F) ++ (vF 6 E ++ T) := by rw [e0]; simp only [List.append_assoc]
 have t1 := tk_var a K.size (bl K ++ (vF 6 A ++ (vF 6 Z ++ (vF 6 F ++ (vF 6 E ++ T))))) n1
 rw [← e0] at t1
 have k1 : spK (txt (fileB l)) a.length = (a ++ vF 6 K.size ++ bl K).length := by
  unfold spK tk
  rw [t1.1, t1.2, txt_size, e2]
  simp only [List.length_append, bl_length]
  omega
 have x1 := extract_mid (a ++ vF 6 K.size) (bl K) (vF 6 A ++ (vF 6 Z ++ (vF 6 F ++ (vF 6 E ++ T))))
 rw [← e1, ← List.length_append] at x1
 have t2 := tk_var (a ++ vF 6 K.size ++ bl K) A (vF 6 Z ++ (vF 6 F ++ (vF 6 E ++ T))) n2
 rw [← e2] at t2
 have t3 := tk_var (a ++ vF 6 K.size ++ bl K ++ vF 6 A) Z (vF 6 F ++ (vF 6 E ++ T)) n3
 rw [← e3] at t3
 have t4 := tk_var (a ++ vF 6 K.size ++ bl K ++ vF 6 A ++ vF 6 Z) F (vF 6 E ++ T) n4
 rw [← e4] at t4
 have t5 := tk_var (a ++ vF 6 K.size ++ bl K ++ vF 6 A ++ vF 6 Z ++ vF 6 F) E T n5
 rw [← e5] at t5
 rw [posF_succ, ← ha]
 unfold spotA spotP
 rw [k1, t1.2, t2.1, t2.2, t3.1, t3.2, t4.1, t4.2, t5.1, t5.2, x1]
 refine ⟨?_, ?_⟩
 ·unfold spotOf
  rw [hK, hA, hZ, hF, hE, txt_bl]
 ·rw [hsp]
  simp only [List.length_append]
  omega
theorem idx_read {l : List Ser} (h : SOk l) (d : Nat) : ∀ j f, j + d = l.length → d ≤ f → idxA (txt (fileB l)) (posF l l.length) f (posF l j) = (List.range d).map fun i => spotOf l (j + i) := by
 induction d with
 | zero =>
  intro j f hj _
  obtain rfl : j = l.length := by omega
  cases f with
  | zero => rfl
  | succ f => rw [idxA, if_neg (by omega)]; rfl
 | succ d ih =>
  intro j f hj hf
  match f, hf with
  | f + 1, hf =>
   rw [idxA, if_pos (posF_lt h j (by omega)), (spot_read h j (by omega)).1, (spot_read h j (by omega)).2, ih (j + 1) f (by omega) (by omega), List.range_succ_eq_map, List.map_cons, List.map_map, Nat.add_zero]
   congr 1
   apply List.map_congr_left
   intro i _
   show spotOf l (j + 1 + i) = spotOf l (j + (i + 1))
   congr 1
   omega
theorem begin_read {l : List Ser} (h : SOk l) : rdv (rest (txt (fileB l)) ((txt (fileB l)).size - 8)) 4 = atB l l.length ∧ 12 ≤ (txt (fileB l)).size := by
 have hb := atB_le h l.length (Nat.le_refl _)
 have hl := bodyF_length h
 have e : fileB l = (magic ++ (blks l l.length ++ idxB l l.length)) ++ (low (atB l l.length) 4 ++ low (crc (txt (bodyF l))) 4) := by
  unfold fileB
  conv => lhs; arg 1; unfold bodyF
  simp only [List.append_assoc]
 have hz : (txt (fileB l)).size - 8 = (magic ++ (blks l l.length ++ idxB l l.length)).length := by
  rw [txt_size, fileB_length, hl.1]
  simp only [List.length_append]
  have : magic.length = 4 := rfl
  omega
 refine ⟨?_, by rw [txt_size, fileB_length, hl.1]; omega⟩
 rw [hz]
 conv => lhs; arg 1; rw [e]
 rw [rest_mid, ← txt_cat, rdv_append _ _ _ (by rw [txt_size, low_length]; exact Nat.le_refl _)]
 exact rdv_four_four _ (by omega)
theorem spots_read {l : List Ser} (h : SOk l) : spots (txt (fileB l)) = (List.range l.length).map (spotOf l) := by
 obtain ⟨h1, h2⟩ := begin_read h
 have hp := posF_end h
 have hb := atB_le h l.length (Nat.le_refl _)
 have h5 := h.1
 have hl := bodyF_length h
 have e0 : min (atB l l.length) (txt (fileB l)).size = posF l 0 := by
  rw [txt_size, fileB_length, hl.1]
  unfold posF idxB
  rw [cat_zero]
  unfold atB
  simp only [List.length_nil]
  omega
 have ee : (txt (fileB l)).size - 8 = posF l l.length := by rw [txt_size]; omega
 unfold spots
 rw [if_neg (by omega), h1, e0, ee, idx_read h l.length 0 5 (by omega) h5]
 simp only [Nat.zero_add]
theorem blk_read {l : List Ser} (j : Nat) (hj : j < l.length) : blkA (txt (fileB l)) (spotOf l j) = showB (sAt l j).pts := by
 obtain ⟨c, hc⟩ := cat_split (blkB l) j l.length hj
 have e : ∃ T, fileB l = (magic ++ blks l j) ++ (blkB l j ++ T) := by
  refine ⟨c ++ (idxB l l.length ++ low (atB l l.length) 4) ++ low (crc (txt (bodyF l))) 4, ?_⟩
  unfold fileB
  conv => lhs; arg 1; unfold bodyF
  rw [show blks l l.length = cat (blkB l) l.length from rfl, hc]
  simp only [List.append_assoc]
  rfl
 obtain ⟨T, e⟩ := e
 have ha : atB l j = (magic ++ blks l j).length := by
  unfold atB
  rw [List.length_append]
  rfl
 have hm := extract_mid (magic ++ blks l j) (blkB l j) T
 unfold blkA spotOf tk
 simp only
 rw [txt_size, ha, e]
 rw [show min (magic ++ blks l j).length ((magic ++ blks l j) ++ (blkB l j ++ T)).length = (magic ++ blks l j).length by simp only [List.length_append]; omega,
  show min ((magic ++ blks l j).length + (blkB l j).length) ((magic ++ blks l j) ++ (blkB l j ++ T)).length = (magic ++ blks l j).length + (blkB l j).length by simp only [List.length_append]; omega, hm]
 exact txt_bl _
theorem ser_read {l : List Ser} (h : SOk l) (j : Nat) (hj : j < l.length) : serA (txt (fileB l)) (spotOf l j) = sAt l j := by
 have hg : Good (showB (sAt l j).pts) (sAt l j).pts := ⟨(h.2 j hj).2.1, (h.2 j hj).2.2, rfl⟩
 unfold serA
 rw [blk_read j hj, rbP_good hg]
 rfl
theorem range_at (l : List Ser) : (List.range l.length).map (sAt l) = l := by
 apply List.ext_getElem (by simp)
 intro j h1 h2
 rw [List.getElem_map, List.getElem_range, sAt, ← getD_at l j h2]
theorem GoodF.read {s : ByteArray} {l : List Ser} (h : GoodF s l) : serAll s = l ∧ spots s = (List.range l.length).map (spotOf l) := by
 rw [h.text]
 refine ⟨?_, spots_read h.2.1⟩
 unfold serAll
 rw [spots_read h.2.1, List.map_map]
 conv => rhs; rw [← range_at l]
 apply List.map_congr_left
 intro j hj
 exact ser_read h.2.1 j (List.mem_range.1 hj)
theorem GoodF.one {s : ByteArray} {l m : List Ser} (h : GoodF s l) (h' : GoodF s m) : l = m := h.read.1.symm.trans h'.read.1
theorem GoodF.of {s : ByteArray} {l : List Ser} (h1 : 1 ≤ l.length) (h8 : 8 ≤ s.size) (hs : fileT l = s) : GoodF s l := by
 refine ⟨h1, ?_, hs⟩
 by_cases h : SOk l
 ·exact h
 ·rw [fileT, if_neg (fun hh => h hh.2)] at hs
  rw [← hs, txt_size] at h8
  simp at h8
def RfAns (s : ByteArray) (l : List Ser) (ok : Bool) : Prop := (ok = true ∧ GoodF s l) ∨ (ok = false ∧ l = [] ∧ ∀ m, ¬ GoodF s m)
theorem RfAns.one {s : ByteArray} {l m : List Ser} {x y : Bool} (h : RfAns s l x) (h' : RfAns s m y) : l = m ∧ x = y := by
 rcases h with ⟨h1, h2⟩ | ⟨h1, h2, h3⟩ <;> rcases h' with ⟨h1', h2'⟩ | ⟨h1', h2', h3'⟩
 ·exact ⟨h2.one h2', h1.trans h1'.symm⟩
 ·exact absurd h2 (h3' l)
 ·exact absurd h2' (h3 m)
 ·exact ⟨h2.trans h2'.symm, h1.trans h1'.symm⟩
theorem RfAns.len {s : ByteArray} {l : List Ser} {x : Bool} (h : RfAns s l x) : l.length ≤ 5 := by
 rcases h with ⟨_, h2⟩ | ⟨_, h2, _⟩
 ·exact h2.2.1.1
 ·rw [h2]; simp
theorem RfAns.short {s : ByteArray} {l : List Ser} {x : Bool} (h : RfAns s l x) : ∀ y ∈ l, y.pts.length ≤ 60 := by
 rcases h with ⟨_, h2⟩ | ⟨_, h2, _⟩
 ·intro y hy
  obtain ⟨j, hj, rfl⟩ := List.getElem_of_mem hy
  have := (h2.2.1.2 j hj).2.2.1
  rwa [sAt, ← getD_at l j hj] at this
 ·rw [h2]
  intro y hy
  cases hy
end Go.Proofs.YtnilgemgjlhibaaDoor
namespace Go.Proofs.YtnilgemgjlhibaaDoor
open Go.RowKit Go.PlainAid
theorem half_zero (d : Nat) (hd : d < 4294967296) (h : half d = 0) : d = 0 := by
 unfold half at h
 split at h
 ·exfalso
  have e : d / 2 = 2197175160 := by
   have := congrArg (· ^^^ 2197175160) h
   simpa [Nat.xor_assoc] using this
  omega
 ·omega
theorem halfs_zero (k d : Nat) (hd : d < 4294967296) (h : halfs k d = 0) : d = 0 := by
 induction k with
 | zero => simpa [halfs] using h
 | succ k ih =>
  rw [halfs_succ] at h
  exact ih (half_zero _ (halfs_lt k d hd) h)
theorem xor_zero {a b : Nat} (h : a ^^^ b = 0) : a = b := by
 have := congrArg (· ^^^ b) h
 simpa [Nat.xor_assoc] using this
theorem halfs_inj (k a b : Nat) (ha : a < 4294967296) (hb : b < 4294967296) (h : halfs k a = halfs k b) : a = b := by
 apply xor_zero
 apply halfs_zero k _ (xor_lt32 a b ha hb)
 rw [halfs_xor, h, Nat.xor_self]
theorem crcC_same (s t : ByteArray) (j : Nat) (h : ∀ i, i < j → bn s i = bn t i) : crcC s j = crcC t j := by
 induction j with
 | zero => rfl
 | succ j ih =>
  rw [crcC_succ, crcC_succ, ih (fun i hi => h i (by omega)), h j (by omega)]
theorem crcC_part (s t : ByteArray) (k : Nat) (hk : bn s k ≠ bn t k) (h : ∀ i, i ≠ k → bn s i = bn t i) (d : Nat) : crcC s (k + 1 + d) ≠ crcC t (k + 1 + d) := by
 induction d with
 | zero =>
  rw [Nat.add_zero, crcC_succ, crcC_succ, crcC_same s t k (fun i hi => h i (by omega))]
  intro e
  have e2 := halfs_inj 8 _ _ (xor_lt32 _ _ (crcC_lt t k) (by have := bn_lt s k; omega)) (xor_lt32 _ _ (crcC_lt t k) (by have := bn_lt t k; omega)) e
  apply hk
  have := congrArg (crcC t k ^^^ ·) e2
  simpa [← Nat.xor_assoc] using this
 | succ d ih =>
  rw [show k + 1 + (d + 1) = (k + 1 + d) + 1 by omega, crcC_succ, crcC_succ, h (k + 1 + d) (by omega)]
  intro e
  have e2 := halfs_inj 8 _ _ (xor_lt32 _ _ (crcC_lt s _) (by have := bn_lt t (k + 1 + d); omega)) (xor_lt32 _ _ (crcC_lt t _) (by have := bn_lt t (k + 1 + d); omega)) e
  apply ih
  have := congrArg (· ^^^ bn t (k + 1 + d)) e2
  simpa [Nat.xor_assoc] using this
theorem bn_front (s : ByteArray) (n i : Nat) (hi : i < n) (hn : n ≤ s.size) : bn (s.extract 0 n) i = bn s i := by
 rw [bn_get _ _ (by rw [ByteArray.size_extract]; omega), bn_get _ _ (by omega)]
 congr 1
 rw [ByteArray.getElem_extract]
 simp
theorem bn_back (s : ByteArray) (n i : Nat) (hi : n + i < s.size) : bn (s.extract n s.size) i = bn s (n + i) := by
 rw [bn_get _ _ (by rw [ByteArray.size_extract]; omega), bn_get _ _ (by omega)]
 congr 1
 rw [ByteArray.getElem_extract]
theorem bytes_ext {s t : ByteArray} (hz : s.size = t.size) (h : ∀ i, i < s.size → bn s i = bn t i) : s = t := by
 apply ByteArray.ext_getElem hz
 intro i h1 h2
 have := h i h1
 rw [bn_get s i h1, bn_get t i h2] at this
 exact UInt8.toNat_inj.1 this
theorem GoodF.sum {s : ByteArray} {m : List Ser} (h : GoodF s m) : 4 ≤ s.size ∧ s.extract (s.size - 4) s.size = four (crc (s.extract 0 (s.size - 4))) := by
 have hs := h.text
 have hz : s.size = (bodyF m).length + 4 := by rw [hs, txt_size, fileB_length]
 have e1 : s.size - 4 = (bodyF m).length := by omega
 refine ⟨by omega, ?_⟩
 rw [e1]
 have a1 := extract_back (bodyF m) (low (crc (txt (bodyF m))) 4)
 have a2 := extract_front (bodyF m) (low (crc (txt (bodyF m))) 4)
 rw [show bodyF m ++ low (crc (txt (bodyF m))) 4 = fileB m from rfl, ← hs] at a1 a2
 rw [a1, a2]
 rfl
theorem four_inj {a b : Nat} (ha : a < 4294967296) (hb : b < 4294967296) (h : four a = four b) : a = b := by
 rw [← rdv_four_four a ha, ← rdv_four_four b hb, h]
theorem GoodF.turned {s t : ByteArray} {m : List Ser} (h : GoodF s m) (hz : t.size = s.size) (k : Nat) (hk : k < s.size) (hne : bn s k ≠ bn t k) (heq : ∀ i, i ≠ k → bn s i = bn t i) : ∀ m', ¬ GoodF t m' := fun m' h' => by
 obtain ⟨h4, h1⟩ := h.sum
 obtain ⟨_, h2⟩ := h'.sum
 rw [hz] at h2
 rcases Nat.lt_or_ge k (s.size - 4) with hk4 | hk4
 ·have e1 : s.extract (s.size - 4) s.size = t.extract (s.size - 4) s.size := by
   apply bytes_ext (by rw [ByteArray.size_extract, ByteArray.size_extract, hz])
   intro i hi
   rw [ByteArray.size_extract] at hi
   rw [bn_back s _ i (by omega)]
   have := bn_back t (s.size - 4) i (by omega)
   rw [hz] at this
   rw [this]
   exact heq _ (by omega)
  rw [h1, h2] at e1
  have e2 := four_inj (crc_lt _) (crc_lt _) e1
  unfold crc at e2
  have z1 : (s.extract 0 (s.size - 4)).size = s.size - 4 := by rw [ByteArray.size_extract]; omega
  have z2 : (t.extract 0 (s.size - 4)).size = s.size - 4 := by rw [ByteArray.size_extract]; omega
  rw [z1, z2] at e2
  have l1 := crcC_lt (s.extract 0 (s.size - 4)) (s.size - 4)
  have l2 := crcC_lt (t.extract 0 (s.size - 4)) (s.size - 4)
  have e3 : crcC (s.extract 0 (s.size - 4)) (s.size - 4) = crcC (t.extract 0 (s.size - 4)) (s.size - 4) := by omega
  have f1 : crcC (s.extract 0 (s.size - 4)) (s.size - 4) = crcC s (s.size - 4) := crcC_same _ _ _ fun i hi => bn_front s _ i hi (by omega)
  have f2 : crcC (t.extract 0 (s.size - 4)) (s.size - 4) = crcC t (s.size - 4) := crcC_same _ _ _ fun i hi => bn_front t _ i hi (by omega)
  rw [f1, f2] at e3
  have := crcC_part s t k hne heq (s.size - 4 - (k + 1))
  rw [show k + 1 + (s.size - 4 - (k + 1)) = s.size - 4 by omega] at this
  exact this e3
 ·have e1 : s.extract 0 (s.size - 4) = t.extract 0 (s.size - 4) := by
   apply bytes_ext (by rw [ByteArray.size_extract, ByteArray.size_extract, hz])
   intro i hi
   rw [ByteArray.size_extract] at hi
   rw [bn_front s _ i (by omega) (by omega), bn_front t _ i (by omega) (by omega)]
   exact heq _ (by omega)
  rw [← e1, ← h1] at h2
  have := bn_back s (s.size - 4) (k - (s.size - 4)) (by omega)
  rw [← h2] at this
  have e2 := bn_back t (s.size - 4) (k - (s.size - 4)) (by omega)
  rw [hz] at e2
  rw [e2, show s.size - 4 + (k - (s.size - 4)) = k by omega] at this
  exact hne this.symm
theorem SOk.keys_lt {m : List Ser} (h : SOk m) (i : Nat) : ∀ d, i + d + 1 < m.length → ahd (sAt m i).key (sAt m (i + d + 1)).key = true
 | 0, hd => by
  have := (h.2 (i + 1) (by omega)).1.2 (by omega)
  rwa [Nat.add_sub_cancel] at this
 | d + 1, hd => by
  have ih := SOk.keys_lt h i d (by omega)
  have := (h.2 (i + (d + 1) + 1) hd).1.2 (by omega)
  rw [Nat.add_sub_cancel] at this
  exact ahd_trans ih this
theorem SOk.keys_ne {m : List Ser} (h : SOk m) (i j : Nat) (hij : i < j) (hj : j < m.length) : (sAt m i).key ≠ (sAt m j).key := fun e => by
 have := SOk.keys_lt h i (j - i - 1) (by omega)
 rw [show i + (j - i - 1) + 1 = j by omega, e, ahd_irrefl] at this
 cases this
end Go.Proofs.YtnilgemgjlhibaaDoor
namespace Go.Proofs.YtnilgemgjlhibaaDoor
open Go.ChangeShapes Go.WideShapes Go.ChangeAt Go.RowKit Go.PlainAid
set_option linter.unusedVariables false
def KeptBut (g : Nat) (w w' : World) : Prop := Below g w w' ∧ ∀ b, b ≠ g → b < w.heap.size → w'.heap[b]? = w.heap[b]?
theorem KeptBut.of {g : Nat} {w w' : World} (h : Below w.heap.size w w') (hg : g < w.heap.size) : KeptBut g w w' := ⟨h.mono (Nat.le_of_lt hg), fun b _ hb => h.block b hb⟩
theorem KeptBut.refl (g : Nat) (w : World) : KeptBut g w w := ⟨Below.refl _ _, fun _ _ _ => rfl⟩
theorem KeptBut.trans {g : Nat} {w w' w'' : World} (h : KeptBut g w w') (h' : KeptBut g w' w'') : KeptBut g w w'' := ⟨h.1.trans h'.1, fun b hb hl => by rw [h'.2 b hb (Nat.lt_of_lt_of_le hl h.1.size), h.2 b hb hl]⟩
theorem KeptBut.set {g : Nat} {w w' : World} (h : KeptBut g w w') (i : Nat) (x : Value) : KeptBut g w (w'.setCell ⟨g, i, none⟩ x) := ⟨h.1.setCell (Nat.le_refl _) _, fun b hb hl => by rw [Below.heap_setCell _ _ _ _ hb]; exact h.2 b hb hl⟩
theorem KeptBut.setNew {g k : Nat} {w w' : World} (h : KeptBut g w w') (hk : w.heap.size ≤ k) (hg : g ≤ k) (i : Nat) (x : Value) : KeptBut g w (w'.setCell ⟨k, i, none⟩ x) := ⟨h.1.setCell hg _, fun b hb hl => by rw [Below.heap_setCell _ _ _ _ (show b ≠ k by omega)]; exact h.2 b hb hl⟩
theorem KeptBut.drew {g : Nat} {w w' : World} (h : KeptBut g w w') : KeptBut g w w'.drew := ⟨h.1.drew, h.2⟩
theorem KeptBut.size {g : Nat} {w w' : World} (h : KeptBut g w w') : w.heap.size ≤ w'.heap.size := h.1.size
theorem KeptBut.owns {g : Nat} {w w' : World} {base : Nat} {e : TypeId} {sz : Nat} {v : Value} {rows : List (List Value)} (h : KeptBut g w w') (ho : Owns w base e sz v rows) (hne : v.ownBlock ≠ some g) : Owns w' base e sz v rows := ho.kept fun k hk hv => h.2 k (fun e => hne (by rw [hv, e])) hk
theorem KeptBut.blk {g b : Nat} {w w' : World} {cs : Array Value} {t : TypeId} (h : KeptBut g w w') (hb : Blk w b cs t) (hne : b ≠ g) : Blk w' b cs t := (h.2 b hne hb.lt).trans hb
theorem Owns.notBlk {w : World} {base : Nat} {e t : TypeId} {sz g : Nat} {cs : Array Value} {v : Value} {rows : List (List Value)} (h : Owns w base e sz v rows) (hb : Blk w g cs t) (hne : e ≠ t) : v.ownBlock ≠ some g := fun hv => by
 rcases h.2.2 with ⟨rfl, _⟩ | ⟨g1, c1, cur1, rfl, _, k1, _⟩
 ·cases hv
 ·cases hv
  rw [hb] at k1
  cases k1
  exact hne rfl
def spC (x : Spot) : List Value := [.string x.key, .int .i64 (x.at' : Int), .int .i64 (x.size : Int), .int .i64 (x.first : Int), .int .i64 (x.last : Int)]
def spR (l : List Spot) : List (List Value) := l.map spC
theorem spR_length (l : List Spot) : (spR l).length = l.length := by simp [spR]
theorem spR_append (l m : List Spot) : spR (l ++ m) = spR l ++ spR m := by simp [spR]
theorem sp_one (x : Spot) : ∀ u ∈ spC x, u.oneCell' = true := by
 intro u hu
 simp only [spC, List.mem_cons, List.not_mem_nil, or_false] at hu
 rcases hu with rfl | rfl | rfl | rfl | rfl <;> rfl
theorem sp_look {w : World} {B : Nat} {v : Value} {l : List Spot} (h : Lies w B 5 v (spR l)) : ∃ A cap, v = .slice A l.length cap ∧ ∀ j, j < l.length → ∃ g off, A = some ⟨g, off, none⟩ ∧ g < B ∧
  w.cell? ⟨g, off + j * 5, none⟩ = some (.string (l.getD j default).key) ∧ w.cell? ⟨g, off + j * 5 + 1, none⟩ = some (.int .i64 ((l.getD j default).at' : Int)) ∧ w.cell? ⟨g, off + j * 5 + 2, none⟩ = some (.int .i64 ((l.getD j default).size : Int)) ∧
  w.cell? ⟨g, off + j * 5 + 3, none⟩ = some (.int .i64 ((l.getD j default).first : Int)) ∧ w.cell? ⟨g, off + j * 5 + 4, none⟩ = some (.int .i64 ((l.getD j default).last : Int)) := by
 obtain ⟨A, cap, e, h⟩ := h.look
 refine ⟨A, cap, by rw [e]; simp [spR], fun j hj => ?_⟩
 rw [← getD_at l j hj]
 obtain ⟨g, off, e, hg, hc⟩ := h j (by simpa [spR] using hj)
 refine ⟨g, off, e, hg, ?_, ?_, ?_, ?_, ?_⟩
 ·have := hc 0 _ (by omega) (by simp [spR, spC]; rfl); simpa [Nat.add_assoc] using this
 ·have := hc 1 _ (by omega) (by simp [spR, spC]; rfl); simpa [Nat.add_assoc] using this
 ·have := hc 2 _ (by omega) (by simp [spR, spC]; rfl); simpa [Nat.add_assoc] using this
 ·have := hc 3 _ (by omega) (by simp [spR, spC]; rfl); simpa [Nat.add_assoc] using this
 ·have := hc 4 _ (by omega) (by simp [spR, spC]; rfl); simpa [Nat.add_assoc] using this
def vSp (x : Spot) : Value := .agg #[.string x.key, .int .i64 (x.at' : Int), .int .i64 (x.size : Int), .int .i64 (x.first : Int), .int .i64 (x.last : Int)]
theorem Tryd.infoSp : (Tryd.prog.info? 52).map (fun i => (i.zero, i.size, i.bytes)) = some (some (.agg #[.string ⟨#[]⟩, .int .i64 0, .int .i64 0, .int .i64 0, .int .i64 0]), 5, 48) := by kernel_rfl
def SpFits (x : Spot) : Prop := x.key.size ≤ 1048576 ∧ x.at' ≤ 562949953421311 ∧ x.size ≤ 562949953421311 ∧ x.first ≤ 562949953421311 ∧ x.last ≤ 562949953421311
def CurB (w : World) (g : Nat) (t : ByteArray) (p : Nat) (ty : TypeId) : Prop := Blk w g #[.string t, .int .i64 (p : Int)] ty
end Go.Proofs.YtnilgemgjlhibaaDoor
