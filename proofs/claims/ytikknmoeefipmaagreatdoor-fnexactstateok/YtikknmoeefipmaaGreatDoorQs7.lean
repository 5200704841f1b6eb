/- FlMath EgMath EgDef StMath StrAid SrArg -/
import Derived.Test.YtikknmoeefipmaaGreatDoorQs4
import Derived.Test.YtikknmoeefipmaaGreatDoorQs6
import Derived.Test.YtikknmoeefipmaaGreatDoorQs2
import Derived.Test.YtikknmoeefipmaaGreatDoorQs1
import Derived.Test.YtikknmoeefipmaaGreatDoorQs0
import Derived.WalkKit
import Derived.ProofKit
import Derived.Laws.OwnMore
import Derived.Below
import Derived.OwnWalk
import Derived.WalkSmall
namespace Go.Proofs.YtikknmoeefipmaaGreatDoor
open Go.RowKit Go.PlainAid
def bl (s : ByteArray) : List UInt8 := s.data.toList
theorem txt_bl (s : ByteArray) : txt (bl s) = s := txt_toList s
theorem bl_length (s : ByteArray) : (bl s).length = s.size := by rw [← txt_size, txt_bl]
def magic : List UInt8 := [116, 115, 98, 49]
def blkB (l : List Ser) (j : Nat) : List UInt8 := bl (showB (sAt l j).pts)
def blks (l : List Ser) (k : Nat) : List UInt8 := cat (blkB l) k
def atB (l : List Ser) (k : Nat) : Nat := 4 + (blks l k).length
def fT (l : List Ser) (j : Nat) : Nat := (tAt (sAt l j).pts 0).toNat
def lT (l : List Ser) (j : Nat) : Nat := (tAt (sAt l j).pts ((sAt l j).pts.length - 1)).toNat
def spB (l : List Ser) (j : Nat) : List UInt8 := vF 6 (sAt l j).key.size ++ (bl (sAt l j).key ++ (vF 6 (atB l j) ++ (vF 6 (blkB l j).length ++ (vF 6 (fT l j) ++ vF 6 (lT l j)))))
def idxB (l : List Ser) (k : Nat) : List UInt8 := cat (spB l) k
def bodyF (l : List Ser) : List UInt8 := magic ++ (blks l l.length ++ (idxB l l.length ++ low (atB l l.length) 4))
def fileB (l : List Ser) : List UInt8 := bodyF l ++ low (crc (txt (bodyF l))) 4
def fileT (l : List Ser) : ByteArray := if 1 ≤ l.length ∧ SOk l then txt (fileB l) else txt []
def GoodF (s : ByteArray) (l : List Ser) : Prop := 1 ≤ l.length ∧ SOk l ∧ fileT l = s
theorem GoodF.text {s : ByteArray} {l : List Ser} (h : GoodF s l) : s = txt (fileB l) := by
 rw [← h.2.2, fileT, if_pos ⟨h.1, h.2.1⟩]
theorem blkB_length (l : List Ser) (j : Nat) : (blkB l j).length ≤ 900 := by unfold blkB; rw [bl_length]; exact showB_size _
theorem blks_length (l : List Ser) (k : Nat) : (blks l k).length ≤ 900 * k := by
 induction k with
 | zero => simp [blks, cat_zero]
 | succ k ih => unfold blks at ih ⊢; rw [cat_succ, List.length_append]; have := blkB_length l k; omega
theorem SOk.key {l : List Ser} (h : SOk l) (j : Nat) (hj : j < l.length) : 1 ≤ (sAt l j).key.size ∧ (sAt l j).key.size ≤ 8 := ⟨(h.2 j hj).1.1.1, (h.2 j hj).1.1.2.1⟩
theorem SOk.times {l : List Ser} (h : SOk l) (j : Nat) (hj : j < l.length) : (0 ≤ tAt (sAt l j).pts 0 ∧ tAt (sAt l j).pts 0 ≤ 1099511627776) ∧ (0 ≤ tAt (sAt l j).pts ((sAt l j).pts.length - 1) ∧ tAt (sAt l j).pts ((sAt l j).pts.length - 1) ≤ 1099511627776) := by
 have h1 := (h.2 j hj).2
 exact ⟨(h1.2.2 0 (by omega)).1.1, (h1.2.2 _ (by omega)).1.1⟩
theorem spB_length {l : List Ser} (h : SOk l) (j : Nat) (hj : j < l.length) : 6 ≤ (spB l j).length ∧ (spB l j).length ≤ 43 := by
 have := h.key j hj
 unfold spB
 simp only [List.length_append, bl_length]
 have a1 := vF_pos 6 (sAt l j).key.size
 have a2 := vF_pos 6 (atB l j)
 have a3 := vF_pos 6 (blkB l j).length
 have a4 := vF_pos 6 (fT l j)
 have a5 := vF_pos 6 (lT l j)
 have b1 := vF_length 6 (sAt l j).key.size
 have b2 := vF_length 6 (atB l j)
 have b3 := vF_length 6 (blkB l j).length
 have b4 := vF_length 6 (fT l j)
 have b5 := vF_length 6 (lT l j)
 omega
theorem idxB_length {l : List Ser} (h : SOk l) (k : Nat) (hk : k ≤ l.length) : 6 * k ≤ (idxB l k).length ∧ (idxB l k).length ≤ 43 * k := by
 induction k with
 | zero => simp [idxB, cat_zero]
 | succ k ih =>
  have ih := ih (by omega)
  have := spB_length h k (by omega)
  unfold idxB at ih ⊢
  rw [cat_succ, List.length_append]
  omega
theorem atB_le {l : List Ser} (h : SOk l) (k : Nat) (hk : k ≤ l.length) : atB l k ≤ 4504 := by
 have := blks_length l k
 have := h.1
 unfold atB
 omega
theorem bodyF_length {l : List Ser} (h : SOk l) : (bodyF l).length = 8 + (blks l l.length).length + (idxB l l.length).length ∧ (bodyF l).length ≤ 5000 := by
 have h1 := blks_length l l.length
 have h2 := idxB_length h l.length (Nat.le_refl _)
 have := h.1
 unfold bodyF
 simp only [List.length_append, low_length]
 have : magic.length = 4 := rfl
 omega
theorem fileB_length (l : List Ser) : (fileB l).length = (bodyF l).length + 4 := by unfold fileB; rw [List.length_append, low_length]
theorem rdV_ex (s : ByteArray) : ∃ n k : Nat, RdV s (n : Int) k := by
 by_cases h : ∃ k, FindV s k
 ·obtain ⟨k, h⟩ := h
  exact ⟨vvS s 0 k, k, .inl ⟨h, rfl⟩⟩
 ·exact ⟨0, 0, .inr ⟨fun j hj => h ⟨j, hj⟩, rfl, rfl⟩⟩
noncomputable def rvN (s : ByteArray) : Nat := Classical.choose (rdV_ex s)
noncomputable def rvK (s : ByteArray) : Nat := Classical.choose (Classical.choose_spec (rdV_ex s))
theorem rv_rd (s : ByteArray) : RdV s (rvN s : Int) (rvK s) := Classical.choose_spec (Classical.choose_spec (rdV_ex s))
theorem rv_is {s : ByteArray} {n : Int} {k : Nat} (h : RdV s n k) : n = (rvN s : Int) ∧ k = rvK s := h.one (rv_rd s)
theorem rvN_le (s : ByteArray) : rvN s ≤ 562949953421311 := by
 rcases rv_rd s with ⟨⟨_, h7, _, _⟩, h⟩ | ⟨_, h, _⟩
 ·have := vvS_le s (rvK s) h7 0
  omega
 ·omega
theorem rvK_le (s : ByteArray) : rvK s ≤ s.size ∧ rvK s ≤ 7 := by
 have := (rv_rd s).le
 omega
theorem rv_var (n : Nat) (tl : List UInt8) (hn : n ≤ 562949953421311) : rvN (txt (vF 6 n ++ tl)) = n ∧ rvK (txt (vF 6 n ++ tl)) = (vF 6 n).length := by
 have hf := find_var n tl hn
 have := rv_is (s := txt (vF 6 n ++ tl)) (n := (n : Int)) (k := (vF 6 n).length) (.inl ⟨hf.1, by rw [hf.2]⟩)
 omega
theorem extract_mid (a b c : List UInt8) : (txt (a ++ (b ++ c))).extract a.length (a.length + b.length) = txt b := by
 have h1 := extract_back a (b ++ c)
 have h2 := extract_front b c
 rw [← h1, ByteArray.extract_extract] at h2
 rw [← h2]
 congr 1
 rw [txt_size]
 simp only [List.length_append]
 omega
theorem rest_mid (a b : List UInt8) : rest (txt (a ++ b)) a.length = txt b := extract_back a b
noncomputable def tkN (s : ByteArray) (p : Nat) : Nat := rvN (rest s p)
noncomputable def tkP (s : ByteArray) (p : Nat) : Nat := p + rvK (rest s p)
theorem tkP_le (s : ByteArray) (p : Nat) (h : p ≤ s.size) : tkP s p ≤ s.size := by
 have := (rvK_le (rest s p)).1
 rw [rest_size] at this
 unfold tkP
 omega
theorem tk_var (a : List UInt8) (n : Nat) (tl : List UInt8) (hn : n ≤ 562949953421311) : tkN (txt (a ++ (vF 6 n ++ tl))) a.length = n ∧ tkP (txt (a ++ (vF 6 n ++ tl))) a.length = (a ++ vF 6 n).length := by
 unfold tkN tkP
 rw [rest_mid, (rv_var n tl hn).1, (rv_var n tl hn).2, List.length_append]
 exact ⟨rfl, rfl⟩
structure Spot where
 key : ByteArray
 at' : Nat
 size : Nat
 first : Nat
 last : Nat
instance : Inhabited Spot := ⟨⟨⟨#[]⟩, 0, 0, 0, 0⟩⟩
def tk (s : ByteArray) (p many : Nat) : Nat := min (p + many) s.size
noncomputable def spK (s : ByteArray) (p : Nat) : Nat := tk s (tkP s p) (tkN s p)
noncomputable def spotA (s : ByteArray) (p : Nat) : Spot :=
 ⟨s.extract (tkP s p) (spK s p), tkN s (spK s p), tkN s (tkP s (spK s p)), tkN s (tkP s (tkP s (spK s p))), tkN s (tkP s (tkP s (tkP s (spK s p))))⟩
noncomputable def spotP (s : ByteArray) (p : Nat) : Nat := tkP s (tkP s (tkP s (tkP s (spK s p))))
theorem tk_le (s : ByteArray) (p many : Nat) : tk s p many ≤ s.size := Nat.min_le_right _ _
theorem spotP_le (s : ByteArray) (p : Nat) : spotP s p ≤ s.size := tkP_le _ _ (tkP_le _ _ (tkP_le _ _ (tkP_le _ _ (tk_le _ _ _))))
noncomputable def idxA (s : ByteArray) (e : Nat) : Nat → Nat → List Spot
 | 0, _ => []
 | f + 1, p => if p < e then spotA s p :: idxA s e f (spotP s p) else []
noncomputable def spots (s : ByteArray) : List Spot := if s.size < 8 then [] else idxA s (s.size - 8) 5 (min (rdv (rest s (s.size - 8)) 4) s.size)
theorem idxA_length (s : ByteArray) (e : Nat) : ∀ f p, (idxA s e f p).length ≤ f
 | 0, _ => by simp [idxA]
 | f + 1, p => by
  rw [idxA]
  split
  ·have := idxA_length s e f (spotP s p)
   simp only [List.length_cons]
   omega
  ·simp
theorem spots_length (s : ByteArray) : (spots s).length ≤ 5 := by
 unfold spots
 split
 ·simp
 ·exact idxA_length _ _ _ _
def blkA (s : ByteArray) (x : Spot) : ByteArray := s.extract (min x.at' s.size) (tk s (min x.at' s.size) x.size)
theorem rb_ex (s : ByteArray) : ∃ l ok, RbAns s l ok := by
 by_cases h : ∃ l, Good s l
 ·obtain ⟨l, h⟩ := h
  exact ⟨l, true, .inl ⟨rfl, h⟩⟩
 ·exact ⟨[], false, .inr ⟨rfl, rfl, fun m hm => h ⟨m, hm⟩⟩⟩
noncomputable def rbP (s : ByteArray) : List Pnt := Classical.choose (rb_ex s)
theorem rbP_is {s : ByteArray} {l : List Pnt} {ok : Bool} (h : RbAns s l ok) : l = rbP s := by
 obtain ⟨ok', h'⟩ := Classical.choose_spec (rb_ex s)
 exact (h.one h').1
theorem rbP_good {s : ByteArray} {l : List Pnt} (h : Good s l) : rbP s = l := (rbP_is (ok := true) (.inl ⟨rfl, h⟩)).symm
theorem rbP_length (s : ByteArray) : (rbP s).length ≤ 60 := by
 obtain ⟨ok, h⟩ := Classical.choose_spec (rb_ex s)
 exact h.len
noncomputable def serA (s : ByteArray) (x : Spot) : Ser := ⟨x.key, rbP (blkA s x)⟩
noncomputable def serAll (s : ByteArray) : List Ser := (spots s).map (serA s)
def spotOf (l : List Ser) (j : Nat) : Spot := ⟨(sAt l j).key, atB l j, (blkB l j).length, fT l j, lT l j⟩
def posF (l : List Ser) (j : Nat) : Nat := atB l l.length + (idxB l j).length
theorem file_at (l : List Ser) (j : Nat) (hj : j < l.length) : ∃ a b : List UInt8, fileB l = a ++ (spB l j ++ (b ++ (low (atB l l.length) 4 ++ low (crc (txt (bodyF l))) 4))) ∧ a.length = posF l j ∧ idxB l l.length = idxB l j ++ (spB l j ++ b) := by
 obtain ⟨b, hb⟩ := cat_split (spB l) j l.length hj
 refine ⟨magic ++ (blks l l.length ++ idxB l j), b, ?_, ?_, hb⟩
 ·unfold fileB bodyF
  rw [show idxB l l.length = cat (spB l) l.length from rfl, hb]
  simp only [List.append_assoc]
  rfl
 ·unfold posF atB
  simp only [List.length_append]
  have : magic.length = 4 := rfl
  omega
theorem posF_end {l : List Ser} (h : SOk l) : posF l l.length + 8 = (fileB l).length := by
 have := bodyF_length h
 rw [fileB_length, this.1]
 unfold posF atB
 omega
theorem posF_lt {l : List Ser} (h : SOk l) (j : Nat) (hj : j < l.length) : posF l j < posF l l.length := by
 obtain ⟨a, b, _, _, hb⟩ := file_at l j hj
 have := spB_length h j hj
 unfold posF
 rw [hb]
 simp only [List.length_append]
 omega
theorem posF_succ (l : List Ser) (j : Nat) : posF l (j + 1) = posF l j + (spB l j).length := by
 unfold posF idxB
 rw [cat_succ, List.length_append, Nat.add_assoc]
theorem nums_le {l : List Ser} (h : SOk l) (j : Nat) (hj : j < l.length) : (sAt l j).key.size ≤ 562949953421311 ∧ atB l j ≤ 562949953421311 ∧ (blkB l j).length ≤ 562949953421311 ∧ fT l j ≤ 562949953421311 ∧ lT l j ≤ 562949953421311 := by
 have h1 := h.key j hj
 have h2 := atB_le h j (by omega)
 have h3 := blkB_length l j
 have h4 := h.times j hj
 unfold fT lT
 omega
theorem spot_read {l : List Ser} (h : SOk l) (j : Nat) (hj : j < l.length) : spotA (txt (fileB l)) (posF l j) = spotOf l j ∧ spotP (txt (fileB l)) (posF l j) = posF l (j + 1) := by
 obtain ⟨a, b, hf, ha, _⟩ := file_at l j hj
 obtain ⟨n1, n2, n3, n4, n5⟩ := nums_le h j hj
 generalize hK : (sAt l j).key = K at *
 generalize hA : atB l j = A at *
 generalize hZ : (blkB l j).length = Z at *
 generalize hF : fT l j = F at *
 generalize hE : lT l j = E at *
 generalize b ++ (low (atB l l.length) 4 ++ low (crc (txt (bodyF l))) 4) = T at hf
 have hsp : spB l j = vF 6 K.size ++ (bl K ++ (vF 6 A ++ (vF 6 Z ++ (vF 6 F ++ vF 6 E)))) := by unfold spB; rw [hK, hA, hZ, hF, hE]
 have e0 : fileB l = a ++ (vF 6 K.size ++ (bl K ++ (vF 6 A ++ (vF 6 Z ++ (vF 6 F ++ (vF 6 E ++ T)))))) := by rw [hf, hsp]; simp only [List.append_assoc]
 have e1 : fileB l = (a ++ vF 6 K.size) ++ (bl K ++ (vF 6 A ++ (vF 6 Z ++ (vF 6 F ++ (vF 6 E ++ T))))) := by rw [e0]; simp only [List.append_assoc]
 have e2 : fileB l = (a ++ vF 6 K.size ++ bl K) ++ (vF 6 A ++ (vF 6 Z ++ (vF 6 F ++ (vF 6 E ++ T)))) := by rw [e0]; simp only [List.append_assoc]
 have e3 : fileB l = (a ++ vF 6 K.size ++ bl K ++ vF 6 A) ++ (vF 6 Z ++ (vF 6 F ++ (vF 6 E ++ T))) := by rw [e0]; simp only [List.append_assoc]
 have e4 : fileB l = (a ++ vF 6 K.size ++ bl K ++ vF 6 A ++ vF 6 Z) ++ (vF 6 F ++ (vF 6 E ++ T)) := by rw [e0]; simp only [List.append_assoc]
 have e5 : fileB l = (a ++ vF 6 K.size ++ bl K ++ vF 6 A ++ vF 6 Z ++ vF 6 F) ++ (vF 6 E ++ T) := by rw [e0]; simp only [List.append_assoc]
 have t1 := tk_var a K.size (bl K ++ (vF 6 A ++ (vF 6 Z ++ (vF 6 F ++ (vF 6 E ++ T))))) n1
 rw [← e0] at t1
 have k1 : spK (txt (fileB l)) a.length = (a ++ vF 6 K.size ++ bl K).length := by
  unfold spK tk
  rw [t1.1, t1.2, txt_size, e2]
  simp only [List.length_append, bl_length]
  omega
 have x1 := extract_mid (a ++ vF 6 K.size) (bl K) (vF 6 A ++ (vF 6 Z ++ (vF 6 F ++ (vF 6 E ++ T))))
 rw [← e1, ← List.length_append] at x1
 have t2 := tk_var (a ++ vF 6 K.size ++ bl K) A (vF 6 Z ++ (vF 6 F ++ (vF 6 E ++ T))) n2
 rw [← e2] at t2
 have t3 := tk_var (a ++ vF 6 K.size ++ bl K ++ vF 6 A) Z (vF 6 F ++ (vF 6 E ++ T)) n3
 rw [← e3] at t3
 have t4 := tk_var (a ++ vF 6 K.size ++ bl K ++ vF 6 A ++ vF 6 Z) F (vF 6 E ++ T) n4
 rw [← e4] at t4
 have t5 := tk_var (a ++ vF 6 K.size ++ bl K ++ vF 6 A ++ vF 6 Z ++ vF 6 F) E T n5
 rw [← e5] at t5
 rw [posF_succ, ← ha]
 unfold spotA spotP
 rw [k1, t1.2, t2.1, t2.2, t3.1, t3.2, t4.1, t4.2, t5.1, t5.2, x1]
 refine ⟨?_, ?_⟩
 ·unfold spotOf
  rw [hK, hA, hZ, hF, hE, txt_bl]
 ·rw [hsp]
  simp only [List.length_append]
  omega
theorem idx_read {l : List Ser} (h : SOk l) (d : Nat) : ∀ j f, j + d = l.length → d ≤ f → idxA (txt (fileB l)) (posF l l.length) f (posF l j) = (List.range d).map fun i => spotOf l (j + i) := by
 induction d with
 | zero =>
  intro j f hj _
  obtain rfl : j = l.length := by omega
  cases f with
  | zero => rfl
  | succ f => rw [idxA, if_neg (by omega)]; rfl
 | succ d ih =>
  intro j f hj hf
  match f, hf with
  | f + 1, hf =>
   rw [idxA, if_pos (posF_lt h j (by omega)), (spot_read h j (by omega)).1, (spot_read h j (by omega)).2, ih (j + 1) f (by omega) (by omega), List.range_succ_eq_map, List.map_cons, List.map_map, Nat.add_zero]
   congr 1
   apply List.map_congr_left
   intro i _
   show spotOf l (j + 1 + i) = spotOf l (j + (i + 1))
   congr 1
   omega
theorem begin_read {l : List Ser} (h : SOk l) : rdv (rest (txt (fileB l)) ((txt (fileB l)).size - 8)) 4 = atB l l.length ∧ 12 ≤ (txt (fileB l)).size := by
 have hb := atB_le h l.length (Nat.le_refl _)
 have hl := bodyF_length h
 have e : fileB l = (magic ++ (blks l l.length ++ idxB l l.length)) ++ (low (atB l l.length) 4 ++ low (crc (txt (bodyF l))) 4) := by
  unfold fileB
  conv => lhs; arg 1; unfold bodyF
  simp only [List.append_assoc]
 have hz : (txt (fileB l)).size - 8 = (magic ++ (blks l l.length ++ idxB l l.length)).length := by
  rw [txt_size, fileB_length, hl.1]
  simp only [List.length_append]
  have : magic.length = 4 := rfl
  omega
 refine ⟨?_, by rw [txt_size, fileB_length, hl.1]; omega⟩
 rw [hz]
 conv => lhs; arg 1; rw [e]
 rw [rest_mid, ← txt_cat, rdv_append _ _ _ (by rw [txt_size, low_length]; exact Nat.le_refl _)]
 exact rdv_four_four _ (by omega)
theorem spots_read {l : List Ser} (h : SOk l) : spots (txt (fileB l)) = (List.range l.length).map (spotOf l) := by
 obtain ⟨h1, h2⟩ := begin_read h
 have hp := posF_end h
 have hb := atB_le h l.length (Nat.le_refl _)
 have h5 := h.1
 have hl := bodyF_length h
 have e0 : min (atB l l.length) (txt (fileB l)).size = posF l 0 := by
  rw [txt_size, fileB_length, hl.1]
  unfold posF idxB
  rw [cat_zero]
  unfold atB
  simp only [List.length_nil]
  omega
 have ee : (txt (fileB l)).size - 8 = posF l l.length := by rw [txt_size]; omega
 unfold spots
 rw [if_neg (by omega), h1, e0, ee, idx_read h l.length 0 5 (by omega) h5]
 simp only [Nat.zero_add]
theorem blk_read {l : List Ser} (j : Nat) (hj : j < l.length) : blkA (txt (fileB l)) (spotOf l j) = showB (sAt l j).pts := by
 obtain ⟨c, hc⟩ := cat_split (blkB l) j l.length hj
 have e : ∃ T, fileB l = (magic ++ blks l j) ++ (blkB l j ++ T) := by
  refine ⟨c ++ (idxB l l.length ++ low (atB l l.length) 4) ++ low (crc (txt (bodyF l))) 4, ?_⟩
  unfold fileB
  conv => lhs; arg 1; unfold bodyF
  rw [show blks l l.length = cat (blkB l) l.length from rfl, hc]
  simp only [List.append_assoc]
  rfl
 obtain ⟨T, e⟩ := e
 have ha : atB l j = (magic ++ blks l j).length := by
  unfold atB
  rw [List.length_append]
  rfl
 have hm := extract_mid (magic ++ blks l j) (blkB l j) T
 unfold blkA spotOf tk
 simp only
 rw [txt_size, ha, e]
 rw [show min (magic ++ blks l j).length ((magic ++ blks l j) ++ (blkB l j ++ T)).length = (magic ++ blks l j).length by simp only [List.length_append]; omega,
  show min ((magic ++ blks l j).length + (blkB l j).length) ((magic ++ blks l j) ++ (blkB l j ++ T)).length = (magic ++ blks l j).length + (blkB l j).length by simp only [List.length_append]; omega, hm]
 exact txt_bl _
theorem ser_read {l : List Ser} (h : SOk l) (j : Nat) (hj : j < l.length) : serA (txt (fileB l)) (spotOf l j) = sAt l j := by
 have hg : Good (showB (sAt l j).pts) (sAt l j).pts := ⟨(h.2 j hj).2.1, (h.2 j hj).2.2, rfl⟩
 unfold serA
 rw [blk_read j hj, rbP_good hg]
 rfl
theorem range_at (l : List Ser) : (List.range l.length).map (sAt l) = l := by
 apply List.ext_getElem (by simp)
 intro j h1 h2
 rw [List.getElem_map, List.getElem_range, sAt, ← getD_at l j h2]
theorem GoodF.read {s : ByteArray} {l : List Ser} (h : GoodF s l) : serAll s = l ∧ spots s = (List.range l.length).map (spotOf l) := by
 rw [h.text]
 refine ⟨?_, spots_read h.2.1⟩
 unfold serAll
 rw [spots_read h.2.1, List.map_map]
 conv => rhs; rw [← range_at l]
 apply List.map_congr_left
 intro j hj
 exact ser_read h.2.1 j (List.mem_range.1 hj)
theorem GoodF.one {s : ByteArray} {l m : List Ser} (h : GoodF s l) (h' : GoodF s m) : l = m := h.read.1.symm.trans h'.read.1
theorem GoodF.of {s : ByteArray} {l : List Ser} (h1 : 1 ≤ l.length) (h8 : 8 ≤ s.size) (hs : fileT l = s) : GoodF s l := by
 refine ⟨h1, ?_, hs⟩
 by_cases h : SOk l
 ·exact h
 ·rw [fileT, if_neg (fun hh => h hh.2)] at hs
  rw [← hs, txt_size] at h8
  simp at h8
def RfAns (s : ByteArray) (l : List Ser) (ok : Bool) : Prop := (ok = true ∧ GoodF s l) ∨ (ok = false ∧ l = [] ∧ ∀ m, ¬ GoodF s m)
theorem RfAns.one {s : ByteArray} {l m : List Ser} {x y : Bool} (h : RfAns s l x) (h' : RfAns s m y) : l = m ∧ x = y := by
 rcases h with ⟨h1, h2⟩ | ⟨h1, h2, h3⟩ <;> rcases h' with ⟨h1', h2'⟩ | ⟨h1', h2', h3'⟩
 ·exact ⟨h2.one h2', h1.trans h1'.symm⟩
 ·exact absurd h2 (h3' l)
 ·exact absurd h2' (h3 m)
 ·exact ⟨h2.trans h2'.symm, h1.trans h1'.symm⟩
theorem RfAns.len {s : ByteArray} {l : List Ser} {x : Bool} (h : RfAns s l x) : l.length ≤ 5 := by
 rcases h with ⟨_, h2⟩ | ⟨_, h2, _⟩
 ·exact h2.2.1.1
 ·rw [h2]; simp
theorem RfAns.short {s : ByteArray} {l : List Ser} {x : Bool} (h : RfAns s l x) : ∀ y ∈ l, y.pts.length ≤ 60 := by
 rcases h with ⟨_, h2⟩ | ⟨_, h2, _⟩
 ·intro y hy
  obtain ⟨j, hj, rfl⟩ := List.getElem_of_mem hy
  have := (h2.2.1.2 j hj).2.2.1
  rwa [sAt, ← getD_at l j hj] at this
 ·rw [h2]
  intro y hy
  cases hy
end Go.Proofs.YtikknmoeefipmaaGreatDoor
namespace Go.Proofs.YtikknmoeefipmaaGreatDoor
open Go.RowKit Go.PlainAid
def RiseK (l : List ByteArray) : Prop := l.Pairwise fun a b => ahd a b = true
theorem ahd_ne {a b : ByteArray} (h : ahd a b = true) : a ≠ b := fun e => by rw [e, ahd_irrefl] at h; cases h
theorem ahd_tri {a b : ByteArray} (h : ahd a b = false) (hne : a ≠ b) : ahd b a = true := by
 rcases ahd_no h with h | h
 ·exact h
 ·exact absurd h.symm hne
theorem riseK_ext : ∀ {l m : List ByteArray}, RiseK l → RiseK m → (∀ p, p ∈ l ↔ p ∈ m) → l = m
 | [], [], _, _, _ => rfl
 | [], y :: m, _, _, h => by have := (h y).2 (by simp); simp at this
 | x :: l, [], _, _, h => by have := (h x).1 (by simp); simp at this
 | x :: l, y :: m, hl, hm, h => by
  have hl' := List.pairwise_cons.1 hl
  have hm' := List.pairwise_cons.1 hm
  have hxy : x = y := by
   rcases List.mem_cons.1 ((h x).1 (by simp)) with e | h1
   ·exact e
   ·rcases List.mem_cons.1 ((h y).2 (by simp)) with e | h2
    ·exact e.symm
    ·exact absurd rfl (ahd_ne (ahd_trans (hm'.1 x h1) (hl'.1 y h2)))
  subst hxy
  congr 1
  refine riseK_ext hl'.2 hm'.2 fun p => ⟨fun hp => ?_, fun hp => ?_⟩
  ·rcases List.mem_cons.1 ((h p).1 (by simp [hp])) with e | h1
   ·subst e; exact absurd rfl (ahd_ne (hl'.1 p hp))
   ·exact h1
  ·rcases List.mem_cons.1 ((h p).2 (by simp [hp])) with e | h1
   ·subst e; exact absurd rfl (ahd_ne (hm'.1 p hp))
   ·exact h1
open Classical in
noncomputable def insK : List ByteArray → ByteArray → List ByteArray
 | [], k => [k]
 | x :: l, k => if x = k then x :: l else if ahd k x = true then k :: x :: l else x :: insK l k
theorem mem_insK (p k : ByteArray) : ∀ l, p ∈ insK l k ↔ p = k ∨ p ∈ l
 | [] => by simp [insK]
 | x :: l => by
  by_cases h : x = k
  ·rw [insK, if_pos h, List.mem_cons, h]
   constructor
   ·intro h; exact .inr h
   ·rintro (h | h)
    ·exact .inl h
    ·exact h
  ·by_cases h2 : ahd k x = true
   ·rw [insK, if_neg h, if_pos h2, List.mem_cons]
   ·rw [insK, if_neg h, if_neg h2, List.mem_cons, mem_insK p k l, List.mem_cons]
    constructor
    ·rintro (h | h | h)
     ·exact .inr (.inl h)
     ·exact .inl h
     ·exact .inr (.inr h)
    ·rintro (h | h | h)
     ·exact .inr (.inl h)
     ·exact .inl h
     ·exact .inr (.inr h)
theorem rise_insK (k : ByteArray) : ∀ l, RiseK l → RiseK (insK l k)
 | [], _ => by simp [insK, RiseK]
 | x :: l, hl => by
  have hl' := List.pairwise_cons.1 hl
  by_cases h : x = k
  ·rw [insK, if_pos h]; exact hl
  ·by_cases h2 : ahd k x = true
   ·rw [insK, if_neg h, if_pos h2]
    refine List.pairwise_cons.2 ⟨fun y hy => ?_, hl⟩
    rcases List.mem_cons.1 hy with e | hy
    ·rw [e]; exact h2
    ·exact ahd_trans h2 (hl'.1 y hy)
   ·rw [insK, if_neg h, if_neg h2]
    refine List.pairwise_cons.2 ⟨fun y hy => ?_, rise_insK k l hl'.2⟩
    rcases (mem_insK y k l).1 hy with e | hy
    ·rw [e]; exact ahd_tri (by simpa using h2) (fun e => h e.symm)
    ·exact hl'.1 y hy
noncomputable def allK (ks : List ByteArray) : List ByteArray := ks.foldl insK []
theorem mem_foldK (p : ByteArray) : ∀ (ks a : List ByteArray), p ∈ ks.foldl insK a ↔ p ∈ a ∨ p ∈ ks
 | [], a => by simp
 | k :: ks, a => by
  rw [List.foldl_cons, mem_foldK p ks, mem_insK, List.mem_cons]
  constructor
  ·rintro ((h | h) | h)
   ·exact .inr (.inl h)
   ·exact .inl h
   ·exact .inr (.inr h)
  ·rintro (h | h | h)
   ·exact .inl (.inr h)
   ·exact .inl (.inl h)
   ·exact .inr h
theorem rise_foldK : ∀ (ks a : List ByteArray), RiseK a → RiseK (ks.foldl insK a)
 | [], _, h => h
 | k :: ks, a, h => rise_foldK ks _ (rise_insK k a h)
theorem mem_allK (p : ByteArray) (ks : List ByteArray) : p ∈ allK ks ↔ p ∈ ks := by rw [allK, mem_foldK]; simp
theorem rise_allK (ks : List ByteArray) : RiseK (allK ks) := rise_foldK ks [] (by simp [RiseK])
open Classical in
noncomputable def ptsAt : List Ser → ByteArray → List Pnt
 | [], _ => []
 | x :: l, k => if x.key = k then x.pts else ptsAt l k
theorem ptsAt_none {k : ByteArray} : ∀ {l : List Ser}, (∀ x ∈ l, x.key ≠ k) → ptsAt l k = []
 | [], _ => rfl
 | x :: l, h => by rw [ptsAt, if_neg (h x (by simp)), ptsAt_none fun y hy => h y (by simp [hy])]
theorem ptsAt_some {k : ByteArray} : ∀ {l : List Ser}, ptsAt l k = [] ∨ ∃ x ∈ l, x.key = k ∧ ptsAt l k = x.pts
 | [] => .inl rfl
 | x :: l => by
  by_cases h : x.key = k
  ·exact .inr ⟨x, by simp, h, by rw [ptsAt, if_pos h]⟩
  ·rw [ptsAt, if_neg h]
   rcases ptsAt_some (k := k) (l := l) with h | ⟨y, hy, h⟩
   ·exact .inl h
   ·exact .inr ⟨y, by simp [hy], h⟩
theorem ptsAt_rising {l : List Ser} (h : ∀ x ∈ l, Rising x.pts) (k : ByteArray) : Rising (ptsAt l k) := by
 rcases ptsAt_some (k := k) (l := l) with e | ⟨x, hx, _, e⟩
 ·rw [e]; simp [Rising]
 ·rw [e]; exact h x hx
noncomputable def hasAll (ls : List (List Ser)) (k : ByteArray) : List Pnt := ls.foldl (fun a l => mrg a (ptsAt l k)) []
def fromF (f : Int) (l : List Pnt) : List Pnt := l.filter fun p => decide (f ≤ p.t)
noncomputable def has (ls : List (List Ser)) (f : Int) (k : ByteArray) : List Pnt := fromF f (hasAll ls k)
theorem hasAll_snoc (ls : List (List Ser)) (l : List Ser) (k : ByteArray) : hasAll (ls ++ [l]) k = mrg (hasAll ls k) (ptsAt l k) := by rw [hasAll, List.foldl_append]; rfl
theorem mrg_nil (a : List Pnt) : mrg a [] = a := rfl
def LRis (ls : List (List Ser)) : Prop := ∀ l ∈ ls, ∀ x ∈ l, Rising x.pts
theorem fold_rising (k : ByteArray) : ∀ (ls : List (List Ser)) (a : List Pnt), Rising a → Rising (ls.foldl (fun a l => mrg a (ptsAt l k)) a)
 | [], _, h => h
 | _ :: ls, _, h => fold_rising k ls _ (rising_mrg _ _ h)
theorem rising_hasAll (ls : List (List Ser)) (k : ByteArray) : Rising (hasAll ls k) := fold_rising k ls [] (by simp [Rising])
theorem mem_hasAll {p : Pnt} {k : ByteArray} : ∀ {ls : List (List Ser)} {a : List Pnt}, LRis ls → p ∈ ls.foldl (fun a l => mrg a (ptsAt l k)) a → p ∈ a ∨ ∃ l ∈ ls, p ∈ ptsAt l k
 | [], _, _, h => .inl h
 | l :: ls, a, hr, h => by
  rcases mem_hasAll (ls := ls) (fun m hm => hr m (by simp [hm])) h with h1 | ⟨m, hm, h1⟩
  ·rcases (mem_mrg p _ a (ptsAt_rising (hr l (by simp)) k)).1 h1 with h2 | ⟨h2, _⟩
   ·exact .inr ⟨l, by simp, h2⟩
   ·exact .inl h2
  ·exact .inr ⟨m, by simp [hm], h1⟩
theorem hasAll_len (k : ByteArray) (n : Nat) : ∀ (ls : List (List Ser)) (a : List Pnt), (∀ l ∈ ls, (ptsAt l k).length ≤ n) → (ls.foldl (fun a l => mrg a (ptsAt l k)) a).length ≤ a.length + n * ls.length
 | [], a, _ => by simp
 | l :: ls, a, h => by
  have h1 := hasAll_len k n ls (mrg a (ptsAt l k)) fun m hm => h m (by simp [hm])
  have h2 := mrg_length (ptsAt l k) a
  have h3 := h l (by simp)
  rw [List.foldl_cons, List.length_cons, Nat.mul_succ]
  omega
theorem from_id {f : Int} {l : List Pnt} (h : ∀ p ∈ l, f ≤ p.t) : fromF f l = l := List.filter_eq_self.2 fun p hp => by simpa using h p hp
open Classical in
noncomputable def serK (ls : List (List Ser)) (f : Int) (k : ByteArray) : Option Ser := if has ls f k = [] then none else some ⟨k, has ls f k⟩
def keysOf (ls : List (List Ser)) : List ByteArray := ls.flatten.map Ser.key
noncomputable def keysL (ls : List (List Ser)) : List ByteArray := allK (keysOf ls)
noncomputable def plainK (ls : List (List Ser)) (f : Int) (ks : List ByteArray) : List Ser := ks.filterMap (serK ls f)
noncomputable def plainR (ls : List (List Ser)) (f : Int) : List Ser := plainK ls f (keysL ls)
theorem mem_keysL {k : ByteArray} {ls : List (List Ser)} : k ∈ keysL ls ↔ ∃ l ∈ ls, ∃ x ∈ l, x.key = k := by
 rw [keysL, mem_allK, keysOf, List.mem_map]
 constructor
 ·rintro ⟨x, hx, e⟩
  obtain ⟨l, hl, hx⟩ := List.mem_flatten.1 hx
  exact ⟨l, hl, x, hx, e⟩
 ·rintro ⟨l, hl, x, hx, e⟩
  exact ⟨x, List.mem_flatten.2 ⟨l, hl, hx⟩, e⟩
theorem mem_plainK {ls : List (List Ser)} {f : Int} {ks : List ByteArray} {x : Ser} (h : x ∈ plainK ls f ks) : x.key ∈ ks ∧ x.pts = has ls f x.key ∧ x.pts ≠ [] := by
 obtain ⟨k, hk, e⟩ := List.mem_filterMap.1 h
 unfold serK at e
 split at e
 ·cases e
 ·rename_i hne
  cases e
  exact ⟨hk, rfl, hne⟩
theorem SOk_iff (l : List Ser) : SOk l ↔ l.length ≤ 5 ∧ RiseK (l.map Ser.key) ∧ ∀ x ∈ l, KOk x.key ∧ x.pts ≠ [] ∧ POk x.pts := by
 have at_get : ∀ j (h : j < l.length), sAt l j = l[j] := fun j h => by rw [sAt, ← getD_at l j h]
 constructor
 ·intro h
  refine ⟨h.1, ?_, fun x hx => ?_⟩
  ·unfold RiseK
   rw [List.pairwise_iff_getElem]
   have key : ∀ d i, i + d + 1 < l.length → ahd (sAt l i).key (sAt l (i + d + 1)).key = true := by
    intro d
    induction d with
    | zero => intro i hi; have := (h.2 (i + 0 + 1) hi).1.2 (by omega); simpa using this
    | succ d ih =>
     intro i hi
     have h1 := ih i (by omega)
     have h2 := (h.2 (i + (d + 1) + 1) hi).1.2 (by omega)
     rw [show i + (d + 1) + 1 - 1 = i + d + 1 by omega] at h2
     exact ahd_trans h1 h2
   intro i j hi hj hij
   rw [List.length_map] at hi hj
   have := key (j - i - 1) i (by omega)
   rw [show i + (j - i - 1) + 1 = j by omega, at_get i hi, at_get j hj] at this
   rw [List.getElem_map, List.getElem_map]
   exact this
  ·obtain ⟨j, hj, rfl⟩ := List.getElem_of_mem hx
   have := h.2 j hj
   rw [at_get j hj] at this
   exact ⟨this.1.1, fun e => by rw [e] at this; simp at this, this.2.2⟩
 ·rintro ⟨h1, h2, h3⟩
  refine ⟨h1, fun j hj => ⟨⟨?_, fun h0 => ?_⟩, ?_, ?_⟩⟩
  ·rw [at_get j hj]; exact (h3 _ (List.getElem_mem hj)).1
  ·rw [at_get j hj, at_get (j - 1) (by omega)]
   have := (List.pairwise_iff_getElem.1 h2) (j - 1) j (by rw [List.length_map]; omega) (by rw [List.length_map]; exact hj) (by omega)
   rw [List.getElem_map, List.getElem_map] at this
   exact this
  ·rw [at_get j hj]
   have := (h3 _ (List.getElem_mem hj)).2.1
   cases e : (l[j]).pts with
   | nil => exact absurd e this
   | cons y r => simp
  ·rw [at_get j hj]; exact (h3 _ (List.getElem_mem hj)).2.2
end Go.Proofs.YtikknmoeefipmaaGreatDoor
namespace Go.Proofs.YtikknmoeefipmaaGreatDoor
open Go.RowKit Go.PlainAid
structure Eng where
 floor : Int
 cache : List Ser
 files : List ByteArray
theorem Eng.same {x y : Eng} (h1 : x.floor = y.floor) (h2 : x.cache = y.cache) (h3 : x.files = y.files) : x = y := by
 cases x
 cases y
 simp only at h1 h2 h3
 subst h1
 subst h2
 subst h3
 rfl
def isF (s : ByteArray) : Prop := ∃ m, GoodF s m
open Classical in
noncomputable def fileM (s : ByteArray) : List Ser := if h : ∃ m, GoodF s m then Classical.choose h else []
theorem fileM_is {s : ByteArray} {m : List Ser} (h : GoodF s m) : fileM s = m := by
 have hx : ∃ m, GoodF s m := ⟨m, h⟩
 unfold fileM
 rw [dif_pos hx]
 exact (Classical.choose_spec hx).one h
theorem isF.good {s : ByteArray} (h : isF s) : GoodF s (fileM s) := by
 obtain ⟨m, hm⟩ := h
 rw [fileM_is hm]
 exact hm
noncomputable def laysF (fs : List ByteArray) : List (List Ser) := fs.map fileM
noncomputable def lays (e : Eng) : List (List Ser) := laysF e.files ++ [e.cache]
theorem laysF_snoc (fs : List ByteArray) (s : ByteArray) : laysF (fs ++ [s]) = laysF fs ++ [fileM s] := by unfold laysF; rw [List.map_append]; rfl
noncomputable def plainE (e : Eng) : List Ser := plainR (lays e) e.floor
def cntS (l : List Ser) : Nat := (l.map fun x => x.pts.length).sum
theorem cntS_snoc (l : List Ser) (k : Nat) (h : k < l.length) : cntS (l.take (k + 1)) = cntS (l.take k) + (l.getD k default).pts.length := by
 unfold cntS
 rw [take_getD l k h, List.map_append, List.sum_append]
 simp
def PreOk (e : Eng) : Prop := (0 ≤ e.floor ∧ e.floor ≤ 1099511627776) ∧ e.files.length ≤ 4 ∧ SOk e.cache ∧ cntS e.cache ≤ 40 ∧ ∀ x ∈ e.cache, e.floor ≤ tAt x.pts 0
def EOk (e : Eng) : Prop := PreOk e ∧ (∀ s ∈ e.files, isF s) ∧ SOk (plainE e)
open Classical in
noncomputable def plainX (e : Eng) : List Ser := if EOk e then plainE e else []
theorem len_pos {α : Type} {l : List α} (h : l ≠ []) : 1 ≤ l.length := by
 cases l with
 | nil => exact absurd rfl h
 | cons x l => simp
end Go.Proofs.YtikknmoeefipmaaGreatDoor
namespace Go.Proofs.YtikknmoeefipmaaGreatDoor
open Go.ChangeShapes Go.WideShapes Go.ChangeAt Go.RowKit Go.PlainAid
set_option linter.unusedVariables false
structure Sta where
 kind : Int
 hold : Int
 mark : Int
 bks : List Pnt
 eng : Eng
 ses : List Ses
def sesFrom : Int → List Ses → Bool
 | _, [] => true
 | a, x :: l => inRg x.client a 4 && inRg x.serial 1 1000000 && ansOk x.ans && sesFrom (x.client + 1) l
theorem inRg_true {x lo hi : Int} : inRg x lo hi = true ↔ lo ≤ x ∧ x ≤ hi := by
 unfold inRg
 rw [Bool.and_eq_true, decide_eq_true_iff, decide_eq_true_iff]
theorem inRg_false {x lo hi : Int} : inRg x lo hi = false ↔ x < lo ∨ hi < x := by
 rw [← Bool.not_eq_true, inRg_true]
 omega
theorem ses_few : ∀ (l : List Ses) (a : Int), sesFrom a l = true → l = [] ∨ (l.length : Int) + a ≤ 5
 | [], _, _ => .inl rfl
 | x :: l, a, h => by
  unfold sesFrom at h
  rw [Bool.and_eq_true, Bool.and_eq_true, Bool.and_eq_true, inRg_true] at h
  refine .inr ?_
  rcases ses_few l _ h.2 with rfl | h2
  ·simp
   omega
  ·rw [List.length_cons]
   omega
theorem ses_many {l : List Ses} (h : 4 < l.length) : sesFrom 1 l = false := by
 rcases e : sesFrom 1 l with _ | _
 ·rfl
 ·rcases ses_few l 1 e with rfl | h2
  ·simp at h
  ·omega
theorem ses_drop (l : List Ses) (k : Nat) (h : k < l.length) (a : Int) : sesFrom a (l.drop k) = (inRg (l.getD k default).client a 4 && inRg (l.getD k default).serial 1 1000000 && ansOk (l.getD k default).ans && sesFrom ((l.getD k default).client + 1) (l.drop (k + 1))) := by
 rw [List.drop_eq_getElem_cons h, getD_at l k h]
 rfl
def mokFrom (m : Int) : Int → List Pnt → Bool
 | _, [] => true
 | a, x :: l => inRg x.t a 10995116277 && decide (m < (x.t + 1) * 100) && inRg x.v 0 1 && mokFrom m (x.t + 1) l
theorem mok_drop (m : Int) (l : List Pnt) (k : Nat) (h : k < l.length) (a : Int) : mokFrom m a (l.drop k) = (inRg (l.getD k default).t a 10995116277 && decide (m < ((l.getD k default).t + 1) * 100) && inRg (l.getD k default).v 0 1 && mokFrom m ((l.getD k default).t + 1) (l.drop (k + 1))) := by
 rw [List.drop_eq_getElem_cons h, getD_at l k h]
 rfl
def firstB (m : Int) : List Pnt → Bool
 | [] => true
 | x :: _ => decide (m < (x.t + 1) * 100)
theorem mok_same (m : Int) : ∀ (l : List Pnt) (a : Int), mokFrom m a l = (bokFrom a l && firstB m l)
 | [], _ => rfl
 | x :: l, a => by
  have h3 : decide (m < (x.t + 1) * 100) = true → bokFrom (x.t + 1) l = true → firstB m l = true := by
   intro h1 h2
   cases l with
   | nil => rfl
   | cons y l =>
    unfold bokFrom at h2
    rw [Bool.and_eq_true, Bool.and_eq_true, inRg_true] at h2
    have := of_decide_eq_true h1
    show decide (m < (y.t + 1) * 100) = true
    exact decide_eq_true (by omega)
  show (inRg x.t a 10995116277 && decide (m < (x.t + 1) * 100) && inRg x.v 0 1 && mokFrom m (x.t + 1) l) = ((inRg x.t a 10995116277 && inRg x.v 0 1 && bokFrom (x.t + 1) l) && decide (m < (x.t + 1) * 100))
  rw [mok_same m l (x.t + 1)]
  revert h3
  generalize decide (m < (x.t + 1) * 100) = D
  generalize bokFrom (x.t + 1) l = C
  generalize firstB m l = E
  generalize inRg x.t a 10995116277 = A
  generalize inRg x.v 0 1 = B
  intro h3
  cases D <;> cases C <;> cases E <;> cases A <;> cases B <;> first | rfl | exact absurd (h3 rfl rfl) (by decide)
def zeroB (e : Eng) : Bool := decide (e.floor = 0) && decide (e.cache.length = 0) && decide (e.files.length = 0)
def metaB (x : Sta) : Bool := inRg x.hold 0 100000 && inRg x.mark 0 1099511627776 && decide (x.bks.length ≤ 12) && bokFrom 0 x.bks && firstB x.mark x.bks && zeroB x.eng
open Classical in
noncomputable def shardB (x : Sta) : Bool := decide (x.hold = 0) && decide (x.mark = 0) && decide (x.bks.length = 0) && decide (EOk x.eng)
noncomputable def staOk (x : Sta) : Bool := sesFrom 1 x.ses && (if x.kind = 1 then metaB x else if x.kind = 2 then shardB x else false)
end Go.Proofs.YtikknmoeefipmaaGreatDoor
namespace Go.Proofs.YtikknmoeefipmaaGreatDoor
open Go.RowKit Go.PlainAid
def strCells (l : List ByteArray) : List Value := l.map Value.string
def Strs (w : World) (base : Nat) (v : Value) (l : List ByteArray) : Prop := w.ownsRow base 9 1 v l.length (strCells l)
theorem Strs.nil (w : World) (base : Nat) : Strs w base (.slice none 0 0) [] := World.ownsRow_nil w base 9 1
theorem Strs.empty (w : World) (base : Nat) (hb : base ≤ w.heap.size) : Strs (w.alloc (.cells #[] 9)) base (.slice (some ⟨w.heap.size, 0, none⟩) 0 0) [] :=
 World.ownsRow_lit w #[] 0 hb (by unfold maxLen; omega) rfl
theorem Strs.mono {w : World} {base base' : Nat} {v : Value} {l : List ByteArray} (h : Strs w base v l) (hb : base' ≤ base) : Strs w base' v l :=
 ⟨h.1, h.2.imp id fun ⟨g, cap, cur, e, hg, r⟩ => ⟨g, cap, cur, e, Nat.le_trans hb hg, r⟩⟩
theorem Strs.kept {w w' : World} {base : Nat} {v : Value} {l : List ByteArray} (h : Strs w base v l) (hk : ∀ g, g < w.heap.size → v.ownBlock = some g → w'.heap[g]? = w.heap[g]?) : Strs w' base v l := by
 have hl := World.ownsRow.lt h
 refine ⟨h.1, h.2.imp id ?_⟩
 rintro ⟨g, cap, cur, rfl, hg, hh, r⟩
 refine ⟨g, cap, cur, rfl, hg, ?_, r⟩
 rw [hk g (hl g rfl).2 rfl]
 exact hh
theorem Strs.on {w w' : World} {base : Nat} {v : Value} {l : List ByteArray} (h : Strs w base v l) (hb : Below w.heap.size w w') : Strs w' base v l := h.kept fun g hg _ => hb.block g hg
theorem Strs.under {w w' : World} {base B : Nat} {v : Value} {l : List ByteArray} (h : Strs w base v l) (hB : w.heap.size ≤ B) (hb : Below B w w') : Strs w' base v l := h.kept fun g hg _ => hb.block g (Nat.lt_of_lt_of_le hg hB)
theorem Strs.alloc {w : World} {base : Nat} {v : Value} {l : List ByteArray} (h : Strs w base v l) (o : Obj) : Strs (w.alloc o) base v l := World.ownsRow.alloc h o
theorem Strs.form {w : World} {base : Nat} {v : Value} {l : List ByteArray} (h : Strs w base v l) : (v = .slice none 0 0 ∧ l = []) ∨ ∃ g cap, v = .slice (some ⟨g, 0, none⟩) l.length cap ∧ base ≤ g ∧ g < w.heap.size := by
 have hl := World.ownsRow.lt h
 rcases h.2 with ⟨rfl, h0⟩ | ⟨g, cap, cur, rfl, hg, _⟩
 ·exact .inl ⟨rfl, List.eq_nil_of_length_eq_zero h0⟩
 ·exact .inr ⟨g, cap, rfl, hg, (hl g rfl).2⟩
theorem Strs.cell {w : World} {base g cap : Nat} {l : List ByteArray} (h : Strs w base (.slice (some ⟨g, 0, none⟩) l.length cap) l) (j : Nat) (hj : j < l.length) : w.cell? ⟨g, j, none⟩ = some (.string l[j]) := by
 rw [World.ownsRow.cellAt h j (by omega)]
 simp [strCells, hj]
theorem Strs.frozen {w : World} {base g cap : Nat} {l : List ByteArray} (h : Strs w base (.slice (some ⟨g, 0, none⟩) l.length cap) l) (j : Nat) : w.frozen? ⟨g, j, none⟩ = false := World.ownsRow.frozenAt h j
theorem Strs.stored {w : World} {base g cap : Nat} {l : List ByteArray} (h : Strs w base (.slice (some ⟨g, 0, none⟩) l.length cap) l) (j : Nat) (x : ByteArray) :
  Strs (w.setCell ⟨g, j, none⟩ (.string x)) base (.slice (some ⟨g, 0, none⟩) l.length cap) (l.set j x) := by
 have hs := (World.ownsRow.stored h j (.string x)).1
 unfold Strs
 rw [List.length_set, strCells, List.map_set]
 exact hs
def dg : Nat → Nat → List UInt8
 | 0, _ => []
 | f + 1, n => if n = 0 then [] else dg f (n / 10) ++ [byt (48 + n % 10)]
def mark (k : Nat) : ByteArray := txt (109 :: dg 20 k)
def marks (k : Nat) : Nat → List ByteArray
 | 0 => []
 | n + 1 => marks k n ++ [mark (k + n)]
def marked (k : Nat) (l : List ByteArray) (j : Nat) : List ByteArray := marks k j ++ l.drop j
end Go.Proofs.YtikknmoeefipmaaGreatDoor
namespace Go.Proofs.YtikknmoeefipmaaGreatDoor
open Go.ChangeShapes Go.WideShapes Go.ChangeAt Go.RowKit Go.PlainAid
set_option linter.unusedVariables false
theorem cSr : Tryz.prog.cellsOf 128 = 2 := by kernel_rfl
def SFits (l : List Ser) : Prop := l.length ≤ maxLen ∧ ∀ x ∈ l, x.key.size ≤ maxLen ∧ x.pts.length ≤ maxLen
section
variable {H : Type} {enc : TypeId × Value → H} {w : World} {base : Nat} {spare : Nat → Bool} {held : Bool}
set_option maxRecDepth 100000 in
theorem open_sr (n : Nat) (cs : List Value) (y : DataW H × List MemPlace) (h : DataW.trod enc Tryz.prog w base spare held n 128 cs = some y) : ∃ z : Ser × Value, cs = srC z ∧ (Lies w w.heap.size 2 z.2 (ptR z.1.pts) ∧ z.1.key.size ≤ maxLen ∧ z.1.pts.length ≤ maxLen) := by
 obtain ⟨xs, m, _, _, hl, hlen, hf⟩ := DataW.trod_struct Tryz.underlying128 h
 rw [cSr] at hl
 obtain ⟨a, b, rfl⟩ := list2 hl
 obtain ⟨x0, x1, rfl⟩ := list2 (show xs.length = 2 from hlen)
 have f0 := hf 0 _ rfl
 have f1 := hf 1 _ rfl
 simp only [List.getElem?_cons_zero, List.getElem?_cons_succ] at f0 f1
 obtain ⟨s0, e0, _, hs⟩ := DataW.trod_string Tryz.underlying9 f0
 cases e0
 obtain ⟨ls, l1, l2, _⟩ := open_rows Tryz.underlying42 2 cPt (by omega) ptC (fun _ => rfl) _ open_pt f1
 exact ⟨⟨⟨s0, ls⟩, b⟩, rfl, l1, hs, l2⟩
end
end Go.Proofs.YtikknmoeefipmaaGreatDoor
