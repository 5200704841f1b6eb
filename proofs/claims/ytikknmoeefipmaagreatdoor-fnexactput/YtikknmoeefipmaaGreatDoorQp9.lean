/- FlMath EgMath EgDef -/
import Derived.Test.YtikknmoeefipmaaGreatDoorQp6
import Derived.Test.YtikknmoeefipmaaGreatDoorQp8
namespace Go.Proofs.YtikknmoeefipmaaGreatDoor
open Go.RowKit Go.PlainAid
def bl (s : ByteArray) : List UInt8 := s.data.toList
theorem txt_bl (s : ByteArray) : txt (bl s) = s := txt_toList s
theorem bl_length (s : ByteArray) : (bl s).length = s.size := by rw [← txt_size, txt_bl]
def magic : List UInt8 := [116, 115, 98, 49]
def blkB (l : List Ser) (j : Nat) : List UInt8 := bl (showB (sAt l j).pts)
def blks (l : List Ser) (k : Nat) : List UInt8 := cat (blkB l) k
def atB (l : List Ser) (k : Nat) : Nat := 4 + (blks l k).length
def fT (l : List Ser) (j : Nat) : Nat := (tAt (sAt l j).pts 0).toNat
def lT (l : List Ser) (j : Nat) : Nat := (tAt (sAt l j).pts ((sAt l j).pts.length - 1)).toNat
def spB (l : List Ser) (j : Nat) : List UInt8 := vF 6 (sAt l j).key.size ++ (bl (sAt l j).key ++ (vF 6 (atB l j) ++ (vF 6 (blkB l j).length ++ (vF 6 (fT l j) ++ vF 6 (lT l j)))))
def idxB (l : List Ser) (k : Nat) : List UInt8 := cat (spB l) k
def bodyF (l : List Ser) : List UInt8 := magic ++ (blks l l.length ++ (idxB l l.length ++ low (atB l l.length) 4))
def fileB (l : List Ser) : List UInt8 := bodyF l ++ low (crc (txt (bodyF l))) 4
def fileT (l : List Ser) : ByteArray := if 1 ≤ l.length ∧ SOk l then txt (fileB l) else txt []
def GoodF (s : ByteArray) (l : List Ser) : Prop := 1 ≤ l.length ∧ SOk l ∧ fileT l = s
theorem GoodF.text {s : ByteArray} {l : List Ser} (h : GoodF s l) : s = txt (fileB l) := by
 rw [← h.2.2, fileT, if_pos ⟨h.1, h.2.1⟩]
theorem blkB_length (l : List Ser) (j : Nat) : (blkB l j).length ≤ 900 := by unfold blkB; rw [bl_length]; exact showB_size _
theorem blks_length (l : List Ser) (k : Nat) : (blks l k).length ≤ 900 * k := by
 induction k with
 | zero => simp [blks, cat_zero]
 | succ k ih => unfold blks at ih ⊢; rw [cat_succ, List.length_append]; have := blkB_length l k; omega
theorem SOk.key {l : List Ser} (h : SOk l) (j : Nat) (hj : j < l.length) : 1 ≤ (sAt l j).key.size ∧ (sAt l j).key.size ≤ 8 := ⟨(h.2 j hj).1.1.1, (h.2 j hj).1.1.2.1⟩
theorem SOk.times {l : List Ser} (h : SOk l) (j : Nat) (hj : j < l.length) : (0 ≤ tAt (sAt l j).pts 0 ∧ tAt (sAt l j).pts 0 ≤ 1099511627776) ∧ (0 ≤ tAt (sAt l j).pts ((sAt l j).pts.length - 1) ∧ tAt (sAt l j).pts ((sAt l j).pts.length - 1) ≤ 1099511627776) := by
 have h1 := (h.2 j hj).2
 exact ⟨(h1.2.2 0 (by omega)).1.1, (h1.2.2 _ (by omega)).1.1⟩
theorem spB_length {l : List Ser} (h : SOk l) (j : Nat) (hj : j < l.length) : 6 ≤ (spB l j).length ∧ (spB l j).length ≤ 43 := by
 have := h.key j hj
 unfold spB
 simp only [List.length_append, bl_length]
 have a1 := vF_pos 6 (sAt l j).key.size
 have a2 := vF_pos 6 (atB l j)
 have a3 := vF_pos 6 (blkB l j).length
 have a4 := vF_pos 6 (fT l j)
 have a5 := vF_pos 6 (lT l j)
 have b1 := vF_length 6 (sAt l j).key.size
 have b2 := vF_length 6 (atB l j)
 have b3 := vF_length 6 (blkB l j).length
 have b4 := vF_length 6 (fT l j)
 have b5 := vF_length 6 (lT l j)
 omega
theorem idxB_length {l : List Ser} (h : SOk l) (k : Nat) (hk : k ≤ l.length) : 6 * k ≤ (idxB l k).length ∧ (idxB l k).length ≤ 43 * k := by
 induction k with
 | zero => simp [idxB, cat_zero]
 | succ k ih =>
  have ih := ih (by omega)
  have := spB_length h k (by omega)
  unfold idxB at ih ⊢
  rw [cat_succ, List.length_append]
  omega
theorem atB_le {l : List Ser} (h : SOk l) (k : Nat) (hk : k ≤ l.length) : atB l k ≤ 4504 := by
 have := blks_length l k
 have := h.1
 unfold atB
 omega
theorem bodyF_length {l : List Ser} (h : SOk l) : (bodyF l).length = 8 + (blks l l.length).length + (idxB l l.length).length ∧ (bodyF l).length ≤ 5000 := by
 have h1 := blks_length l l.length
 have h2 := idxB_length h l.length (Nat.le_refl _)
 have := h.1
 unfold bodyF
 simp only [List.length_append, low_length]
 have : magic.length = 4 := rfl
 omega
theorem fileB_length (l : List Ser) : (fileB l).length = (bodyF l).length + 4 := by unfold fileB; rw [List.length_append, low_length]
theorem fileT_size (l : List Ser) : (fileT l).size ≤ 5004 := by
 unfold fileT
 split
 ·rename_i h
  rw [txt_size, fileB_length]
  have := bodyF_length h.2
  omega
 ·rw [txt_size]; simp
theorem rdV_ex (s : ByteArray) : ∃ n k : Nat, RdV s (n : Int) k := by
 by_cases h : ∃ k, FindV s k
 ·obtain ⟨k, h⟩ := h
  exact ⟨vvS s 0 k, k, .inl ⟨h, rfl⟩⟩
 ·exact ⟨0, 0, .inr ⟨fun j hj => h ⟨j, hj⟩, rfl, rfl⟩⟩
noncomputable def rvN (s : ByteArray) : Nat := Classical.choose (rdV_ex s)
noncomputable def rvK (s : ByteArray) : Nat := Classical.choose (Classical.choose_spec (rdV_ex s))
theorem rv_rd (s : ByteArray) : RdV s (rvN s : Int) (rvK s) := Classical.choose_spec (Classical.choose_spec (rdV_ex s))
theorem rv_is {s : ByteArray} {n : Int} {k : Nat} (h : RdV s n k) : n = (rvN s : Int) ∧ k = rvK s := h.one (rv_rd s)
theorem rvN_le (s : ByteArray) : rvN s ≤ 562949953421311 := by
 rcases rv_rd s with ⟨⟨_, h7, _, _⟩, h⟩ | ⟨_, h, _⟩
 ·have := vvS_le s (rvK s) h7 0
  omega
 ·omega
theorem rvK_le (s : ByteArray) : rvK s ≤ s.size ∧ rvK s ≤ 7 := by
 have := (rv_rd s).le
 omega
theorem rv_var (n : Nat) (tl : List UInt8) (hn : n ≤ 562949953421311) : rvN (txt (vF 6 n ++ tl)) = n ∧ rvK (txt (vF 6 n ++ tl)) = (vF 6 n).length := by
 have hf := find_var n tl hn
 have := rv_is (s := txt (vF 6 n ++ tl)) (n := (n : Int)) (k := (vF 6 n).length) (.inl ⟨hf.1, by rw [hf.2]⟩)
 omega
theorem extract_mid (a b c : List UInt8) : (txt (a ++ (b ++ c))).extract a.length (a.length + b.length) = txt b := by
 have h1 := extract_back a (b ++ c)
 have h2 := extract_front b c
 rw [← h1, ByteArray.extract_extract] at h2
 rw [← h2]
 congr 1
 rw [txt_size]
 simp only [List.length_append]
 omega
theorem rest_mid (a b : List UInt8) : rest (txt (a ++ b)) a.length = txt b := extract_back a b
noncomputable def tkN (s : ByteArray) (p : Nat) : Nat := rvN (rest s p)
noncomputable def tkP (s : ByteArray) (p : Nat) : Nat := p + rvK (rest s p)
theorem tkP_le (s : ByteArray) (p : Nat) (h : p ≤ s.size) : tkP s p ≤ s.size := by
 have := (rvK_le (rest s p)).1
 rw [rest_size] at this
 unfold tkP
 omega
theorem tk_var (a : List UInt8) (n : Nat) (tl : List UInt8) (hn : n ≤ 562949953421311) : tkN (txt (a ++ (vF 6 n ++ tl))) a.length = n ∧ tkP (txt (a ++ (vF 6 n ++ tl))) a.length = (a ++ vF 6 n).length := by
 unfold tkN tkP
 rw [rest_mid, (rv_var n tl hn).1, (rv_var n tl hn).2, List.length_append]
 exact ⟨rfl, rfl⟩
structure Spot where
 key : ByteArray
 at' : Nat
 size : Nat
 first : Nat
 last : Nat
instance : Inhabited Spot := ⟨⟨⟨#[]⟩, 0, 0, 0, 0⟩⟩
def tk (s : ByteArray) (p many : Nat) : Nat := min (p + many) s.size
noncomputable def spK (s : ByteArray) (p : Nat) : Nat := tk s (tkP s p) (tkN s p)
noncomputable def spotA (s : ByteArray) (p : Nat) : Spot :=
 ⟨s.extract (tkP s p) (spK s p), tkN s (spK s p), tkN s (tkP s (spK s p)), tkN s (tkP s (tkP s (spK s p))), tkN s (tkP s (tkP s (tkP s (spK s p))))⟩
noncomputable def spotP (s : ByteArray) (p : Nat) : Nat := tkP s (tkP s (tkP s (tkP s (spK s p))))
theorem tk_le (s : ByteArray) (p many : Nat) : tk s p many ≤ s.size := Nat.min_le_right _ _
theorem spotP_le (s : ByteArray) (p : Nat) : spotP s p ≤ s.size := tkP_le _ _ (tkP_le _ _ (tkP_le _ _ (tkP_le _ _ (tk_le _ _ _))))
noncomputable def idxA (s : ByteArray) (e : Nat) : Nat → Nat → List Spot
 | 0, _ => []
 | f + 1, p => if p < e then spotA s p :: idxA s e f (spotP s p) else []
noncomputable def spots (s : ByteArray) : List Spot := if s.size < 8 then [] else idxA s (s.size - 8) 5 (min (rdv (rest s (s.size - 8)) 4) s.size)
theorem idxA_length (s : ByteArray) (e : Nat) : ∀ f p, (idxA s e f p).length ≤ f
 | 0, _ => by simp [idxA]
 | f + 1, p => by
  rw [idxA]
  split
  ·have := idxA_length s e f (spotP s p)
   simp only [List.length_cons]
   omega
  ·simp
theorem spots_length (s : ByteArray) : (spots s).length ≤ 5 := by
 unfold spots
 split
 ·simp
 ·exact idxA_length _ _ _ _
def blkA (s : ByteArray) (x : Spot) : ByteArray := s.extract (min x.at' s.size) (tk s (min x.at' s.size) x.size)
theorem rb_ex (s : ByteArray) : ∃ l ok, RbAns s l ok := by
 by_cases h : ∃ l, Good s l
 ·obtain ⟨l, h⟩ := h
  exact ⟨l, true, .inl ⟨rfl, h⟩⟩
 ·exact ⟨[], false, .inr ⟨rfl, rfl, fun m hm => h ⟨m, hm⟩⟩⟩
noncomputable def rbP (s : ByteArray) : List Pnt := Classical.choose (rb_ex s)
theorem rbP_is {s : ByteArray} {l : List Pnt} {ok : Bool} (h : RbAns s l ok) : l = rbP s := by
 obtain ⟨ok', h'⟩ := Classical.choose_spec (rb_ex s)
 exact (h.one h').1
theorem rbP_good {s : ByteArray} {l : List Pnt} (h : Good s l) : rbP s = l := (rbP_is (ok := true) (.inl ⟨rfl, h⟩)).symm
theorem rbP_length (s : ByteArray) : (rbP s).length ≤ 60 := by
 obtain ⟨ok, h⟩ := Classical.choose_spec (rb_ex s)
 exact h.len
noncomputable def serA (s : ByteArray) (x : Spot) : Ser := ⟨x.key, rbP (blkA s x)⟩
noncomputable def serAll (s : ByteArray) : List Ser := (spots s).map (serA s)
def spotOf (l : List Ser) (j : Nat) : Spot := ⟨(sAt l j).key, atB l j, (blkB l j).length, fT l j, lT l j⟩
def posF (l : List Ser) (j : Nat) : Nat := atB l l.length + (idxB l j).length
theorem file_at (l : List Ser) (j : Nat) (hj : j < l.length) : ∃ a b : List UInt8, fileB l = a ++ (spB l j ++ (b ++ (low (atB l l.length) 4 ++ low (crc (txt (bodyF l))) 4))) ∧ a.length = posF l j ∧ idxB l l.length = idxB l j ++ (spB l j ++ b) := by
 obtain ⟨b, hb⟩ := cat_split (spB l) j l.length hj
 refine ⟨magic ++ (blks l l.length ++ idxB l j), b, ?_, ?_, hb⟩
 ·unfold fileB bodyF
  rw [show idxB l l.length = cat (spB l) l.length from rfl, hb]
  simp only [List.append_assoc]
  rfl
 ·unfold posF atB
  simp only [List.length_append]
  have : magic.length = 4 := rfl
  omega
theorem posF_end {l : List Ser} (h : SOk l) : posF l l.length + 8 = (fileB l).length := by
 have := bodyF_length h
 rw [fileB_length, this.1]
 unfold posF atB
 omega
theorem posF_lt {l : List Ser} (h : SOk l) (j : Nat) (hj : j < l.length) : posF l j < posF l l.length := by
 obtain ⟨a, b, _, _, hb⟩ := file_at l j hj
 have := spB_length h j hj
 unfold posF
 rw [hb]
 simp only [List.length_append]
 omega
theorem posF_succ (l : List Ser) (j : Nat) : posF l (j + 1) = posF l j + (spB l j).length := by
 unfold posF idxB
 rw [cat_succ, List.length_append, Nat.add_assoc]
theorem nums_le {l : List Ser} (h : SOk l) (j : Nat) (hj : j < l.length) : (sAt l j).key.size ≤ 562949953421311 ∧ atB l j ≤ 562949953421311 ∧ (blkB l j).length ≤ 562949953421311 ∧ fT l j ≤ 562949953421311 ∧ lT l j ≤ 562949953421311 := by
 have h1 := h.key j hj
 have h2 := atB_le h j (by omega)
 have h3 := blkB_length l j
 have h4 := h.times j hj
 unfold fT lT
 omega
theorem spot_read {l : List Ser} (h : SOk l) (j : Nat) (hj : j < l.length) : spotA (txt (fileB l)) (posF l j) = spotOf l j ∧ spotP (txt (fileB l)) (posF l j) = posF l (j + 1) := by
 obtain ⟨a, b, hf, ha, _⟩ := file_at l j hj
 obtain ⟨n1, n2, n3, n4, n5⟩ := nums_le h j hj
 generalize hK : (sAt l j).key = K at *
 generalize hA : atB l j = A at *
 generalize hZ : (blkB l j).length = Z at *
 generalize hF : fT l j = F at *
 generalize hE : lT l j = E at *
 generalize b ++ (low (atB l l.length) 4 ++ low (crc (txt (bodyF l))) 4) = T at hf
 have hsp : spB l j = vF 6 K.size ++ (bl K ++ (vF 6 A ++ (vF 6 Z ++ (vF 6 F ++ vF 6 E)))) := by unfold spB; rw [hK, hA, hZ, hF, hE]
 have e0 : fileB l = a ++ (vF 6 K.size ++ (bl K ++ (vF 6 A ++ (vF 6 Z ++ (vF 6 F ++ (vF 6 E ++ T)))))) := by rw [hf, hsp]; simp only [List.append_assoc]
 have e1 : fileB l = (a ++ vF 6 K.size) ++ (bl K ++ (vF 6 A ++ (vF 6 Z ++ (vF 6 F ++ (vF 6 E ++ T))))) := by rw [e0]; simp only [List.append_assoc]
 have e2 : fileB l = (a ++ vF 6 K.size ++ bl K) ++ (vF 6 A ++ (vF 6 Z ++ (vF 6 F ++ (vF 6 E ++ T)))) := by rw [e0]; simp only [List.append_assoc]
 have e3 : fileB l = (a ++ vF 6 K.size ++ bl K ++ vF 6 A) ++ (vF 6 Z ++ (vF 6 F ++ (vF 6 E ++ T))) := by rw [e0]; simp only [List.append_assoc]
 have e4 : fileB l = (a ++ vF 6 K.size ++ bl K ++ vF 6 A ++ vF 6 Z) ++ (vF 6 F ++ (vF 6 E ++ T)) := by rw [e0]; simp only [List.append_assoc]
 have e5 : fileB l = (a ++ vF 6 K.size ++ bl K ++ vF 6 A ++ vF 6 Z ++ vF 6 F) ++ (vF 6 E ++ T) := by rw [e0]; simp only [List.append_assoc]
 have t1 := tk_var a K.size (bl K ++ (vF 6 A ++ (vF 6 Z ++ (vF 6 F ++ (vF 6 E ++ T))))) n1
 rw [← e0] at t1
 have k1 : spK (txt (fileB l)) a.length = (a ++ vF 6 K.size ++ bl K).length := by
  unfold spK tk
  rw [t1.1, t1.2, txt_size, e2]
  simp only [List.length_append, bl_length]
  omega
 have x1 := extract_mid (a ++ vF 6 K.size) (bl K) (vF 6 A ++ (vF 6 Z ++ (vF 6 F ++ (vF 6 E ++ T))))
 rw [← e1, ← List.length_append] at x1
 have t2 := tk_var (a ++ vF 6 K.size ++ bl K) A (vF 6 Z ++ (vF 6 F ++ (vF 6 E ++ T))) n2
 rw [← e2] at t2
 have t3 := tk_var (a ++ vF 6 K.size ++ bl K ++ vF 6 A) Z (vF 6 F ++ (vF 6 E ++ T)) n3
 rw [← e3] at t3
 have t4 := tk_var (a ++ vF 6 K.size ++ bl K ++ vF 6 A ++ vF 6 Z) F (vF 6 E ++ T) n4
 rw [← e4] at t4
 have t5 := tk_var (a ++ vF 6 K.size ++ bl K ++ vF 6 A ++ vF 6 Z ++ vF 6 F) E T n5
 rw [← e5] at t5
 rw [posF_succ, ← ha]
 unfold spotA spotP
 rw [k1, t1.2, t2.1, t2.2, t3.1, t3.2, t4.1, t4.2, t5.1, t5.2, x1]
 refine ⟨?_, ?_⟩
 ·unfold spotOf
  rw [hK, hA, hZ, hF, hE, txt_bl]
 ·rw [hsp]
  simp only [List.length_append]
  omega
theorem idx_read {l : List Ser} (h : SOk l) (d : Nat) : ∀ j f, j + d = l.length → d ≤ f → idxA (txt (fileB l)) (posF l l.length) f (posF l j) = (List.range d).map fun i => spotOf l (j + i) := by
 induction d with
 | zero =>
  intro j f hj _
  obtain rfl : j = l.length := by omega
  cases f with
  | zero => rfl
  | succ f => rw [idxA, if_neg (by omega)]; rfl
 | succ d ih =>
  intro j f hj hf
  match f, hf with
  | f + 1, hf =>
   rw [idxA, if_pos (posF_lt h j (by omega)), (spot_read h j (by omega)).1, (spot_read h j (by omega)).2, ih (j + 1) f (by omega) (by omega), List.range_succ_eq_map, List.map_cons, List.map_map, Nat.add_zero]
   congr 1
   apply List.map_congr_left
   intro i _
   show spotOf l (j + 1 + i) = spotOf l (j + (i + 1))
   congr 1
   omega
theorem begin_read {l : List Ser} (h : SOk l) : rdv (rest (txt (fileB l)) ((txt (fileB l)).size - 8)) 4 = atB l l.length ∧ 12 ≤ (txt (fileB l)).size := by
 have hb := atB_le h l.length (Nat.le_refl _)
 have hl := bodyF_length h
 have e : fileB l = (magic ++ (blks l l.length ++ idxB l l.length)) ++ (low (atB l l.length) 4 ++ low (crc (txt (bodyF l))) 4) := by
  unfold fileB
  conv => lhs; arg 1; unfold bodyF
  simp only [List.append_assoc]
 have hz : (txt (fileB l)).size - 8 = (magic ++ (blks l l.length ++ idxB l l.length)).length := by
  rw [txt_size, fileB_length, hl.1]
  simp only [List.length_append]
  have : magic.length = 4 := rfl
  omega
 refine ⟨?_, by rw [txt_size, fileB_length, hl.1]; omega⟩
 rw [hz]
 conv => lhs; arg 1; rw [e]
 rw [rest_mid, ← txt_cat, rdv_append _ _ _ (by rw [txt_size, low_length]; exact Nat.le_refl _)]
 exact rdv_four_four _ (by omega)
theorem spots_read {l : List Ser} (h : SOk l) : spots (txt (fileB l)) = (List.range l.length).map (spotOf l) := by
 obtain ⟨h1, h2⟩ := begin_read h
 have hp := posF_end h
 have hb := atB_le h l.length (Nat.le_refl _)
 have h5 := h.1
 have hl := bodyF_length h
 have e0 : min (atB l l.length) (txt (fileB l)).size = posF l 0 := by
  rw [txt_size, fileB_length, hl.1]
  unfold posF idxB
  rw [cat_zero]
  unfold atB
  simp only [List.length_nil]
  omega
 have ee : (txt (fileB l)).size - 8 = posF l l.length := by rw [txt_size]; omega
 unfold spots
 rw [if_neg (by omega), h1, e0, ee, idx_read h l.length 0 5 (by omega) h5]
 simp only [Nat.zero_add]
theorem blk_read {l : List Ser} (j : Nat) (hj : j < l.length) : blkA (txt (fileB l)) (spotOf l j) = showB (sAt l j).pts := by
 obtain ⟨c, hc⟩ := cat_split (blkB l) j l.length hj
 have e : ∃ T, fileB l = (magic ++ blks l j) ++ (blkB l j ++ T) := by
  refine ⟨c ++ (idxB l l.length ++ low (atB l l.length) 4) ++ low (crc (txt (bodyF l))) 4, ?_⟩
  unfold fileB
  conv => lhs; arg 1; unfold bodyF
  rw [show blks l l.length = cat (blkB l) l.length from rfl, hc]
  simp only [List.append_assoc]
  rfl
 obtain ⟨T, e⟩ := e
 have ha : atB l j = (magic ++ blks l j).length := by
  unfold atB
  rw [List.length_append]
  rfl
 have hm := extract_mid (magic ++ blks l j) (blkB l j) T
 unfold blkA spotOf tk
 simp only
 rw [txt_size, ha, e]
 rw [show min (magic ++ blks l j).length ((magic ++ blks l j) ++ (blkB l j ++ T)).length = (magic ++ blks l j).length by simp only [List.length_append]; omega,
  show min ((magic ++ blks l j).length + (blkB l j).length) ((magic ++ blks l j) ++ (blkB l j ++ T)).length = (magic ++ blks l j).length + (blkB l j).length by simp only [List.length_append]; omega, hm]
 exact txt_bl _
theorem ser_read {l : List Ser} (h : SOk l) (j : Nat) (hj : j < l.length) : serA (txt (fileB l)) (spotOf l j) = sAt l j := by
 have hg : Good (showB (sAt l j).pts) (sAt l j).pts := ⟨(h.2 j hj).2.1, (h.2 j hj).2.2, rfl⟩
 unfold serA
 rw [blk_read j hj, rbP_good hg]
 rfl
theorem range_at (l : List Ser) : (List.range l.length).map (sAt l) = l := by
 apply List.ext_getElem (by simp)
 intro j h1 h2
 rw [List.getElem_map, List.getElem_range, sAt, ← getD_at l j h2]
theorem GoodF.read {s : ByteArray} {l : List Ser} (h : GoodF s l) : serAll s = l ∧ spots s = (List.range l.length).map (spotOf l) := by
 rw [h.text]
 refine ⟨?_, spots_read h.2.1⟩
 unfold serAll
 rw [spots_read h.2.1, List.map_map]
 conv => rhs; rw [← range_at l]
 apply List.map_congr_left
 intro j hj
 exact ser_read h.2.1 j (List.mem_range.1 hj)
theorem GoodF.one {s : ByteArray} {l m : List Ser} (h : GoodF s l) (h' : GoodF s m) : l = m := h.read.1.symm.trans h'.read.1
theorem GoodF.of {s : ByteArray} {l : List Ser} (h1 : 1 ≤ l.length) (h8 : 8 ≤ s.size) (hs : fileT l = s) : GoodF s l := by
 refine ⟨h1, ?_, hs⟩
 by_cases h : SOk l
 ·exact h
 ·rw [fileT, if_neg (fun hh => h hh.2)] at hs
  rw [← hs, txt_size] at h8
  simp at h8
def RfAns (s : ByteArray) (l : List Ser) (ok : Bool) : Prop := (ok = true ∧ GoodF s l) ∨ (ok = false ∧ l = [] ∧ ∀ m, ¬ GoodF s m)
theorem RfAns.one {s : ByteArray} {l m : List Ser} {x y : Bool} (h : RfAns s l x) (h' : RfAns s m y) : l = m ∧ x = y := by
 rcases h with ⟨h1, h2⟩ | ⟨h1, h2, h3⟩ <;> rcases h' with ⟨h1', h2'⟩ | ⟨h1', h2', h3'⟩
 ·exact ⟨h2.one h2', h1.trans h1'.symm⟩
 ·exact absurd h2 (h3' l)
 ·exact absurd h2' (h3 m)
 ·exact ⟨h2.trans h2'.symm, h1.trans h1'.symm⟩
theorem RfAns.len {s : ByteArray} {l : List Ser} {x : Bool} (h : RfAns s l x) : l.length ≤ 5 := by
 rcases h with ⟨_, h2⟩ | ⟨_, h2, _⟩
 ·exact h2.2.1.1
 ·rw [h2]; simp
theorem RfAns.short {s : ByteArray} {l : List Ser} {x : Bool} (h : RfAns s l x) : ∀ y ∈ l, y.pts.length ≤ 60 := by
 rcases h with ⟨_, h2⟩ | ⟨_, h2, _⟩
 ·intro y hy
  obtain ⟨j, hj, rfl⟩ := List.getElem_of_mem hy
  have := (h2.2.1.2 j hj).2.2.1
  rwa [sAt, ← getD_at l j hj] at this
 ·rw [h2]
  intro y hy
  cases hy
end Go.Proofs.YtikknmoeefipmaaGreatDoor
namespace Go.Proofs.YtikknmoeefipmaaGreatDoor
open Go.RowKit Go.PlainAid
def RiseK (l : List ByteArray) : Prop := l.Pairwise fun a b => ahd a b = true
theorem ahd_ne {a b : ByteArray} (h : ahd a b = true) : a ≠ b := fun e => by rw [e, ahd_irrefl] at h; cases h
theorem ahd_tri {a b : ByteArray} (h : ahd a b = false) (hne : a ≠ b) : ahd b a = true := by
 rcases ahd_no h with h | h
 ·exact h
 ·exact absurd h.symm hne
theorem riseK_ext : ∀ {l m : List ByteArray}, RiseK l → RiseK m → (∀ p, p ∈ l ↔ p ∈ m) → l = m
 | [], [], _, _, _ => rfl
 | [], y :: m, _, _, h => by have := (h y).2 (by simp); simp at this
 | x :: l, [], _, _, h => by have := (h x).1 (by simp); simp at this
 | x :: l, y :: m, hl, hm, h => by
  have hl' := List.pairwise_cons.1 hl
  have hm' := List.pairwise_cons.1 hm
  have hxy : x = y := by
   rcases List.mem_cons.1 ((h x).1 (by simp)) with e | h1
   ·exact e
   ·rcases List.mem_cons.1 ((h y).2 (by simp)) with e | h2
    ·exact e.symm
    ·exact absurd rfl (ahd_ne (ahd_trans (hm'.1 x h1) (hl'.1 y h2)))
  subst hxy
  congr 1
  refine riseK_ext hl'.2 hm'.2 fun p => ⟨fun hp => ?_, fun hp => ?_⟩
  ·rcases List.mem_cons.1 ((h p).1 (by simp [hp])) with e | h1
   ·subst e; exact absurd rfl (ahd_ne (hl'.1 p hp))
   ·exact h1
  ·rcases List.mem_cons.1 ((h p).2 (by simp [hp])) with e | h1
   ·subst e; exact absurd rfl (ahd_ne (hm'.1 p hp))
   ·exact h1
open Classical in
noncomputable def insK : List ByteArray → ByteArray → List ByteArray
 | [], k => [k]
 | x :: l, k => if x = k then x :: l else if ahd k x = true then k :: x :: l else x :: insK l k
theorem mem_insK (p k : ByteArray) : ∀ l, p ∈ insK l k ↔ p = k ∨ p ∈ l
 | [] => by simp [insK]
 | x :: l => by
  by_cases h : x = k
  ·rw [insK, if_pos h, List.mem_cons, h]
   constructor
   ·intro h; exact .inr h
   ·rintro (h | h)
    ·exact .inl h
    ·exact h
  ·by_cases h2 : ahd k x = true
   ·rw [insK, if_neg h, if_pos h2, List.mem_cons]
   ·rw [insK, if_neg h, if_neg h2, List.mem_cons, mem_insK p k l, List.mem_cons]
    constructor
    ·rintro (h | h | h)
     ·exact .inr (.inl h)
     ·exact .inl h
     ·exact .inr (.inr h)
    ·rintro (h | h | h)
     ·exact .inr (.inl h)
     ·exact .inl h
     ·exact .inr (.inr h)
theorem rise_insK (k : ByteArray) : ∀ l, RiseK l → RiseK (insK l k)
 | [], _ => by simp [insK, RiseK]
 | x :: l, hl => by
  have hl' := List.pairwise_cons.1 hl
  by_cases h : x = k
  ·rw [insK, if_pos h]; exact hl
  ·by_cases h2 : ahd k x = true
   ·rw [insK, if_neg h, if_pos h2]
    refine List.pairwise_cons.2 ⟨fun y hy => ?_, hl⟩
    rcases List.mem_cons.1 hy with e | hy
    ·rw [e]; exact h2
    ·exact ahd_trans h2 (hl'.1 y hy)
   ·rw [insK, if_neg h, if_neg h2]
    refine List.pairwise_cons.2 ⟨fun y hy => ?_, rise_insK k l hl'.2⟩
    rcases (mem_insK y k l).1 hy with e | hy
    ·rw [e]; exact ahd_tri (by simpa using h2) (fun e => h e.symm)
    ·exact hl'.1 y hy
noncomputable def allK (ks : List ByteArray) : List ByteArray := ks.foldl insK []
theorem mem_foldK (p : ByteArray) : ∀ (ks a : List ByteArray), p ∈ ks.foldl insK a ↔ p ∈ a ∨ p ∈ ks
 | [], a => by simp
 | k :: ks, a => by
  rw [List.foldl_cons, mem_foldK p ks, mem_insK, List.mem_cons]
  constructor
  ·rintro ((h | h) | h)
   ·exact .inr (.inl h)
   ·exact .inl h
   ·exact .inr (.inr h)
  ·rintro (h | h | h)
   ·exact .inl (.inr h)
   ·exact .inl (.inl h)
   ·exact .inr h
theorem rise_foldK : ∀ (ks a : List ByteArray), RiseK a → RiseK (ks.foldl insK a)
 | [], _, h => h
 | k :: ks, a, h => rise_foldK ks _ (rise_insK k a h)
theorem mem_allK (p : ByteArray) (ks : List ByteArray) : p ∈ allK ks ↔ p ∈ ks := by rw [allK, mem_foldK]; simp
theorem rise_allK (ks : List ByteArray) : RiseK (allK ks) := rise_foldK ks [] (by simp [RiseK])
theorem riseK_le : ∀ {m l : List ByteArray}, RiseK l → RiseK m → (∀ p ∈ l, p ∈ m) → l.length ≤ m.length
 | [], [], _, _, _ => Nat.le_refl _
 | [], x :: l, _, _, h => by have := h x (by simp); simp at this
 | y :: m, [], _, _, _ => by simp
 | y :: m, x :: l, hl, hm, h => by
  have hl' := List.pairwise_cons.1 hl
  have hm' := List.pairwise_cons.1 hm
  by_cases e : x = y
  ·have := riseK_le (m := m) hl'.2 hm'.2 fun p hp => by
    rcases List.mem_cons.1 (h p (by simp [hp])) with e2 | h2
    ·exact absurd (e.trans e2.symm) (ahd_ne (hl'.1 p hp))
    ·exact h2
   simp only [List.length_cons]
   omega
  ·have hx : x ∈ m := by
    rcases List.mem_cons.1 (h x (by simp)) with e2 | h2
    ·exact absurd e2 e
    ·exact h2
   have := riseK_le (m := m) hl hm'.2 fun p hp => by
    rcases List.mem_cons.1 (h p hp) with e2 | h2
    ·rcases List.mem_cons.1 hp with e3 | h3
     ·exact absurd (e3.symm.trans e2) e
     ·exact absurd e2.symm (ahd_ne (ahd_trans (hm'.1 x hx) (hl'.1 p h3)))
    ·exact h2
   simp only [List.length_cons] at this ⊢
   omega
open Classical in
noncomputable def ptsAt : List Ser → ByteArray → List Pnt
 | [], _ => []
 | x :: l, k => if x.key = k then x.pts else ptsAt l k
theorem ptsAt_none {k : ByteArray} : ∀ {l : List Ser}, (∀ x ∈ l, x.key ≠ k) → ptsAt l k = []
 | [], _ => rfl
 | x :: l, h => by rw [ptsAt, if_neg (h x (by simp)), ptsAt_none fun y hy => h y (by simp [hy])]
theorem ptsAt_some {k : ByteArray} : ∀ {l : List Ser}, ptsAt l k = [] ∨ ∃ x ∈ l, x.key = k ∧ ptsAt l k = x.pts
 | [] => .inl rfl
 | x :: l => by
  by_cases h : x.key = k
  ·exact .inr ⟨x, by simp, h, by rw [ptsAt, if_pos h]⟩
  ·rw [ptsAt, if_neg h]
   rcases ptsAt_some (k := k) (l := l) with h | ⟨y, hy, h⟩
   ·exact .inl h
   ·exact .inr ⟨y, by simp [hy], h⟩
theorem ptsAt_mem : ∀ {l : List Ser}, RiseK (l.map Ser.key) → ∀ x ∈ l, ptsAt l x.key = x.pts
 | y :: l, hl, x, hx => by
  have hl' := List.pairwise_cons.1 hl
  rcases List.mem_cons.1 hx with e | hx
  ·rw [e, ptsAt, if_pos rfl]
  ·rw [ptsAt, if_neg (ahd_ne (hl'.1 x.key (List.mem_map_of_mem hx))), ptsAt_mem hl'.2 x hx]
theorem ptsAt_rising {l : List Ser} (h : ∀ x ∈ l, Rising x.pts) (k : ByteArray) : Rising (ptsAt l k) := by
 rcases ptsAt_some (k := k) (l := l) with e | ⟨x, hx, _, e⟩
 ·rw [e]; simp [Rising]
 ·rw [e]; exact h x hx
noncomputable def hasAll (ls : List (List Ser)) (k : ByteArray) : List Pnt := ls.foldl (fun a l => mrg a (ptsAt l k)) []
def fromF (f : Int) (l : List Pnt) : List Pnt := l.filter fun p => decide (f ≤ p.t)
noncomputable def has (ls : List (List Ser)) (f : Int) (k : ByteArray) : List Pnt := fromF f (hasAll ls k)
theorem hasAll_snoc (ls : List (List Ser)) (l : List Ser) (k : ByteArray) : hasAll (ls ++ [l]) k = mrg (hasAll ls k) (ptsAt l k) := by rw [hasAll, List.foldl_append]; rfl
theorem mrg_nil (a : List Pnt) : mrg a [] = a := rfl
def LRis (ls : List (List Ser)) : Prop := ∀ l ∈ ls, ∀ x ∈ l, Rising x.pts
theorem fold_rising (k : ByteArray) : ∀ (ls : List (List Ser)) (a : List Pnt), Rising a → Rising (ls.foldl (fun a l => mrg a (ptsAt l k)) a)
 | [], _, h => h
 | _ :: ls, _, h => fold_rising k ls _ (rising_mrg _ _ h)
theorem rising_hasAll (ls : List (List Ser)) (k : ByteArray) : Rising (hasAll ls k) := fold_rising k ls [] (by simp [Rising])
theorem rising_from (f : Int) {l : List Pnt} (h : Rising l) : Rising (fromF f l) := h.sublist List.filter_sublist
theorem rising_has (ls : List (List Ser)) (f : Int) (k : ByteArray) : Rising (has ls f k) := rising_from f (rising_hasAll ls k)
theorem mem_hasAll {p : Pnt} {k : ByteArray} : ∀ {ls : List (List Ser)} {a : List Pnt}, LRis ls → p ∈ ls.foldl (fun a l => mrg a (ptsAt l k)) a → p ∈ a ∨ ∃ l ∈ ls, p ∈ ptsAt l k
 | [], _, _, h => .inl h
 | l :: ls, a, hr, h => by
  rcases mem_hasAll (ls := ls) (fun m hm => hr m (by simp [hm])) h with h1 | ⟨m, hm, h1⟩
  ·rcases (mem_mrg p _ a (ptsAt_rising (hr l (by simp)) k)).1 h1 with h2 | ⟨h2, _⟩
   ·exact .inr ⟨l, by simp, h2⟩
   ·exact .inl h2
  ·exact .inr ⟨m, by simp [hm], h1⟩
theorem hasAll_len (k : ByteArray) (n : Nat) : ∀ (ls : List (List Ser)) (a : List Pnt), (∀ l ∈ ls, (ptsAt l k).length ≤ n) → (ls.foldl (fun a l => mrg a (ptsAt l k)) a).length ≤ a.length + n * ls.length
 | [], a, _ => by simp
 | l :: ls, a, h => by
  have h1 := hasAll_len k n ls (mrg a (ptsAt l k)) fun m hm => h m (by simp [hm])
  have h2 := mrg_length (ptsAt l k) a
  have h3 := h l (by simp)
  rw [List.foldl_cons, List.length_cons, Nat.mul_succ]
  omega
theorem hasAll_none {k : ByteArray} : ∀ {ls : List (List Ser)} {a : List Pnt}, (∀ l ∈ ls, ∀ x ∈ l, x.key ≠ k) → ls.foldl (fun a l => mrg a (ptsAt l k)) a = a
 | [], _, _ => rfl
 | l :: ls, a, h => by
  rw [List.foldl_cons, ptsAt_none (h l (by simp)), mrg_nil]
  exact hasAll_none fun m hm => h m (by simp [hm])
theorem from_mrg (f : Int) {a b : List Pnt} (ha : Rising a) (hb : Rising b) : fromF f (mrg a b) = mrg (fromF f a) (fromF f b) := by
 refine rising_ext (rising_from f (rising_mrg _ _ ha)) (rising_mrg _ _ (rising_from f ha)) fun x => ?_
 rw [mem_mrg x _ _ (rising_from f hb)]
 unfold fromF
 simp only [List.mem_filter, mem_mrg x b a hb, decide_eq_true_eq]
 constructor
 ·rintro ⟨h1 | ⟨h1, h2⟩, h3⟩
  ·exact .inl ⟨h1, h3⟩
  ·exact .inr ⟨⟨h1, h3⟩, fun q hq => h2 q hq.1⟩
 ·rintro (⟨h1, h3⟩ | ⟨⟨h1, h3⟩, h2⟩)
  ·exact ⟨.inl h1, h3⟩
  ·exact ⟨.inr ⟨h1, fun q hq e => h2 q ⟨hq, by omega⟩ e⟩, h3⟩
theorem from_id {f : Int} {l : List Pnt} (h : ∀ p ∈ l, f ≤ p.t) : fromF f l = l := List.filter_eq_self.2 fun p hp => by simpa using h p hp
theorem from_from (f : Int) (l : List Pnt) : fromF f (fromF f l) = fromF f l := from_id fun p hp => by simpa using (List.mem_filter.1 hp).2
open Classical in
noncomputable def serK (ls : List (List Ser)) (f : Int) (k : ByteArray) : Option Ser := if has ls f k = [] then none else some ⟨k, has ls f k⟩
def keysOf (ls : List (List Ser)) : List ByteArray := ls.flatten.map Ser.key
noncomputable def keysL (ls : List (List Ser)) : List ByteArray := allK (keysOf ls)
noncomputable def plainK (ls : List (List Ser)) (f : Int) (ks : List ByteArray) : List Ser := ks.filterMap (serK ls f)
noncomputable def plainR (ls : List (List Ser)) (f : Int) : List Ser := plainK ls f (keysL ls)
theorem mem_keysL {k : ByteArray} {ls : List (List Ser)} : k ∈ keysL ls ↔ ∃ l ∈ ls, ∃ x ∈ l, x.key = k := by
 rw [keysL, mem_allK, keysOf, List.mem_map]
 constructor
 ·rintro ⟨x, hx, e⟩
  obtain ⟨l, hl, hx⟩ := List.mem_flatten.1 hx
  exact ⟨l, hl, x, hx, e⟩
 ·rintro ⟨l, hl, x, hx, e⟩
  exact ⟨x, List.mem_flatten.2 ⟨l, hl, hx⟩, e⟩
theorem ptsAt_plainK (ls : List (List Ser)) (f : Int) (k : ByteArray) : ∀ ks, (k ∈ ks → ptsAt (plainK ls f ks) k = has ls f k) ∧ (k ∉ ks → ptsAt (plainK ls f ks) k = [])
 | [] => ⟨fun h => by simp at h, fun _ => rfl⟩
 | h :: ks => by
  have ih := ptsAt_plainK ls f k ks
  by_cases he : has ls f h = []
  ·have e : plainK ls f (h :: ks) = plainK ls f ks := by unfold plainK; rw [List.filterMap_cons, serK, if_pos he]
   rw [e]
   refine ⟨fun hk => ?_, fun hk => ih.2 fun h' => hk (by simp [h'])⟩
   by_cases hm : k ∈ ks
   ·exact ih.1 hm
   ·rcases List.mem_cons.1 hk with e | h'
    ·rw [ih.2 hm, e, he]
    ·exact absurd h' hm
  ·have e : plainK ls f (h :: ks) = ⟨h, has ls f h⟩ :: plainK ls f ks := by unfold plainK; rw [List.filterMap_cons, serK, if_neg he]
   rw [e, ptsAt]
   by_cases hh : h = k
   ·rw [if_pos hh, hh]
    exact ⟨fun _ => rfl, fun hk => absurd (by simp) hk⟩
   ·rw [if_neg hh]
    refine ⟨fun hk => ih.1 ?_, fun hk => ih.2 fun h' => hk (by simp [h'])⟩
    rcases List.mem_cons.1 hk with e | h'
    ·exact absurd e.symm hh
    ·exact h'
theorem ptsAt_plain (ls : List (List Ser)) (f : Int) (k : ByteArray) : ptsAt (plainR ls f) k = has ls f k := by
 by_cases hk : k ∈ keysL ls
 ·exact (ptsAt_plainK ls f k _).1 hk
 ·rw [plainR, (ptsAt_plainK ls f k _).2 hk, has, hasAll, hasAll_none]
  ·rfl
  ·intro l hl x hx e
   exact hk (mem_keysL.2 ⟨l, hl, x, hx, e⟩)
def Neat (f : Int) (l : List Ser) : Prop := RiseK (l.map Ser.key) ∧ ∀ x ∈ l, x.pts ≠ [] ∧ Rising x.pts ∧ ∀ p ∈ x.pts, f ≤ p.t
theorem mem_plainK {ls : List (List Ser)} {f : Int} {ks : List ByteArray} {x : Ser} (h : x ∈ plainK ls f ks) : x.key ∈ ks ∧ x.pts = has ls f x.key ∧ x.pts ≠ [] := by
 obtain ⟨k, hk, e⟩ := List.mem_filterMap.1 h
 unfold serK at e
 split at e
 ·cases e
 ·rename_i hne
  cases e
  exact ⟨hk, rfl, hne⟩
theorem rise_plainK (ls : List (List Ser)) (f : Int) : ∀ ks, RiseK ks → RiseK ((plainK ls f ks).map Ser.key)
 | [], _ => by simp [plainK, RiseK]
 | h :: ks, hk => by
  have hk' := List.pairwise_cons.1 hk
  have ih := rise_plainK ls f ks hk'.2
  by_cases he : has ls f h = []
  ·have e : plainK ls f (h :: ks) = plainK ls f ks := by unfold plainK; rw [List.filterMap_cons, serK, if_pos he]
   rw [e]; exact ih
  ·have e : plainK ls f (h :: ks) = ⟨h, has ls f h⟩ :: plainK ls f ks := by unfold plainK; rw [List.filterMap_cons, serK, if_neg he]
   rw [e, List.map_cons]
   refine List.pairwise_cons.2 ⟨fun y hy => ?_, ih⟩
   obtain ⟨x, hx, rfl⟩ := List.mem_map.1 hy
   exact hk'.1 _ (mem_plainK hx).1
theorem neat_plain (ls : List (List Ser)) (f : Int) : Neat f (plainR ls f) := by
 refine ⟨rise_plainK ls f _ (rise_allK _), fun x hx => ?_⟩
 obtain ⟨_, h2, h3⟩ := mem_plainK hx
 refine ⟨h3, by rw [h2]; exact rising_has ls f x.key, fun p hp => ?_⟩
 rw [h2] at hp
 simpa using (List.mem_filter.1 hp).2
theorem neat_form {f : Int} {l : List Ser} (h : Neat f l) : l = (l.map Ser.key).map fun k => ⟨k, ptsAt l k⟩ := by
 rw [List.map_map]
 conv => lhs; rw [← List.map_id l]
 refine List.map_congr_left fun x hx => ?_
 have := ptsAt_mem h.1 x hx
 refine Ser.same rfl ?_
 exact this.symm
theorem neat_key {f : Int} {l : List Ser} (h : Neat f l) (k : ByteArray) : k ∈ l.map Ser.key ↔ ptsAt l k ≠ [] := by
 constructor
 ·intro hk
  obtain ⟨x, hx, rfl⟩ := List.mem_map.1 hk
  rw [ptsAt_mem h.1 x hx]
  exact (h.2 x hx).1
 ·intro hne
  rcases ptsAt_some (k := k) (l := l) with e | ⟨x, hx, e, _⟩
  ·exact absurd e hne
  ·rw [← e]; exact List.mem_map_of_mem hx
theorem neat_ext {f g : Int} {l m : List Ser} (hl : Neat f l) (hm : Neat g m) (h : ∀ k, ptsAt l k = ptsAt m k) : l = m := by
 have hk : l.map Ser.key = m.map Ser.key := riseK_ext hl.1 hm.1 fun k => by rw [neat_key hl, neat_key hm, h]
 rw [neat_form hl, neat_form hm, hk]
 exact List.map_congr_left fun k _ => by rw [h]
theorem has_empty (ls : List (List Ser)) (f : Int) (k : ByteArray) : has (ls ++ [[]]) f k = has ls f k := by rw [has, hasAll_snoc]; rfl
theorem plain_empty (ls : List (List Ser)) (f : Int) : plainR (ls ++ [[]]) f = plainR ls f := neat_ext (neat_plain _ f) (neat_plain _ f) fun k => by rw [ptsAt_plain, ptsAt_plain, has_empty]
theorem plain_neat {f : Int} {l : List Ser} (h : Neat f l) : plainR [l] f = l := neat_ext (neat_plain _ f) h fun k => by
 rw [ptsAt_plain, has, hasAll, List.foldl_cons, List.foldl_nil, mrg_nil_left _ (ptsAt_rising (fun x hx => (h.2 x hx).2.1) k)]
 refine from_id fun p hp => ?_
 rcases ptsAt_some (k := k) (l := l) with e | ⟨x, hx, _, e⟩
 ·rw [e] at hp; cases hp
 ·rw [e] at hp; exact (h.2 x hx).2.2 p hp
open Classical in
noncomputable def intoR : List Ser → ByteArray → List Pnt → List Ser
 | [], k, p => [⟨k, p⟩]
 | x :: l, k, p => if x.key = k then ⟨k, mrg x.pts p⟩ :: l else if ahd k x.key = true then ⟨k, p⟩ :: x :: l else x :: intoR l k p
theorem into_keys (k : ByteArray) (p : List Pnt) : ∀ l : List Ser, (intoR l k p).map Ser.key = insK (l.map Ser.key) k
 | [] => rfl
 | x :: l => by
  by_cases h : x.key = k
  ·rw [intoR, if_pos h, List.map_cons, List.map_cons, insK, if_pos h, h]
  ·by_cases h2 : ahd k x.key = true
   ·rw [intoR, if_neg h, if_pos h2, List.map_cons, List.map_cons, insK, if_neg h, if_pos h2]
   ·rw [intoR, if_neg h, if_neg h2, List.map_cons, List.map_cons, insK, if_neg h, if_neg h2, into_keys k p l]
theorem ptsAt_into {k : ByteArray} {p : List Pnt} (hp : Rising p) : ∀ {l : List Ser}, RiseK (l.map Ser.key) → ∀ q, ptsAt (intoR l k p) q = if q = k then mrg (ptsAt l k) p else ptsAt l q
 | [], _, q => by
  rw [intoR]
  show (if k = q then p else []) = _
  by_cases h : k = q
  ·rw [if_pos h, if_pos h.symm]
   exact (mrg_nil_left p hp).symm
  ·rw [if_neg h, if_neg (fun e => h e.symm)]
   rfl
 | x :: l, hl, q => by
  have hl' := List.pairwise_cons.1 hl
  by_cases h : x.key = k
  ·rw [intoR, if_pos h, ptsAt, ptsAt, if_pos h]
   by_cases hq : k = q
   ·rw [if_pos hq, if_pos hq.symm]
   ·rw [if_neg hq, if_neg (fun e => hq e.symm), ptsAt, if_neg (fun e => hq (h.symm.trans e))]
  ·by_cases h2 : ahd k x.key = true
   ·rw [intoR, if_neg h, if_pos h2, ptsAt]
    by_cases hq : k = q
    ·have hn : ∀ y ∈ x :: l, y.key ≠ k := fun y hy e => by
      rcases List.mem_cons.1 hy with e' | hy
      ·rw [e'] at e; exact h e
      ·exact ahd_ne (ahd_trans h2 (hl'.1 _ (List.mem_map_of_mem hy))) e.symm
     rw [if_pos hq, if_pos hq.symm, ptsAt_none hn, mrg_nil_left p hp]
    ·rw [if_neg hq, if_neg (fun e => hq e.symm)]
   ·rw [intoR, if_neg h, if_neg h2, ptsAt, ptsAt_into hp hl'.2 q, ptsAt, ptsAt, if_neg h]
    by_cases hx : x.key = q
    ·rw [if_pos hx, if_neg (fun e => h (hx.trans e)), if_pos hx]
    ·rw [if_neg hx, if_neg hx]
theorem mem_into {k : ByteArray} {p : List Pnt} {y : Ser} : ∀ {l : List Ser}, y ∈ intoR l k p → y ∈ l ∨ y = ⟨k, p⟩ ∨ ∃ x ∈ l, y = ⟨k, mrg x.pts p⟩
 | [], h => by
  rw [intoR, List.mem_singleton] at h
  exact .inr (.inl h)
 | x :: l, h => by
  by_cases e : x.key = k
  ·rw [intoR, if_pos e, List.mem_cons] at h
   rcases h with h | h
   ·exact .inr (.inr ⟨x, by simp, h⟩)
   ·exact .inl (by simp [h])
  ·by_cases e2 : ahd k x.key = true
   ·rw [intoR, if_neg e, if_pos e2, List.mem_cons] at h
    rcases h with h | h
    ·exact .inr (.inl h)
    ·exact .inl h
   ·rw [intoR, if_neg e, if_neg e2, List.mem_cons] at h
    rcases h with h | h
    ·exact .inl (by simp [h])
    ·rcases mem_into h with h | h | ⟨z, hz, h⟩
     ·exact .inl (by simp [h])
     ·exact .inr (.inl h)
     ·exact .inr (.inr ⟨z, by simp [hz], h⟩)
theorem mrg_ne {a b : List Pnt} (hb : Rising b) (h : b ≠ []) : mrg a b ≠ [] := by
 cases b with
 | nil => exact absurd rfl h
 | cons y b =>
  intro e
  have := (mem_mrg y (y :: b) a hb).2 (.inl (by simp))
  rw [e] at this
  cases this
theorem neat_into {f : Int} {l : List Ser} {k : ByteArray} {p : List Pnt} (hl : Neat f l) (hp : Rising p) (h0 : p ≠ []) (hf : ∀ x ∈ p, f ≤ x.t) : Neat f (intoR l k p) := by
 refine ⟨by rw [into_keys]; exact rise_insK k _ hl.1, fun y hy => ?_⟩
 rcases mem_into hy with h | h | ⟨x, hx, h⟩
 ·exact hl.2 y h
 ·rw [h]; exact ⟨h0, hp, hf⟩
 ·rw [h]
  obtain ⟨h1, h2, h3⟩ := hl.2 x hx
  refine ⟨mrg_ne hp h0, rising_mrg _ _ h2, fun q hq => ?_⟩
  rcases (mem_mrg q p x.pts hp).1 hq with h4 | ⟨h4, _⟩
  ·exact hf q h4
  ·exact h3 q h4
open Classical in
theorem ptsAt_one (k q : ByteArray) (p : List Pnt) : ptsAt [⟨k, p⟩] q = if q = k then p else [] := by
 rw [ptsAt, ptsAt]
 by_cases h : k = q
 ·rw [if_pos h, if_pos h.symm]
 ·rw [if_neg h, if_neg (fun e => h e.symm)]
theorem plain_into {f : Int} {ls : List (List Ser)} {c : List Ser} {k : ByteArray} {p : List Pnt} (hc : Neat f c) (hp : Rising p) : plainR [plainR (ls ++ [c]) f, [⟨k, p⟩]] f = plainR (ls ++ [intoR c k p]) f := by
 refine neat_ext (neat_plain _ f) (neat_plain _ f) fun q => ?_
 have hcr : ∀ q, Rising (ptsAt c q) := fun q => ptsAt_rising (fun x hx => (hc.2 x hx).2.1) q
 have hlr := rising_hasAll ls
 rw [ptsAt_plain, ptsAt_plain, has, hasAll, List.foldl_cons, List.foldl_cons, List.foldl_nil, ptsAt_plain, ptsAt_one, has, hasAll_snoc, has, hasAll_snoc, ptsAt_into hp hc.1 q]
 rw [mrg_nil_left _ (rising_from f (rising_mrg _ _ (hlr q)))]
 by_cases h : q = k
 ·rw [if_pos h, if_pos h, from_mrg f (rising_from f (rising_mrg _ _ (hlr q))) hp, from_from, from_mrg f (hlr q) (hcr q), from_mrg f (hlr q) (rising_mrg _ _ (hcr k)), from_mrg f (hcr k) hp, mrg_assoc (rising_from f (hlr q)) (rising_from f (hcr q)) (rising_from f hp), h]
 ·rw [if_neg h, if_neg h, mrg_nil, from_from]
theorem plain_into1 {f : Int} {c : List Ser} {k : ByteArray} {p : List Pnt} (hc : Neat f c) (hp : Rising p) (h0 : p ≠ []) (hf : ∀ x ∈ p, f ≤ x.t) : plainR [c, [⟨k, p⟩]] f = intoR c k p := by
 have h := plain_into (ls := []) (k := k) hc hp
 rw [List.nil_append, List.nil_append, plain_neat hc, plain_neat (neat_into hc hp h0 hf)] at h
 exact h
theorem last_le {f : Int} {ls : List (List Ser)} {c : List Ser} (hc : Neat f c) (k : ByteArray) : (ptsAt c k).length ≤ (has (ls ++ [c]) f k).length := by
 have hr : Rising (ptsAt c k) := ptsAt_rising (fun x hx => (hc.2 x hx).2.1) k
 have hf : fromF f (ptsAt c k) = ptsAt c k := from_id fun p hp => by
  rcases ptsAt_some (k := k) (l := c) with e | ⟨x, hx, _, e⟩
  ·rw [e] at hp; cases hp
  ·rw [e] at hp; exact (hc.2 x hx).2.2 p hp
 rw [has, hasAll_snoc, from_mrg f (rising_hasAll ls k) hr, hf, mrg_count _ _ _ (Nat.le_refl _) (rising_from f (rising_hasAll ls k)) hr]
 omega
theorem SOk_iff (l : List Ser) : SOk l ↔ l.length ≤ 5 ∧ RiseK (l.map Ser.key) ∧ ∀ x ∈ l, KOk x.key ∧ x.pts ≠ [] ∧ POk x.pts := by
 have at_get : ∀ j (h : j < l.length), sAt l j = l[j] := fun j h => by rw [sAt, ← getD_at l j h]
 constructor
 ·intro h
  refine ⟨h.1, ?_, fun x hx => ?_⟩
  ·unfold RiseK
   rw [List.pairwise_iff_getElem]
   have key : ∀ d i, i + d + 1 < l.length → ahd (sAt l i).key (sAt l (i + d + 1)).key = true := by
    intro d
    induction d with
    | zero => intro i hi; have := (h.2 (i + 0 + 1) hi).1.2 (by omega); simpa using this
    | succ d ih =>
     intro i hi
     have h1 := ih i (by omega)
     have h2 := (h.2 (i + (d + 1) + 1) hi).1.2 (by omega)
     rw [show i + (d + 1) + 1 - 1 = i + d + 1 by omega] at h2
     exact ahd_trans h1 h2
   intro i j hi hj hij
   rw [List.length_map] at hi hj
   have := key (j - i - 1) i (by omega)
   rw [show i + (j - i - 1) + 1 = j by omega, at_get i hi, at_get j hj] at this
   rw [List.getElem_map, List.getElem_map]
   exact this
  ·obtain ⟨j, hj, rfl⟩ := List.getElem_of_mem hx
   have := h.2 j hj
   rw [at_get j hj] at this
   exact ⟨this.1.1, fun e => by rw [e] at this; simp at this, this.2.2⟩
 ·rintro ⟨h1, h2, h3⟩
  refine ⟨h1, fun j hj => ⟨⟨?_, fun h0 => ?_⟩, ?_, ?_⟩⟩
  ·rw [at_get j hj]; exact (h3 _ (List.getElem_mem hj)).1
  ·rw [at_get j hj, at_get (j - 1) (by omega)]
   have := (List.pairwise_iff_getElem.1 h2) (j - 1) j (by rw [List.length_map]; omega) (by rw [List.length_map]; exact hj) (by omega)
   rw [List.getElem_map, List.getElem_map] at this
   exact this
  ·rw [at_get j hj]
   have := (h3 _ (List.getElem_mem hj)).2.1
   cases e : (l[j]).pts with
   | nil => exact absurd e this
   | cons y r => simp
  ·rw [at_get j hj]; exact (h3 _ (List.getElem_mem hj)).2.2
theorem SOk.neat {l : List Ser} (h : SOk l) {f : Int} (hf : ∀ x ∈ l, f ≤ tAt x.pts 0) : Neat f l := by
 obtain ⟨_, h2, h3⟩ := (SOk_iff l).1 h
 refine ⟨h2, fun x hx => ?_⟩
 obtain ⟨_, h4, h5⟩ := h3 x hx
 have hr := ((POk_iff _).1 h5).2.1
 refine ⟨h4, hr, fun p hp => ?_⟩
 obtain ⟨j, hj, rfl⟩ := List.getElem_of_mem hp
 have h0 := hf x hx
 rw [tAt_get x.pts 0 (by omega)] at h0
 rcases Nat.eq_zero_or_pos j with e | e
 ·subst e; exact h0
 ·have := (List.pairwise_iff_getElem.1 hr) 0 j (by omega) hj e
  omega
theorem last_ok {f : Int} {ls : List (List Ser)} {c : List Ser} (hc : Neat f c) (hk : ∀ x ∈ c, KOk x.key ∧ ∀ p ∈ x.pts, inB p) (h : SOk (plainR (ls ++ [c]) f)) : SOk c := by
 obtain ⟨h1, _, h3⟩ := (SOk_iff _).1 h
 have hle : ∀ x ∈ c, x.pts.length ≤ (has (ls ++ [c]) f x.key).length := fun x hx => by
  have := last_le (ls := ls) hc x.key
  rw [ptsAt_mem hc.1 x hx] at this
  exact this
 have hin : ∀ x ∈ c, x.key ∈ (plainR (ls ++ [c]) f).map Ser.key := fun x hx => by
  rw [neat_key (neat_plain _ f), ptsAt_plain]
  intro e
  have := hle x hx
  rw [e] at this
  exact (hc.2 x hx).1 (List.eq_nil_of_length_eq_zero (by simpa using this))
 refine (SOk_iff c).2 ⟨?_, hc.1, fun x hx => ⟨(hk x hx).1, (hc.2 x hx).1, (POk_iff _).2 ⟨?_, (hc.2 x hx).2.1, (hk x hx).2⟩⟩⟩
 ·have := riseK_le hc.1 (m := (plainR (ls ++ [c]) f).map Ser.key) (neat_plain _ f).1 fun k hk => by
   obtain ⟨x, hx, rfl⟩ := List.mem_map.1 hk
   exact hin x hx
  rw [List.length_map, List.length_map] at this
  omega
 ·obtain ⟨y, hy, e⟩ := List.mem_map.1 (hin x hx)
  have h5 := ((POk_iff _).1 (h3 y hy).2.2).1
  rw [(mem_plainK hy).2.1, e] at h5
  exact Nat.le_trans (hle x hx) h5
end Go.Proofs.YtikknmoeefipmaaGreatDoor
namespace Go.Proofs.YtikknmoeefipmaaGreatDoor
open Go.RowKit Go.PlainAid
structure Eng where
 floor : Int
 cache : List Ser
 files : List ByteArray
theorem Eng.same {x y : Eng} (h1 : x.floor = y.floor) (h2 : x.cache = y.cache) (h3 : x.files = y.files) : x = y := by
 cases x
 cases y
 simp only at h1 h2 h3
 subst h1
 subst h2
 subst h3
 rfl
def zeroE : Eng := ⟨0, [], []⟩
def isF (s : ByteArray) : Prop := ∃ m, GoodF s m
open Classical in
noncomputable def fileM (s : ByteArray) : List Ser := if h : ∃ m, GoodF s m then Classical.choose h else []
theorem fileM_is {s : ByteArray} {m : List Ser} (h : GoodF s m) : fileM s = m := by
 have hx : ∃ m, GoodF s m := ⟨m, h⟩
 unfold fileM
 rw [dif_pos hx]
 exact (Classical.choose_spec hx).one h
theorem isF.good {s : ByteArray} (h : isF s) : GoodF s (fileM s) := by
 obtain ⟨m, hm⟩ := h
 rw [fileM_is hm]
 exact hm
noncomputable def laysF (fs : List ByteArray) : List (List Ser) := fs.map fileM
noncomputable def lays (e : Eng) : List (List Ser) := laysF e.files ++ [e.cache]
theorem laysF_snoc (fs : List ByteArray) (s : ByteArray) : laysF (fs ++ [s]) = laysF fs ++ [fileM s] := by unfold laysF; rw [List.map_append]; rfl
noncomputable def plainE (e : Eng) : List Ser := plainR (lays e) e.floor
def cntS (l : List Ser) : Nat := (l.map fun x => x.pts.length).sum
theorem cntS_snoc (l : List Ser) (k : Nat) (h : k < l.length) : cntS (l.take (k + 1)) = cntS (l.take k) + (l.getD k default).pts.length := by
 unfold cntS
 rw [take_getD l k h, List.map_append, List.sum_append]
 simp
def PreOk (e : Eng) : Prop := (0 ≤ e.floor ∧ e.floor ≤ 1099511627776) ∧ e.files.length ≤ 4 ∧ SOk e.cache ∧ cntS e.cache ≤ 40 ∧ ∀ x ∈ e.cache, e.floor ≤ tAt x.pts 0
def EOk (e : Eng) : Prop := PreOk e ∧ (∀ s ∈ e.files, isF s) ∧ SOk (plainE e)
theorem EOk.neat {e : Eng} (h : EOk e) : Neat e.floor e.cache := h.1.2.2.1.neat h.1.2.2.2.2
open Classical in
noncomputable def packA (f : Int) (all : List Ser) : Eng := ⟨f, [], if all = [] then [] else [fileT all]⟩
open Classical in
noncomputable def flushA (e : Eng) (all : List Ser) : Eng := if e.cache = [] then e else if e.files.length = 4 then packA e.floor all else ⟨e.floor, [], e.files ++ [fileT e.cache]⟩
open Classical in
noncomputable def plainX (e : Eng) : List Ser := if EOk e then plainE e else []
def PutOk (k : ByteArray) (p : List Pnt) : Prop := KOk k ∧ POk p ∧ p ≠ []
noncomputable def intoE (e : Eng) (k : ByteArray) (p : List Pnt) : Eng := ⟨e.floor, intoR e.cache k p, e.files⟩
open Classical in
noncomputable def putA (e : Eng) (k : ByteArray) (p : List Pnt) : Eng × Int :=
 if ¬ PutOk k p then (e, 1) else if tAt p 0 < e.floor then (e, 2) else if ¬ SOk (plainE (intoE e k p)) then (e, 3)
 else if 40 < cntS (intoR e.cache k p) then (flushA (intoE e k p) (plainE (intoE e k p)), 0) else (intoE e k p, 0)
open Classical in
noncomputable def putX (e : Eng) (k : ByteArray) (p : List Pnt) : Eng × Int := if EOk e then putA e k p else (zeroE, 1)
open Classical in
noncomputable def oneS (e : Eng) : Eng := ⟨e.floor, e.cache, if fileT (plainE e) = ⟨#[]⟩ then [] else [fileT (plainE e)]⟩
open Classical in
noncomputable def awayS (e : Eng) : Eng := if e.cache = [] then e else ⟨e.floor, [], e.files ++ [fileT e.cache]⟩
open Classical in
noncomputable def flushS (e : Eng) : Eng := if 4 < (awayS e).files.length then oneS (awayS e) else awayS e
theorem len_pos {α : Type} {l : List α} (h : l ≠ []) : 1 ≤ l.length := by
 cases l with
 | nil => exact absurd rfl h
 | cons x l => simp
theorem fileT_ne {l : List Ser} (h : SOk l) (hn : l ≠ []) : fileT l ≠ ⟨#[]⟩ := by
 have hg : GoodF (fileT l) l := ⟨len_pos hn, h, rfl⟩
 intro e
 have h1 := hg.text
 have h2 := (begin_read hg.2.1).2
 rw [← h1, e] at h2
 exact absurd h2 (by decide)
theorem fileT_nil : fileT [] = ⟨#[]⟩ := by unfold fileT; rw [if_neg (by simp)]; rfl
theorem one_files {l : List Ser} (h : SOk l) : (if fileT l = ⟨#[]⟩ then [] else [fileT l]) = if l = [] then [] else [fileT l] := by
 by_cases e : l = []
 ·rw [if_pos e, e, if_pos fileT_nil]
 ·rw [if_neg e, if_neg (fileT_ne h e)]
theorem away_plain {e : Eng} (hc : e.cache = [] ∨ SOk e.cache) : plainE (awayS e) = plainE e := by
 unfold awayS
 by_cases h : e.cache = []
 ·rw [if_pos h]
 ·rw [if_neg h]
  have hs : SOk e.cache := hc.resolve_left h
  have hg : GoodF (fileT e.cache) e.cache := ⟨len_pos h, hs, rfl⟩
  unfold plainE lays
  rw [laysF_snoc, fileM_is hg, plain_empty]
theorem away_files {e : Eng} (hc : e.cache = [] ∨ SOk e.cache) (hf : ∀ s ∈ e.files, isF s) : ∀ s ∈ (awayS e).files, isF s := by
 unfold awayS
 by_cases h : e.cache = []
 ·rw [if_pos h]; exact hf
 ·rw [if_neg h]
  intro s hs
  rcases List.mem_append.1 hs with hs | hs
  ·exact hf s hs
  ·rw [List.mem_singleton.1 hs]
   exact ⟨e.cache, len_pos h, hc.resolve_left h, rfl⟩
theorem away_cache (e : Eng) : (awayS e).cache = [] := by
 unfold awayS
 by_cases h : e.cache = []
 ·rw [if_pos h]; exact h
 ·rw [if_neg h]
theorem flush_same {e : Eng} (hf : e.files.length ≤ 4) (hc : e.cache = [] ∨ SOk e.cache) (hp : SOk (plainE e)) : flushS e = flushA e (plainE e) := by
 unfold flushS flushA
 by_cases h : e.cache = []
 ·have ha : awayS e = e := by unfold awayS; rw [if_pos h]
  rw [ha, if_neg (by omega), if_pos h]
 ·have ha : awayS e = ⟨e.floor, [], e.files ++ [fileT e.cache]⟩ := by unfold awayS; rw [if_neg h]
  have hpl := away_plain hc
  rw [if_neg h]
  by_cases h4 : e.files.length = 4
  ·rw [if_pos h4, ha, if_pos (by simp; omega)]
   rw [ha] at hpl
   unfold oneS packA
   rw [hpl, one_files hp]
  ·rw [if_neg h4, ha, if_neg (by simp; omega)]
theorem plainE_into {e : Eng} {k : ByteArray} {p : List Pnt} (hc : Neat e.floor e.cache) (hp : Rising p) : plainR [plainE e, [⟨k, p⟩]] e.floor = plainE (intoE e k p) := plain_into hc hp
theorem from_first {p : List Pnt} (hp : POk p) {f : Int} (h : f ≤ tAt p 0) : ∀ x ∈ p, f ≤ x.t := fun x hx => by
 have hr := ((POk_iff _).1 hp).2.1
 obtain ⟨j, hj, rfl⟩ := List.getElem_of_mem hx
 rw [tAt_get p 0 (by omega)] at h
 rcases Nat.eq_zero_or_pos j with e | e
 ·subst e; exact h
 ·have := (List.pairwise_iff_getElem.1 hr) 0 j (by omega) hj e
  omega
theorem into_ok {e : Eng} {k : ByteArray} {p : List Pnt} (he : EOk e) (hp : PutOk k p) (hf : e.floor ≤ tAt p 0) (hs : SOk (plainE (intoE e k p))) : SOk (intoR e.cache k p) := by
 have hpr := ((POk_iff _).1 hp.2.1).2.1
 have hn : Neat e.floor (intoR e.cache k p) := neat_into he.neat hpr hp.2.2 (from_first hp.2.1 hf)
 have hco := (SOk_iff _).1 he.1.2.2.1
 refine last_ok (ls := laysF e.files) hn (fun x hx => ?_) hs
 rcases mem_into hx with h | h | ⟨y, hy, h⟩
 ·exact ⟨(hco.2.2 x h).1, ((POk_iff _).1 (hco.2.2 x h).2.2).2.2⟩
 ·rw [h]; exact ⟨hp.1, ((POk_iff _).1 hp.2.1).2.2⟩
 ·rw [h]
  refine ⟨hp.1, fun q hq => ?_⟩
  rcases (mem_mrg q p y.pts hpr).1 hq with h4 | ⟨h4, _⟩
  ·exact ((POk_iff _).1 hp.2.1).2.2 q h4
  ·exact ((POk_iff _).1 (hco.2.2 y hy).2.2).2.2 q h4
end Go.Proofs.YtikknmoeefipmaaGreatDoor
