/- FlMath -/
import Derived.Test.YtpmgndgkmffcnaaGreatDoorQd11
import Derived.Test.YtpmgndgkmffcnaaGreatDoorQd14
namespace Go.Proofs.YtpmgndgkmffcnaaGreatDoor
open Go.RowKit Go.PlainAid
def bl (s : ByteArray) : List UInt8 := s.data.toList
theorem txt_bl (s : ByteArray) : txt (bl s) = s := txt_toList s
theorem bl_length (s : ByteArray) : (bl s).length = s.size := by rw [← txt_size, txt_bl]
def magic : List UInt8 := [116, 115, 98, 49]
def blkB (l : List Ser) (j : Nat) : List UInt8 := bl (showB (sAt l j).pts)
def blks (l : List Ser) (k : Nat) : List UInt8 := cat (blkB l) k
def atB (l : List Ser) (k : Nat) : Nat := 4 + (blks l k).length
def fT (l : List Ser) (j : Nat) : Nat := (tAt (sAt l j).pts 0).toNat
def lT (l : List Ser) (j : Nat) : Nat := (tAt (sAt l j).pts ((sAt l j).pts.length - 1)).toNat
def spB (l : List Ser) (j : Nat) : List UInt8 := vF 6 (sAt l j).key.size ++ (bl (sAt l j).key ++ (vF 6 (atB l j) ++ (vF 6 (blkB l j).length ++ (vF 6 (fT l j) ++ vF 6 (lT l j)))))
def idxB (l : List Ser) (k : Nat) : List UInt8 := cat (spB l) k
def bodyF (l : List Ser) : List UInt8 := magic ++ (blks l l.length ++ (idxB l l.length ++ low (atB l l.length) 4))
def fileB (l : List Ser) : List UInt8 := bodyF l ++ low (crc (txt (bodyF l))) 4
def fileT (l : List Ser) : ByteArray := if 1 ≤ l.length ∧ SOk l then txt (fileB l) else txt []
def GoodF (s : ByteArray) (l : List Ser) : Prop := 1 ≤ l.length ∧ SOk l ∧ fileT l = s
theorem GoodF.text {s : ByteArray} {l : List Ser} (h : GoodF s l) : s = txt (fileB l) := by
 rw [← h.2.2, fileT, if_pos ⟨h.1, h.2.1⟩]
theorem blkB_length (l : List Ser) (j : Nat) : (blkB l j).length ≤ 900 := by unfold blkB; rw [bl_length]; exact showB_size _
theorem blks_length (l : List Ser) (k : Nat) : (blks l k).length ≤ 900 * k := by
 induction k with
 | zero => simp [blks, cat_zero]
 | succ k ih => unfold blks at ih ⊢; rw [cat_succ, List.length_append]; have := blkB_length l k; omega
theorem SOk.key {l : List Ser} (h : SOk l) (j : Nat) (hj : j < l.length) : 1 ≤ (sAt l j).key.size ∧ (sAt l j).key.size ≤ 8 := ⟨(h.2 j hj).1.1.1, (h.2 j hj).1.1.2.1⟩
theorem SOk.times {l : List Ser} (h : SOk l) (j : Nat) (hj : j < l.length) : (0 ≤ tAt (sAt l j).pts 0 ∧ tAt (sAt l j).pts 0 ≤ 1099511627776) ∧ (0 ≤ tAt (sAt l j).pts ((sAt l j).pts.length - 1) ∧ tAt (sAt l j).pts ((sAt l j).pts.length - 1) ≤ 1099511627776) := by
 have h1 := (h.2 j hj).2
 exact ⟨(h1.2.2 0 (by omega)).1.1, (h1.2.2 _ (by omega)).1.1⟩
theorem spB_length {l : List Ser} (h : SOk l) (j : Nat) (hj : j < l.length) : 6 ≤ (spB l j).length ∧ (spB l j).length ≤ 43 := by
 have := h.key j hj
 unfold spB
 simp only [List.length_append, bl_length]
 have a1 := vF_pos 6 (sAt l j).key.size
 have a2 := vF_pos 6 (atB l j)
 have a3 := vF_pos 6 (blkB l j).length
 have a4 := vF_pos 6 (fT l j)
 have a5 := vF_pos 6 (lT l j)
 have b1 := vF_length 6 (sAt l j).key.size
 have b2 := vF_length 6 (atB l j)
 have b3 := vF_length 6 (blkB l j).length
 have b4 := vF_length 6 (fT l j)
 have b5 := vF_length 6 (lT l j)
 omega
theorem idxB_length {l : List Ser} (h : SOk l) (k : Nat) (hk : k ≤ l.length) : 6 * k ≤ (idxB l k).length ∧ (idxB l k).length ≤ 43 * k := by
 induction k with
 | zero => simp [idxB, cat_zero]
 | succ k ih =>
  have ih := ih (by omega)
  have := spB_length h k (by omega)
  unfold idxB at ih ⊢
  rw [cat_succ, List.length_append]
  omega
theorem atB_le {l : List Ser} (h : SOk l) (k : Nat) (hk : k ≤ l.length) : atB l k ≤ 4504 := by
 have := blks_length l k
 have := h.1
 unfold atB
 omega
theorem bodyF_length {l : List Ser} (h : SOk l) : (bodyF l).length = 8 + (blks l l.length).length + (idxB l l.length).length ∧ (bodyF l).length ≤ 5000 := by
 have h1 := blks_length l l.length
 have h2 := idxB_length h l.length (Nat.le_refl _)
 have := h.1
 unfold bodyF
 simp only [List.length_append, low_length]
 have : magic.length = 4 := rfl
 omega
theorem fileB_length (l : List Ser) : (fileB l).length = (bodyF l).length + 4 := by unfold fileB; rw [List.length_append, low_length]
theorem fileT_size (l : List Ser) : (fileT l).size ≤ 5004 := by
 unfold fileT
 split
 ·rename_i h
  rw [txt_size, fileB_length]
  have := bodyF_length h.2
  omega
 ·rw [txt_size]; simp
theorem rdV_ex (s : ByteArray) : ∃ n k : Nat, RdV s (n : Int) k := by
 by_cases h : ∃ k, FindV s k
 ·obtain ⟨k, h⟩ := h
  exact ⟨vvS s 0 k, k, .inl ⟨h, rfl⟩⟩
 ·exact ⟨0, 0, .inr ⟨fun j hj => h ⟨j, hj⟩, rfl, rfl⟩⟩
noncomputable def rvN (s : ByteArray) : Nat := Classical.choose (rdV_ex s)
noncomputable def rvK (s : ByteArray) : Nat := Classical.choose (Classical.choose_spec (rdV_ex s))
theorem rv_rd (s : ByteArray) : RdV s (rvN s : Int) (rvK s) := Classical.choose_spec (Classical.choose_spec (rdV_ex s))
theorem rv_is {s : ByteArray} {n : Int} {k : Nat} (h : RdV s n k) : n = (rvN s : Int) ∧ k = rvK s := h.one (rv_rd s)
theorem rvN_le (s : ByteArray) : rvN s ≤ 562949953421311 := by
 rcases rv_rd s with ⟨⟨_, h7, _, _⟩, h⟩ | ⟨_, h, _⟩
 ·have := vvS_le s (rvK s) h7 0
  omega
 ·omega
theorem rvK_le (s : ByteArray) : rvK s ≤ s.size ∧ rvK s ≤ 7 := by
 have := (rv_rd s).le
 omega
theorem rv_var (n : Nat) (tl : List UInt8) (hn : n ≤ 562949953421311) : rvN (txt (vF 6 n ++ tl)) = n ∧ rvK (txt (vF 6 n ++ tl)) = (vF 6 n).length := by
 have hf := find_var n tl hn
 have := rv_is (s := txt (vF 6 n ++ tl)) (n := (n : Int)) (k := (vF 6 n).length) (.inl ⟨hf.1, by rw [hf.2]⟩)
 omega
theorem extract_mid (a b c : List UInt8) : (txt (a ++ (b ++ c))).extract a.length (a.length + b.length) = txt b := by
 have h1 := extract_back a (b ++ c)
 have h2 := extract_front b c
 rw [← h1, ByteArray.extract_extract] at h2
 rw [← h2]
 congr 1
 rw [txt_size]
 simp only [List.length_append]
 omega
theorem rest_mid (a b : List UInt8) : rest (txt (a ++ b)) a.length = txt b := extract_back a b
noncomputable def tkN (s : ByteArray) (p : Nat) : Nat := rvN (rest s p)
noncomputable def tkP (s : ByteArray) (p : Nat) : Nat := p + rvK (rest s p)
theorem tkP_le (s : ByteArray) (p : Nat) (h : p ≤ s.size) : tkP s p ≤ s.size := by
 have := (rvK_le (rest s p)).1
 rw [rest_size] at this
 unfold tkP
 omega
theorem tk_var (a : List UInt8) (n : Nat) (tl : List UInt8) (hn : n ≤ 562949953421311) : tkN (txt (a ++ (vF 6 n ++ tl))) a.length = n ∧ tkP (txt (a ++ (vF 6 n ++ tl))) a.length = (a ++ vF 6 n).length := by
 unfold tkN tkP
 rw [rest_mid, (rv_var n tl hn).1, (rv_var n tl hn).2, List.length_append]
 exact ⟨rfl, rfl⟩
structure Spot where
 key : ByteArray
 at' : Nat
 size : Nat
 first : Nat
 last : Nat
instance : Inhabited Spot := ⟨⟨⟨#[]⟩, 0, 0, 0, 0⟩⟩
def tk (s : ByteArray) (p many : Nat) : Nat := min (p + many) s.size
noncomputable def spK (s : ByteArray) (p : Nat) : Nat := tk s (tkP s p) (tkN s p)
noncomputable def spotA (s : ByteArray) (p : Nat) : Spot :=
 ⟨s.extract (tkP s p) (spK s p), tkN s (spK s p), tkN s (tkP s (spK s p)), tkN s (tkP s (tkP s (spK s p))), tkN s (tkP s (tkP s (tkP s (spK s p))))⟩
noncomputable def spotP (s : ByteArray) (p : Nat) : Nat := tkP s (tkP s (tkP s (tkP s (spK s p))))
theorem tk_le (s : ByteArray) (p many : Nat) : tk s p many ≤ s.size := Nat.min_le_right _ _
theorem spotP_le (s : ByteArray) (p : Nat) : spotP s p ≤ s.size := tkP_le _ _ (tkP_le _ _ (tkP_le _ _ (tkP_le _ _ (tk_le _ _ _))))
noncomputable def idxA (s : ByteArray) (e : Nat) : Nat → Nat → List Spot
 | 0, _ => []
 | f + 1, p => if p < e then spotA s p :: idxA s e f (spotP s p) else []
noncomputable def spots (s : ByteArray) : List Spot := if s.size < 8 then [] else idxA s (s.size - 8) 5 (min (rdv (rest s (s.size - 8)) 4) s.size)
theorem idxA_length (s : ByteArray) (e : Nat) : ∀ f p, (idxA s e f p).length ≤ f
 | 0, _ => by simp [idxA]
 | f + 1, p => by
  rw [idxA]
  split
  ·have := idxA_length s e f (spotP s p)
   simp only [List.length_cons]
   omega
  ·simp
theorem spots_length (s : ByteArray) : (spots s).length ≤ 5 := by
 unfold spots
 split
 ·simp
 ·exact idxA_length _ _ _ _
def blkA (s : ByteArray) (x : Spot) : ByteArray := s.extract (min x.at' s.size) (tk s (min x.at' s.size) x.size)
theorem rb_ex (s : ByteArray) : ∃ l ok, RbAns s l ok := by
 by_cases h : ∃ l, Good s l
 ·obtain ⟨l, h⟩ := h
  exact ⟨l, true, .inl ⟨rfl, h⟩⟩
 ·exact ⟨[], false, .inr ⟨rfl, rfl, fun m hm => h ⟨m, hm⟩⟩⟩
noncomputable def rbP (s : ByteArray) : List Pnt := Classical.choose (rb_ex s)
theorem rbP_is {s : ByteArray} {l : List Pnt} {ok : Bool} (h : RbAns s l ok) : l = rbP s := by
 obtain ⟨ok', h'⟩ := Classical.choose_spec (rb_ex s)
 exact (h.one h').1
theorem rbP_good {s : ByteArray} {l : List Pnt} (h : Good s l) : rbP s = l := (rbP_is (ok := true) (.inl ⟨rfl, h⟩)).symm
theorem rbP_length (s : ByteArray) : (rbP s).length ≤ 60 := by
 obtain ⟨ok, h⟩ := Classical.choose_spec (rb_ex s)
 exact h.len
noncomputable def serA (s : ByteArray) (x : Spot) : Ser := ⟨x.key, rbP (blkA s x)⟩
noncomputable def serAll (s : ByteArray) : List Ser := (spots s).map (serA s)
def spotOf (l : List Ser) (j : Nat) : Spot := ⟨(sAt l j).key, atB l j, (blkB l j).length, fT l j, lT l j⟩
def posF (l : List Ser) (j : Nat) : Nat := atB l l.length + (idxB l j).length
theorem file_at (l : List Ser) (j : Nat) (hj : j < l.length) : ∃ a b : List UInt8, fileB l = a ++ (spB l j ++ (b ++ (low (atB l l.length) 4 ++ low (crc (txt (bodyF l))) 4))) ∧ a.length = posF l j ∧ idxB l l.length = idxB l j ++ (spB l j ++ b) := by
 obtain ⟨b, hb⟩ := cat_split (spB l) j l.length hj
 refine ⟨magic ++ (blks l l.length ++ idxB l j), b, ?_, ?_, hb⟩
 ·unfold fileB bodyF
  rw [show idxB l l.length = cat (spB l) l.length from rfl, hb]
  simp only [List.append_assoc]
  rfl
 ·unfold posF atB
  simp only [List.length_append]
  have : magic.length = 4 := rfl
  omega
theorem posF_end {l : List Ser} (h : SOk l) : posF l l.length + 8 = (fileB l).length := by
 have := bodyF_length h
 rw [fileB_length, this.1]
 unfold posF atB
 omega
theorem posF_lt {l : List Ser} (h : SOk l) (j : Nat) (hj : j < l.length) : posF l j < posF l l.length := by
 obtain ⟨a, b, _, _, hb⟩ := file_at l j hj
 have := spB_length h j hj
 unfold posF
 rw [hb]
 simp only [List.length_append]
 omega
theorem posF_succ (l : List Ser) (j : Nat) : posF l (j + 1) = posF l j + (spB l j).length := by
 unfold posF idxB
 rw [cat_succ, List.length_append, Nat.add_assoc]
theorem nums_le {l : List Ser} (h : SOk l) (j : Nat) (hj : j < l.length) : (sAt l j).key.size ≤ 562949953421311 ∧ atB l j ≤ 562949953421311 ∧ (blkB l j).length ≤ 562949953421311 ∧ fT l j ≤ 562949953421311 ∧ lT l j ≤ 562949953421311 := by
 have h1 := h.key j hj
 have h2 := atB_le h j (by omega)
 have h3 := blkB_length l j
 have h4 := h.times j hj
 unfold fT lT
 omega
theorem spot_read {l : List Ser} (h : SOk l) (j : Nat) (hj : j < l.length) : spotA (txt (fileB l)) (posF l j) = spotOf l j ∧ spotP (txt (fileB l)) (posF l j) = posF l (j + 1) := by
 obtain ⟨a, b, hf, ha, _⟩ := file_at l j hj
 obtain ⟨n1, n2, n3, n4, n5⟩ := nums_le h j hj
 generalize hK : (sAt l j).key = K at *
 generalize hA : atB l j = A at *
 generalize hZ : (blkB l j).length = Z at *
 generalize hF : fT l j = F at *
 generalize hE : lT l j = E at *
 generalize b ++ (low (atB l l.length) 4 ++ low (crc (txt (bodyF l))) 4) = T at hf
 have hsp : spB l j = vF 6 K.size ++ (bl K ++ (vF 6 A ++ (vF 6 Z ++ (vF 6 F ++ vF 6 E)))) := by unfold spB; rw [hK, hA, hZ, hF, hE]
 have e0 : fileB l = a ++ (vF 6 K.size ++ (bl K ++ (vF 6 A ++ (vF 6 Z ++ (vF 6 F ++ (vF 6 E ++ T)))))) := by rw [hf, hsp]; simp only [List.append_assoc]
 have e1 : fileB l = (a ++ vF 6 K.size) ++ (bl K ++ (vF 6 A ++ (vF 6 Z ++ (vF 6 F ++ (vF 6 E ++ T))))) := by rw [e0]; simp only [List.append_assoc]
 have e2 : fileB l = (a ++ vF 6 K.size ++ bl K) ++ (vF 6 A ++ (vF 6 Z ++ (vF 6 F ++ (vF 6 E ++ T)))) := by rw [e0]; simp only [List.append_assoc]
 have e3 : fileB l = (a ++ vF 6 K.size ++ bl K ++ vF 6 A) ++ (vF 6 Z ++ (vF 6 F ++ (vF 6 E ++ T))) := by rw [e0]; simp only [List.append_assoc]
 have e4 : fileB l = (a ++ vF 6 K.size ++ bl K ++ vF 6 A ++ vF 6 Z) ++ (vF 6 F ++ (vF 6 E ++ T)) := by rw [e0]; simp only [List.append_assoc]
 have e5 : fileB l = (a ++ vF 6 K.size ++ bl K ++ vF 6 A ++ vF 6 Z ++ vF 6 F) ++ (vF 6 E ++ T) := by rw [e0]; simp only [List.append_assoc]
 have t1 := tk_var a K.size (bl K ++ (vF 6 A ++ (vF 6 Z ++ (vF 6 F ++ (vF 6 E ++ T))))) n1
 rw [← e0] at t1
 have k1 : spK (txt (fileB l)) a.length = (a ++ vF 6 K.size ++ bl K).length := by
  unfold spK tk
  rw [t1.1, t1.2, txt_size, e2]
  simp only [List.length_append, bl_length]
  omega
 have x1 := extract_mid (a ++ vF 6 K.size) (bl K) (vF 6 A ++ (vF 6 Z ++ (vF 6 F ++ (vF 6 E ++ T))))
 rw [← e1, ← List.length_append] at x1
 have t2 := tk_var (a ++ vF 6 K.size ++ bl K) A (vF 6 Z ++ (vF 6 F ++ (vF 6 E ++ T))) n2
 rw [← e2] at t2
 have t3 := tk_var (a ++ vF 6 K.size ++ bl K ++ vF 6 A) Z (vF 6 F ++ (vF 6 E ++ T)) n3
 rw [← e3] at t3
 have t4 := tk_var (a ++ vF 6 K.size ++ bl K ++ vF 6 A ++ vF 6 Z) F (vF 6 E ++ T) n4
 rw [← e4] at t4
 have t5 := tk_var (a ++ vF 6 K.size ++ bl K ++ vF 6 A ++ vF 6 Z ++ vF 6 F) E T n5
 rw [← e5] at t5
 rw [posF_succ, ← ha]
 unfold spotA spotP
 rw [k1, t1.2, t2.1, t2.2, t3.1, t3.2, t4.1, t4.2, t5.1, t5.2, x1]
 refine ⟨?_, ?_⟩
 ·unfold spotOf
  rw [hK, hA, hZ, hF, hE, txt_bl]
 ·rw [hsp]
  simp only [List.length_append]
  omega
theorem idx_read {l : List Ser} (h : SOk l) (d : Nat) : ∀ j f, j + d = l.length → d ≤ f → idxA (txt (fileB l)) (posF l l.length) f (posF l j) = (List.range d).map fun i => spotOf l (j + i) := by
 induction d with
 | zero =>
  intro j f hj _
  obtain rfl : j = l.length := by omega
  cases f with
  | zero => rfl
  | succ f => rw [idxA, if_neg (by omega)]; rfl
 | succ d ih =>
  intro j f hj hf
  match f, hf with
  | f + 1, hf =>
   rw [idxA, if_pos (posF_lt h j (by omega)), (spot_read h j (by omega)).1, (spot_read h j (by omega)).2, ih (j + 1) f (by omega) (by omega), List.range_succ_eq_map, List.map_cons, List.map_map, Nat.add_zero]
   congr 1
   apply List.map_congr_left
   intro i _
   show spotOf l (j + 1 + i) = spotOf l (j + (i + 1))
   congr 1
   omega
theorem begin_read {l : List Ser} (h : SOk l) : rdv (rest (txt (fileB l)) ((txt (fileB l)).size - 8)) 4 = atB l l.length ∧ 12 ≤ (txt (fileB l)).size := by
 have hb := atB_le h l.length (Nat.le_refl _)
 have hl := bodyF_length h
 have e : fileB l = (magic ++ (blks l l.length ++ idxB l l.length)) ++ (low (atB l l.length) 4 ++ low (crc (txt (bodyF l))) 4) := by
  unfold fileB
  conv => lhs; arg 1; unfold bodyF
  simp only [List.append_assoc]
 have hz : (txt (fileB l)).size - 8 = (magic ++ (blks l l.length ++ idxB l l.length)).length := by
  rw [txt_size, fileB_length, hl.1]
  simp only [List.length_append]
  have : magic.length = 4 := rfl
  omega
 refine ⟨?_, by rw [txt_size, fileB_length, hl.1]; omega⟩
 rw [hz]
 conv => lhs; arg 1; rw [e]
 rw [rest_mid, ← txt_cat, rdv_append _ _ _ (by rw [txt_size, low_length]; exact Nat.le_refl _)]
 exact rdv_four_four _ (by omega)
theorem spots_read {l : List Ser} (h : SOk l) : spots (txt (fileB l)) = (List.range l.length).map (spotOf l) := by
 obtain ⟨h1, h2⟩ := begin_read h
 have hp := posF_end h
 have hb := atB_le h l.length (Nat.le_refl _)
 have h5 := h.1
 have hl := bodyF_length h
 have e0 : min (atB l l.length) (txt (fileB l)).size = posF l 0 := by
  rw [txt_size, fileB_length, hl.1]
  unfold posF idxB
  rw [cat_zero]
  unfold atB
  simp only [List.length_nil]
  omega
 have ee : (txt (fileB l)).size - 8 = posF l l.length := by rw [txt_size]; omega
 unfold spots
 rw [if_neg (by omega), h1, e0, ee, idx_read h l.length 0 5 (by omega) h5]
 simp only [Nat.zero_add]
theorem blk_read {l : List Ser} (j : Nat) (hj : j < l.length) : blkA (txt (fileB l)) (spotOf l j) = showB (sAt l j).pts := by
 obtain ⟨c, hc⟩ := cat_split (blkB l) j l.length hj
 have e : ∃ T, fileB l = (magic ++ blks l j) ++ (blkB l j ++ T) := by
  refine ⟨c ++ (idxB l l.length ++ low (atB l l.length) 4) ++ low (crc (txt (bodyF l))) 4, ?_⟩
  unfold fileB
  conv => lhs; arg 1; unfold bodyF
  rw [show blks l l.length = cat (blkB l) l.length from rfl, hc]
  simp only [List.append_assoc]
  rfl
 obtain ⟨T, e⟩ := e
 have ha : atB l j = (magic ++ blks l j).length := by
  unfold atB
  rw [List.length_append]
  rfl
 have hm := extract_mid (magic ++ blks l j) (blkB l j) T
 unfold blkA spotOf tk
 simp only
 rw [txt_size, ha, e]
 rw [show min (magic ++ blks l j).length ((magic ++ blks l j) ++ (blkB l j ++ T)).length = (magic ++ blks l j).length by simp only [List.length_append]; omega,
  show min ((magic ++ blks l j).length + (blkB l j).length) ((magic ++ blks l j) ++ (blkB l j ++ T)).length = (magic ++ blks l j).length + (blkB l j).length by simp only [List.length_append]; omega, hm]
 exact txt_bl _
theorem ser_read {l : List Ser} (h : SOk l) (j : Nat) (hj : j < l.length) : serA (txt (fileB l)) (spotOf l j) = sAt l j := by
 have hg : Good (showB (sAt l j).pts) (sAt l j).pts := ⟨(h.2 j hj).2.1, (h.2 j hj).2.2, rfl⟩
 unfold serA
 rw [blk_read j hj, rbP_good hg]
 rfl
theorem range_at (l : List Ser) : (List.range l.length).map (sAt l) = l := by
 apply List.ext_getElem (by simp)
 intro j h1 h2
 rw [List.getElem_map, List.getElem_range, sAt, ← getD_at l j h2]
theorem GoodF.read {s : ByteArray} {l : List Ser} (h : GoodF s l) : serAll s = l ∧ spots s = (List.range l.length).map (spotOf l) := by
 rw [h.text]
 refine ⟨?_, spots_read h.2.1⟩
 unfold serAll
 rw [spots_read h.2.1, List.map_map]
 conv => rhs; rw [← range_at l]
 apply List.map_congr_left
 intro j hj
 exact ser_read h.2.1 j (List.mem_range.1 hj)
theorem GoodF.one {s : ByteArray} {l m : List Ser} (h : GoodF s l) (h' : GoodF s m) : l = m := h.read.1.symm.trans h'.read.1
theorem GoodF.of {s : ByteArray} {l : List Ser} (h1 : 1 ≤ l.length) (h8 : 8 ≤ s.size) (hs : fileT l = s) : GoodF s l := by
 refine ⟨h1, ?_, hs⟩
 by_cases h : SOk l
 ·exact h
 ·rw [fileT, if_neg (fun hh => h hh.2)] at hs
  rw [← hs, txt_size] at h8
  simp at h8
def RfAns (s : ByteArray) (l : List Ser) (ok : Bool) : Prop := (ok = true ∧ GoodF s l) ∨ (ok = false ∧ l = [] ∧ ∀ m, ¬ GoodF s m)
theorem RfAns.one {s : ByteArray} {l m : List Ser} {x y : Bool} (h : RfAns s l x) (h' : RfAns s m y) : l = m ∧ x = y := by
 rcases h with ⟨h1, h2⟩ | ⟨h1, h2, h3⟩ <;> rcases h' with ⟨h1', h2'⟩ | ⟨h1', h2', h3'⟩
 ·exact ⟨h2.one h2', h1.trans h1'.symm⟩
 ·exact absurd h2 (h3' l)
 ·exact absurd h2' (h3 m)
 ·exact ⟨h2.trans h2'.symm, h1.trans h1'.symm⟩
theorem RfAns.len {s : ByteArray} {l : List Ser} {x : Bool} (h : RfAns s l x) : l.length ≤ 5 := by
 rcases h with ⟨_, h2⟩ | ⟨_, h2, _⟩
 ·exact h2.2.1.1
 ·rw [h2]; simp
theorem RfAns.short {s : ByteArray} {l : List Ser} {x : Bool} (h : RfAns s l x) : ∀ y ∈ l, y.pts.length ≤ 60 := by
 rcases h with ⟨_, h2⟩ | ⟨_, h2, _⟩
 ·intro y hy
  obtain ⟨j, hj, rfl⟩ := List.getElem_of_mem hy
  have := (h2.2.1.2 j hj).2.2.1
  rwa [sAt, ← getD_at l j hj] at this
 ·rw [h2]
  intro y hy
  cases hy
end Go.Proofs.YtpmgndgkmffcnaaGreatDoor
