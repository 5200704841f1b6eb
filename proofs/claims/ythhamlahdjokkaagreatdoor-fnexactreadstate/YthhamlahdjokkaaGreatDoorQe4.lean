/- FlMath EgMath EgDef StMath CmMath CmRes CmPart Clone CmAns IgMath IgRd IgRef CmAnsR -/
import Derived.Test.YthhamlahdjokkaaGreatDoorQe2
import Derived.Test.YthhamlahdjokkaaGreatDoorQe3
import Derived.Laws.DeepStrings4
import Derived.Defers
import Derived.Recover
import Derived.Shelf.Pu.Clone
namespace Go.Proofs.YthhamlahdjokkaaGreatDoor
open Go.RowKit Go.PlainAid
def bl (s : ByteArray) : List UInt8 := s.data.toList
theorem txt_bl (s : ByteArray) : txt (bl s) = s := txt_toList s
theorem bl_length (s : ByteArray) : (bl s).length = s.size := by rw [← txt_size,txt_bl]
def magic : List UInt8 := [116,115,98,49]
def blkB (l : List Ser) (j : Nat) : List UInt8 := bl (showB (sAt l j).pts)
def blks (l : List Ser) (k : Nat) : List UInt8 := cat (blkB l) k
def atB (l : List Ser) (k : Nat) : Nat := 4 + (blks l k).length
def fT (l : List Ser) (j : Nat) : Nat := (tAt (sAt l j).pts 0).toNat
def lT (l : List Ser) (j : Nat) : Nat := (tAt (sAt l j).pts ((sAt l j).pts.length - 1)).toNat
def spB (l : List Ser) (j : Nat) : List UInt8 := vF 6 (sAt l j).key.size ++ (bl (sAt l j).key ++ (vF 6 (atB l j) ++ (vF 6 (blkB l j).length ++ (vF 6 (fT l j) ++ vF 6 (lT l j)))))
def idxB (l : List Ser) (k : Nat) : List UInt8 := cat (spB l) k
def bodyF (l : List Ser) : List UInt8 := magic ++ (blks l l.length ++ (idxB l l.length ++ low (atB l l.length) 4))
def fileB (l : List Ser) : List UInt8 := bodyF l ++ low (crc (txt (bodyF l))) 4
def fileT (l : List Ser) : ByteArray := if 1 ≤ l.length ∧ SOk l then txt (fileB l) else txt []
def GoodF (s : ByteArray) (l : List Ser) : Prop := 1 ≤ l.length ∧ SOk l ∧ fileT l = s
theorem GoodF.text {s : ByteArray} {l : List Ser} (h : GoodF s l) : s = txt (fileB l) := by
 rw [← h.2.2,fileT,if_pos ⟨h.1,h.2.1⟩]
theorem blkB_length (l : List Ser) (j : Nat) : (blkB l j).length ≤ 900 := by unfold blkB; rw [bl_length]; exact showB_size _
theorem blks_length (l : List Ser) (k : Nat) : (blks l k).length ≤ 900 * k := by
 induction k with
 | zero => simp [blks,cat_zero]
 | succ k ih => unfold blks at ih ⊢; rw [cat_succ,List.length_append]; have := blkB_length l k; omega
theorem SOk.key {l : List Ser} (h : SOk l) (j : Nat) (hj : j < l.length) : 1 ≤ (sAt l j).key.size ∧ (sAt l j).key.size ≤ 8 := ⟨(h.2 j hj).1.1.1,(h.2 j hj).1.1.2.1⟩
theorem SOk.times {l : List Ser} (h : SOk l) (j : Nat) (hj : j < l.length) : (0 ≤ tAt (sAt l j).pts 0 ∧ tAt (sAt l j).pts 0 ≤ 1099511627776) ∧ (0 ≤ tAt (sAt l j).pts ((sAt l j).pts.length - 1) ∧ tAt (sAt l j).pts ((sAt l j).pts.length - 1) ≤ 1099511627776) := by
 have h1 := (h.2 j hj).2
 exact ⟨(h1.2.2 0 (by omega)).1.1,(h1.2.2 _ (by omega)).1.1⟩
theorem spB_length {l : List Ser} (h : SOk l) (j : Nat) (hj : j < l.length) : 6 ≤ (spB l j).length ∧ (spB l j).length ≤ 43 := by
 have := h.key j hj
 unfold spB
 simp only [List.length_append,bl_length]
 have a1 := vF_pos 6 (sAt l j).key.size
 have a2 := vF_pos 6 (atB l j)
 have a3 := vF_pos 6 (blkB l j).length
 have a4 := vF_pos 6 (fT l j)
 have a5 := vF_pos 6 (lT l j)
 have b1 := vF_length 6 (sAt l j).key.size
 have b2 := vF_length 6 (atB l j)
 have b3 := vF_length 6 (blkB l j).length
 have b4 := vF_length 6 (fT l j)
 have b5 := vF_length 6 (lT l j)
 omega
theorem idxB_length {l : List Ser} (h : SOk l) (k : Nat) (hk : k ≤ l.length) : 6 * k ≤ (idxB l k).length ∧ (idxB l k).length ≤ 43 * k := by
 induction k with
 | zero => simp [idxB,cat_zero]
 | succ k ih =>
  have ih := ih (by omega)
  have := spB_length h k (by omega)
  unfold idxB at ih ⊢
  rw [cat_succ,List.length_append]
  omega
theorem atB_le {l : List Ser} (h : SOk l) (k : Nat) (hk : k ≤ l.length) : atB l k ≤ 4504 := by
 have := blks_length l k
 have := h.1
 unfold atB
 omega
theorem bodyF_length {l : List Ser} (h : SOk l) : (bodyF l).length = 8 + (blks l l.length).length + (idxB l l.length).length ∧ (bodyF l).length ≤ 5000 := by
 have h1 := blks_length l l.length
 have h2 := idxB_length h l.length (Nat.le_refl _)
 have := h.1
 unfold bodyF
 simp only [List.length_append,low_length]
 have : magic.length = 4 := rfl
 omega
theorem fileB_length (l : List Ser) : (fileB l).length = (bodyF l).length + 4 := by unfold fileB; rw [List.length_append,low_length]
theorem fileT_size (l : List Ser) : (fileT l).size ≤ 5004 := by
 unfold fileT
 split
 ·rename_i h
  rw [txt_size,fileB_length]
  have := bodyF_length h.2
  omega
 ·rw [txt_size]; simp
theorem rdV_ex (s : ByteArray) : ∃ n k : Nat,RdV s (n : Int) k := by
 by_cases h : ∃ k,FindV s k
 ·obtain ⟨k,h⟩ := h
  exact ⟨vvS s 0 k,k,.inl ⟨h,rfl⟩⟩
 ·exact ⟨0,0,.inr ⟨fun j hj => h ⟨j,hj⟩,rfl,rfl⟩⟩
noncomputable def rvN (s : ByteArray) : Nat := Classical.choose (rdV_ex s)
noncomputable def rvK (s : ByteArray) : Nat := Classical.choose (Classical.choose_spec (rdV_ex s))
theorem rv_rd (s : ByteArray) : RdV s (rvN s : Int) (rvK s) := Classical.choose_spec (Classical.choose_spec (rdV_ex s))
theorem rv_is {s : ByteArray} {n : Int} {k : Nat} (h : RdV s n k) : n = (rvN s : Int) ∧ k = rvK s := h.one (rv_rd s)
theorem rvN_le (s : ByteArray) : rvN s ≤ 562949953421311 := by
 rcases rv_rd s with ⟨⟨_,h7,_,_⟩,h⟩ | ⟨_,h,_⟩
 ·have := vvS_le s (rvK s) h7 0
  omega
 ·omega
theorem rvK_le (s : ByteArray) : rvK s ≤ s.size ∧ rvK s ≤ 7 := by
 have := (rv_rd s).le
 omega
theorem rv_var (n : Nat) (tl : List UInt8) (hn : n ≤ 562949953421311) : rvN (txt (vF 6 n ++ tl)) = n ∧ rvK (txt (vF 6 n ++ tl)) = (vF 6 n).length := by
 have hf := find_var n tl hn
 have := rv_is (s := txt (vF 6 n ++ tl)) (n := (n : Int)) (k := (vF 6 n).length) (.inl ⟨hf.1,by rw [hf.2]⟩)
 omega
theorem extract_mid (a b c : List UInt8) : (txt (a ++ (b ++ c))).extract a.length (a.length + b.length) = txt b := by
 have h1 := extract_back a (b ++ c)
 have h2 := extract_front b c
 rw [← h1,ByteArray.extract_extract] at h2
 rw [← h2]
 congr 1
 rw [txt_size]
 simp only [List.length_append]
 omega
theorem rest_mid (a b : List UInt8) : rest (txt (a ++ b)) a.length = txt b := extract_back a b
noncomputable def tkN (s : ByteArray) (p : Nat) : Nat := rvN (rest s p)
noncomputable def tkP (s : ByteArray) (p : Nat) : Nat := p + rvK (rest s p)
theorem tkP_le (s : ByteArray) (p : Nat) (h : p ≤ s.size) : tkP s p ≤ s.size := by
 have := (rvK_le (rest s p)).1
 rw [rest_size] at this
 unfold tkP
 omega
theorem tk_var (a : List UInt8) (n : Nat) (tl : List UInt8) (hn : n ≤ 562949953421311) : tkN (txt (a ++ (vF 6 n ++ tl))) a.length = n ∧ tkP (txt (a ++ (vF 6 n ++ tl))) a.length = (a ++ vF 6 n).length := by
 unfold tkN tkP
 rw [rest_mid,(rv_var n tl hn).1,(rv_var n tl hn).2,List.length_append]
 exact ⟨rfl,rfl⟩
structure Spot where
 key : ByteArray
 at' : Nat
 size : Nat
 first : Nat
 last : Nat
instance : Inhabited Spot := ⟨⟨⟨#[]⟩,0,0,0,0⟩⟩
def tk (s : ByteArray) (p many : Nat) : Nat := min (p + many) s.size
noncomputable def spK (s : ByteArray) (p : Nat) : Nat := tk s (tkP s p) (tkN s p)
noncomputable def spotA (s : ByteArray) (p : Nat) : Spot :=
 ⟨s.extract (tkP s p) (spK s p),tkN s (spK s p),tkN s (tkP s (spK s p)),tkN s (tkP s (tkP s (spK s p))),tkN s (tkP s (tkP s (tkP s (spK s p))))⟩
noncomputable def spotP (s : ByteArray) (p : Nat) : Nat := tkP s (tkP s (tkP s (tkP s (spK s p))))
theorem tk_le (s : ByteArray) (p many : Nat) : tk s p many ≤ s.size := Nat.min_le_right _ _
theorem spotP_le (s : ByteArray) (p : Nat) : spotP s p ≤ s.size := tkP_le _ _ (tkP_le _ _ (tkP_le _ _ (tkP_le _ _ (tk_le _ _ _))))
noncomputable def idxA (s : ByteArray) (e : Nat) : Nat → Nat → List Spot
 | 0,_ => []
 | f + 1,p => if p < e then spotA s p :: idxA s e f (spotP s p) else []
noncomputable def spots (s : ByteArray) : List Spot := if s.size < 8 then [] else idxA s (s.size - 8) 5 (min (rdv (rest s (s.size - 8)) 4) s.size)
theorem idxA_length (s : ByteArray) (e : Nat) : ∀ f p,(idxA s e f p).length ≤ f
 | 0,_ => by simp [idxA]
 | f + 1,p => by
  rw [idxA]
  split
  ·have := idxA_length s e f (spotP s p)
   simp only [List.length_cons]
   omega
  ·simp
theorem spots_length (s : ByteArray) : (spots s).length ≤ 5 := by
 unfold spots
 split
 ·simp
 ·exact idxA_length _ _ _ _
def blkA (s : ByteArray) (x : Spot) : ByteArray := s.extract (min x.at' s.size) (tk s (min x.at' s.size) x.size)
theorem rb_ex (s : ByteArray) : ∃ l ok,RbAns s l ok := by
 by_cases h : ∃ l,Good s l
 ·obtain ⟨l,h⟩ := h
  exact ⟨l,true,.inl ⟨rfl,h⟩⟩
 ·exact ⟨[],false,.inr ⟨rfl,rfl,fun m hm => h ⟨m,hm⟩⟩⟩
noncomputable def rbP (s : ByteArray) : List Pnt := Classical.choose (rb_ex s)
theorem rbP_is {s : ByteArray} {l : List Pnt} {ok : Bool} (h : RbAns s l ok) : l = rbP s := by
 obtain ⟨ok',h'⟩ := Classical.choose_spec (rb_ex s)
 exact (h.one h').1
theorem rbP_good {s : ByteArray} {l : List Pnt} (h : Good s l) : rbP s = l := (rbP_is (ok := true) (.inl ⟨rfl,h⟩)).symm
theorem rbP_length (s : ByteArray) : (rbP s).length ≤ 60 := by
 obtain ⟨ok,h⟩ := Classical.choose_spec (rb_ex s)
 exact h.len
noncomputable def serA (s : ByteArray) (x : Spot) : Ser := ⟨x.key,rbP (blkA s x)⟩
noncomputable def serAll (s : ByteArray) : List Ser := (spots s).map (serA s)
def spotOf (l : List Ser) (j : Nat) : Spot := ⟨(sAt l j).key,atB l j,(blkB l j).length,fT l j,lT l j⟩
def posF (l : List Ser) (j : Nat) : Nat := atB l l.length + (idxB l j).length
theorem file_at (l : List Ser) (j : Nat) (hj : j < l.length) : ∃ a b : List UInt8,fileB l = a ++ (spB l j ++ (b ++ (low (atB l l.length) 4 ++ low (crc (txt (bodyF l))) 4))) ∧ a.length = posF l j ∧ idxB l l.length = idxB l j ++ (spB l j ++ b) := by
 obtain ⟨b,hb⟩ := cat_split (spB l) j l.length hj
 refine ⟨magic ++ (blks l l.length ++ idxB l j),b,?_,?_,hb⟩
 ·unfold fileB bodyF
  rw [show idxB l l.length = cat (spB l) l.length from rfl,hb]
  simp only [List.append_assoc]
  rfl
 ·unfold posF atB
  simp only [List.length_append]
  have : magic.length = 4 := rfl
  omega
theorem posF_end {l : List Ser} (h : SOk l) : posF l l.length + 8 = (fileB l).length := by
 have := bodyF_length h
 rw [fileB_length,this.1]
 unfold posF atB
 omega
theorem posF_lt {l : List Ser} (h : SOk l) (j : Nat) (hj : j < l.length) : posF l j < posF l l.length := by
 obtain ⟨a,b,_,_,hb⟩ := file_at l j hj
 have := spB_length h j hj
 unfold posF
 rw [hb]
 simp only [List.length_append]
 omega
theorem posF_succ (l : List Ser) (j : Nat) : posF l (j + 1) = posF l j + (spB l j).length := by
 unfold posF idxB
 rw [cat_succ,List.length_append,Nat.add_assoc]
theorem nums_le {l : List Ser} (h : SOk l) (j : Nat) (hj : j < l.length) : (sAt l j).key.size ≤ 562949953421311 ∧ atB l j ≤ 562949953421311 ∧ (blkB l j).length ≤ 562949953421311 ∧ fT l j ≤ 562949953421311 ∧ lT l j ≤ 562949953421311 := by
 have h1 := h.key j hj
 have h2 := atB_le h j (by omega)
 have h3 := blkB_length l j
 have h4 := h.times j hj
 unfold fT lT
 omega
theorem spot_read {l : List Ser} (h : SOk l) (j : Nat) (hj : j < l.length) : spotA (txt (fileB l)) (posF l j) = spotOf l j ∧ spotP (txt (fileB l)) (posF l j) = posF l (j + 1) := by
 obtain ⟨a,b,hf,ha,_⟩ := file_at l j hj
 obtain ⟨n1,n2,n3,n4,n5⟩ := nums_le h j hj
 generalize hK : (sAt l j).key = K at *
 generalize hA : atB l j = A at *
 generalize hZ : (blkB l j).length = Z at *
 generalize hF : fT l j = F at *
 generalize hE : lT l j = E at *
 generalize b ++ (low (atB l l.length) 4 ++ low (crc (txt (bodyF l))) 4) = T at hf
 have hsp : spB l j = vF 6 K.size ++ (bl K ++ (vF 6 A ++ (vF 6 Z ++ (vF 6 F ++ vF 6 E)))) := by unfold spB; rw [hK,hA,hZ,hF,hE]
 have e0 : fileB l = a ++ (vF 6 K.size ++ (bl K ++ (vF 6 A ++ (vF 6 Z ++ (vF 6 F ++ (vF 6 E ++ T)))))) := by rw [hf,hsp]; simp only [List.append_assoc]
 have e1 : fileB l = (a ++ vF 6 K.size) ++ (bl K ++ (vF 6 A ++ (vF 6 Z ++ (vF 6 F ++ (vF 6 E ++ T))))) := by rw [e0]; simp only [List.append_assoc]
 have e2 : fileB l = (a ++ vF 6 K.size ++ bl K) ++ (vF 6 A ++ (vF 6 Z ++ (vF 6 F ++ (vF 6 E ++ T)))) := by rw [e0]; simp only [List.append_assoc]
 have e3 : fileB l = (a ++ vF 6 K.size ++ bl K ++ vF 6 A) ++ (vF 6 Z ++ (vF 6 F ++ (vF 6 E ++ T))) := by rw [e0]; simp only [List.append_assoc]
 have e4 : fileB l = (a ++ vF 6 K.size ++ bl K ++ vF 6 A ++ vF 6 Z) ++ (vF 6 F ++ (vF 6 E ++ T)) := by rw [e0]; simp only [List.append_assoc]
 have e5 : fileB l = (a ++ vF 6 K.size ++ bl K ++ vF 6 A ++ vF 6 Z ++ vF 6 F) ++ (vF 6 E ++ T) := by rw [e0]; simp only [List.append_assoc]
 have t1 := tk_var a K.size (bl K ++ (vF 6 A ++ (vF 6 Z ++ (vF 6 F ++ (vF 6 E ++ T))))) n1
 rw [← e0] at t1
 have k1 : spK (txt (fileB l)) a.length = (a ++ vF 6 K.size ++ bl K).length := by
  unfold spK tk
  rw [t1.1,t1.2,txt_size,e2]
  simp only [List.length_append,bl_length]
  omega
 have x1 := extract_mid (a ++ vF 6 K.size) (bl K) (vF 6 A ++ (vF 6 Z ++ (vF 6 F ++ (vF 6 E ++ T))))
 rw [← e1,← List.length_append] at x1
 have t2 := tk_var (a ++ vF 6 K.size ++ bl K) A (vF 6 Z ++ (vF 6 F ++ (vF 6 E ++ T))) n2
 rw [← e2] at t2
 have t3 := tk_var (a ++ vF 6 K.size ++ bl K ++ vF 6 A) Z (vF 6 F ++ (vF 6 E ++ T)) n3
 rw [← e3] at t3
 have t4 := tk_var (a ++ vF 6 K.size ++ bl K ++ vF 6 A ++ vF 6 Z) F (vF 6 E ++ T) n4
 rw [← e4] at t4
 have t5 := tk_var (a ++ vF 6 K.size ++ bl K ++ vF 6 A ++ vF 6 Z ++ vF 6 F) E T n5
 rw [← e5] at t5
 rw [posF_succ,← ha]
 unfold spotA spotP
 rw [k1,t1.2,t2.1,t2.2,t3.1,t3.2,t4.1,t4.2,t5.1,t5.2,x1]
 refine ⟨?_,?_⟩
 ·unfold spotOf
  rw [hK,hA,hZ,hF,hE,txt_bl]
 ·rw [hsp]
  simp only [List.length_append]
  omega
theorem idx_read {l : List Ser} (h : SOk l) (d : Nat) : ∀ j f,j + d = l.length → d ≤ f → idxA (txt (fileB l)) (posF l l.length) f (posF l j) = (List.range d).map fun i => spotOf l (j + i) := by
 induction d with
 | zero =>
  intro j f hj _
  obtain rfl : j = l.length := by omega
  cases f with
  | zero => rfl
  | succ f => rw [idxA,if_neg (by omega)]; rfl
 | succ d ih =>
  intro j f hj hf
  match f,hf with
  | f + 1,hf =>
   rw [idxA,if_pos (posF_lt h j (by omega)),(spot_read h j (by omega)).1,(spot_read h j (by omega)).2,ih (j + 1) f (by omega) (by omega),List.range_succ_eq_map,List.map_cons,List.map_map,Nat.add_zero]
   congr 1
   apply List.map_congr_left
   intro i _
   show spotOf l (j + 1 + i) = spotOf l (j + (i + 1))
   congr 1
   omega
theorem begin_read {l : List Ser} (h : SOk l) : rdv (rest (txt (fileB l)) ((txt (fileB l)).size - 8)) 4 = atB l l.length ∧ 12 ≤ (txt (fileB l)).size := by
 have hb := atB_le h l.length (Nat.le_refl _)
 have hl := bodyF_length h
 have e : fileB l = (magic ++ (blks l l.length ++ idxB l l.length)) ++ (low (atB l l.length) 4 ++ low (crc (txt (bodyF l))) 4) := by
  unfold fileB
  conv => lhs; arg 1; unfold bodyF
  simp only [List.append_assoc]
 have hz : (txt (fileB l)).size - 8 = (magic ++ (blks l l.length ++ idxB l l.length)).length := by
  rw [txt_size,fileB_length,hl.1]
  simp only [List.length_append]
  have : magic.length = 4 := rfl
  omega
 refine ⟨?_,by rw [txt_size,fileB_length,hl.1]; omega⟩
 rw [hz]
 conv => lhs; arg 1; rw [e]
 rw [rest_mid,← txt_cat,rdv_append _ _ _ (by rw [txt_size,low_length]; exact Nat.le_refl _)]
 exact rdv_four_four _ (by omega)
theorem spots_read {l : List Ser} (h : SOk l) : spots (txt (fileB l)) = (List.range l.length).map (spotOf l) := by
 obtain ⟨h1,h2⟩ := begin_read h
 have hp := posF_end h
 have hb := atB_le h l.length (Nat.le_refl _)
 have h5 := h.1
 have hl := bodyF_length h
 have e0 : min (atB l l.length) (txt (fileB l)).size = posF l 0 := by
  rw [txt_size,fileB_length,hl.1]
  unfold posF idxB
  rw [cat_zero]
  unfold atB
  simp only [List.length_nil]
  omega
 have ee : (txt (fileB l)).size - 8 = posF l l.length := by rw [txt_size]; omega
 unfold spots
 rw [if_neg (by omega),h1,e0,ee,idx_read h l.length 0 5 (by omega) h5]
 simp only [Nat.zero_add]
theorem blk_read {l : List Ser} (j : Nat) (hj : j < l.length) : blkA (txt (fileB l)) (spotOf l j) = showB (sAt l j).pts := by
 obtain ⟨c,hc⟩ := cat_split (blkB l) j l.length hj
 have e : ∃ T,fileB l = (magic ++ blks l j) ++ (blkB l j ++ T) := by
  refine ⟨c ++ (idxB l l.length ++ low (atB l l.length) 4) ++ low (crc (txt (bodyF l))) 4,?_⟩
  unfold fileB
  conv => lhs; arg 1; unfold bodyF
  rw [show blks l l.length = cat (blkB l) l.length from rfl,hc]
  simp only [List.append_assoc]
  rfl
 obtain ⟨T,e⟩ := e
 have ha : atB l j = (magic ++ blks l j).length := by
  unfold atB
  rw [List.length_append]
  rfl
 have hm := extract_mid (magic ++ blks l j) (blkB l j) T
 unfold blkA spotOf tk
 simp only
 rw [txt_size,ha,e]
 rw [show min (magic ++ blks l j).length ((magic ++ blks l j) ++ (blkB l j ++ T)).length = (magic ++ blks l j).length by simp only [List.length_append]; omega,
  show min ((magic ++ blks l j).length + (blkB l j).length) ((magic ++ blks l j) ++ (blkB l j ++ T)).length = (magic ++ blks l j).length + (blkB l j).length by simp only [List.length_append]; omega,hm]
 exact txt_bl _
theorem ser_read {l : List Ser} (h : SOk l) (j : Nat) (hj : j < l.length) : serA (txt (fileB l)) (spotOf l j) = sAt l j := by
 have hg : Good (showB (sAt l j).pts) (sAt l j).pts := ⟨(h.2 j hj).2.1,(h.2 j hj).2.2,rfl⟩
 unfold serA
 rw [blk_read j hj,rbP_good hg]
 rfl
theorem range_at (l : List Ser) : (List.range l.length).map (sAt l) = l := by
 apply List.ext_getElem (by simp)
 intro j h1 h2
 rw [List.getElem_map,List.getElem_range,sAt,← getD_at l j h2]
theorem GoodF.read {s : ByteArray} {l : List Ser} (h : GoodF s l) : serAll s = l ∧ spots s = (List.range l.length).map (spotOf l) := by
 rw [h.text]
 refine ⟨?_,spots_read h.2.1⟩
 unfold serAll
 rw [spots_read h.2.1,List.map_map]
 conv => rhs; rw [← range_at l]
 apply List.map_congr_left
 intro j hj
 exact ser_read h.2.1 j (List.mem_range.1 hj)
theorem GoodF.one {s : ByteArray} {l m : List Ser} (h : GoodF s l) (h' : GoodF s m) : l = m := h.read.1.symm.trans h'.read.1
theorem GoodF.of {s : ByteArray} {l : List Ser} (h1 : 1 ≤ l.length) (h8 : 8 ≤ s.size) (hs : fileT l = s) : GoodF s l := by
 refine ⟨h1,?_,hs⟩
 by_cases h : SOk l
 ·exact h
 ·rw [fileT,if_neg (fun hh => h hh.2)] at hs
  rw [← hs,txt_size] at h8
  simp at h8
def RfAns (s : ByteArray) (l : List Ser) (ok : Bool) : Prop := (ok = true ∧ GoodF s l) ∨ (ok = false ∧ l = [] ∧ ∀ m,¬ GoodF s m)
def RiseK (l : List ByteArray) : Prop := l.Pairwise fun a b => ahd a b = true
theorem ahd_ne {a b : ByteArray} (h : ahd a b = true) : a ≠ b := fun e => by rw [e,ahd_irrefl] at h; cases h
theorem ahd_tri {a b : ByteArray} (h : ahd a b = false) (hne : a ≠ b) : ahd b a = true := by
 rcases ahd_no h with h | h
 ·exact h
 ·exact absurd h.symm hne
theorem riseK_ext : ∀ {l m : List ByteArray},RiseK l → RiseK m → (∀ p,p ∈ l ↔ p ∈ m) → l = m
 | [],[],_,_,_ => rfl
 | [],y :: m,_,_,h => by have := (h y).2 (by simp); simp at this
 | x :: l,[],_,_,h => by have := (h x).1 (by simp); simp at this
 | x :: l,y :: m,hl,hm,h => by
  have hl' := List.pairwise_cons.1 hl
  have hm' := List.pairwise_cons.1 hm
  have hxy : x = y := by
   rcases List.mem_cons.1 ((h x).1 (by simp)) with e | h1
   ·exact e
   ·rcases List.mem_cons.1 ((h y).2 (by simp)) with e | h2
    ·exact e.symm
    ·exact absurd rfl (ahd_ne (ahd_trans (hm'.1 x h1) (hl'.1 y h2)))
  subst hxy
  congr 1
  refine riseK_ext hl'.2 hm'.2 fun p => ⟨fun hp => ?_,fun hp => ?_⟩
  ·rcases List.mem_cons.1 ((h p).1 (by simp [hp])) with e | h1
   ·subst e; exact absurd rfl (ahd_ne (hl'.1 p hp))
   ·exact h1
  ·rcases List.mem_cons.1 ((h p).2 (by simp [hp])) with e | h1
   ·subst e; exact absurd rfl (ahd_ne (hm'.1 p hp))
   ·exact h1
open Classical in
noncomputable def insK : List ByteArray → ByteArray → List ByteArray
 | [],k => [k]
 | x :: l,k => if x = k then x :: l else if ahd k x = true then k :: x :: l else x :: insK l k
theorem mem_insK (p k : ByteArray) : ∀ l,p ∈ insK l k ↔ p = k ∨ p ∈ l
 | [] => by simp [insK]
 | x :: l => by
  by_cases h : x = k
  ·rw [insK,if_pos h,List.mem_cons,h]
   constructor
   ·intro h; exact .inr h
   ·rintro (h | h)
    ·exact .inl h
    ·exact h
  ·by_cases h2 : ahd k x = true
   ·rw [insK,if_neg h,if_pos h2,List.mem_cons]
   ·rw [insK,if_neg h,if_neg h2,List.mem_cons,mem_insK p k l,List.mem_cons]
    constructor
    ·rintro (h | h | h)
     ·exact .inr (.inl h)
     ·exact .inl h
     ·exact .inr (.inr h)
    ·rintro (h | h | h)
     ·exact .inr (.inl h)
     ·exact .inl h
     ·exact .inr (.inr h)
theorem rise_insK (k : ByteArray) : ∀ l,RiseK l → RiseK (insK l k)
 | [],_ => by simp [insK,RiseK]
 | x :: l,hl => by
  have hl' := List.pairwise_cons.1 hl
  by_cases h : x = k
  ·rw [insK,if_pos h]; exact hl
  ·by_cases h2 : ahd k x = true
   ·rw [insK,if_neg h,if_pos h2]
    refine List.pairwise_cons.2 ⟨fun y hy => ?_,hl⟩
    rcases List.mem_cons.1 hy with e | hy
    ·rw [e]; exact h2
    ·exact ahd_trans h2 (hl'.1 y hy)
   ·rw [insK,if_neg h,if_neg h2]
    refine List.pairwise_cons.2 ⟨fun y hy => ?_,rise_insK k l hl'.2⟩
    rcases (mem_insK y k l).1 hy with e | hy
    ·rw [e]; exact ahd_tri (by simpa using h2) (fun e => h e.symm)
    ·exact hl'.1 y hy
noncomputable def allK (ks : List ByteArray) : List ByteArray := ks.foldl insK []
theorem mem_foldK (p : ByteArray) : ∀ (ks a : List ByteArray),p ∈ ks.foldl insK a ↔ p ∈ a ∨ p ∈ ks
 | [],a => by simp
 | k :: ks,a => by
  rw [List.foldl_cons,mem_foldK p ks,mem_insK,List.mem_cons]
  constructor
  ·rintro ((h | h) | h)
   ·exact .inr (.inl h)
   ·exact .inl h
   ·exact .inr (.inr h)
  ·rintro (h | h | h)
   ·exact .inl (.inr h)
   ·exact .inl (.inl h)
   ·exact .inr h
theorem rise_foldK : ∀ (ks a : List ByteArray),RiseK a → RiseK (ks.foldl insK a)
 | [],_,h => h
 | k :: ks,a,h => rise_foldK ks _ (rise_insK k a h)
theorem mem_allK (p : ByteArray) (ks : List ByteArray) : p ∈ allK ks ↔ p ∈ ks := by rw [allK,mem_foldK]; simp
theorem rise_allK (ks : List ByteArray) : RiseK (allK ks) := rise_foldK ks [] (by simp [RiseK])
open Classical in
noncomputable def ptsAt : List Ser → ByteArray → List Pnt
 | [],_ => []
 | x :: l,k => if x.key = k then x.pts else ptsAt l k
theorem ptsAt_none {k : ByteArray} : ∀ {l : List Ser},(∀ x ∈ l,x.key ≠ k) → ptsAt l k = []
 | [],_ => rfl
 | x :: l,h => by rw [ptsAt,if_neg (h x (by simp)),ptsAt_none fun y hy => h y (by simp [hy])]
theorem ptsAt_some {k : ByteArray} : ∀ {l : List Ser},ptsAt l k = [] ∨ ∃ x ∈ l,x.key = k ∧ ptsAt l k = x.pts
 | [] => .inl rfl
 | x :: l => by
  by_cases h : x.key = k
  ·exact .inr ⟨x,by simp,h,by rw [ptsAt,if_pos h]⟩
  ·rw [ptsAt,if_neg h]
   rcases ptsAt_some (k := k) (l := l) with h | ⟨y,hy,h⟩
   ·exact .inl h
   ·exact .inr ⟨y,by simp [hy],h⟩
theorem ptsAt_rising {l : List Ser} (h : ∀ x ∈ l,Rising x.pts) (k : ByteArray) : Rising (ptsAt l k) := by
 rcases ptsAt_some (k := k) (l := l) with e | ⟨x,hx,_,e⟩
 ·rw [e]; simp [Rising]
 ·rw [e]; exact h x hx
noncomputable def hasAll (ls : List (List Ser)) (k : ByteArray) : List Pnt := ls.foldl (fun a l => mrg a (ptsAt l k)) []
def fromF (f : Int) (l : List Pnt) : List Pnt := l.filter fun p => decide (f ≤ p.t)
noncomputable def has (ls : List (List Ser)) (f : Int) (k : ByteArray) : List Pnt := fromF f (hasAll ls k)
theorem hasAll_snoc (ls : List (List Ser)) (l : List Ser) (k : ByteArray) : hasAll (ls ++ [l]) k = mrg (hasAll ls k) (ptsAt l k) := by rw [hasAll,List.foldl_append]; rfl
theorem mrg_nil (a : List Pnt) : mrg a [] = a := rfl
def LRis (ls : List (List Ser)) : Prop := ∀ l ∈ ls,∀ x ∈ l,Rising x.pts
theorem fold_rising (k : ByteArray) : ∀ (ls : List (List Ser)) (a : List Pnt),Rising a → Rising (ls.foldl (fun a l => mrg a (ptsAt l k)) a)
 | [],_,h => h
 | _ :: ls,_,h => fold_rising k ls _ (rising_mrg _ _ h)
theorem rising_hasAll (ls : List (List Ser)) (k : ByteArray) : Rising (hasAll ls k) := fold_rising k ls [] (by simp [Rising])
theorem mem_hasAll {p : Pnt} {k : ByteArray} : ∀ {ls : List (List Ser)} {a : List Pnt},LRis ls → p ∈ ls.foldl (fun a l => mrg a (ptsAt l k)) a → p ∈ a ∨ ∃ l ∈ ls,p ∈ ptsAt l k
 | [],_,_,h => .inl h
 | l :: ls,a,hr,h => by
  rcases mem_hasAll (ls := ls) (fun m hm => hr m (by simp [hm])) h with h1 | ⟨m,hm,h1⟩
  ·rcases (mem_mrg p _ a (ptsAt_rising (hr l (by simp)) k)).1 h1 with h2 | ⟨h2,_⟩
   ·exact .inr ⟨l,by simp,h2⟩
   ·exact .inl h2
  ·exact .inr ⟨m,by simp [hm],h1⟩
theorem hasAll_len (k : ByteArray) (n : Nat) : ∀ (ls : List (List Ser)) (a : List Pnt),(∀ l ∈ ls,(ptsAt l k).length ≤ n) → (ls.foldl (fun a l => mrg a (ptsAt l k)) a).length ≤ a.length + n * ls.length
 | [],a,_ => by simp
 | l :: ls,a,h => by
  have h1 := hasAll_len k n ls (mrg a (ptsAt l k)) fun m hm => h m (by simp [hm])
  have h2 := mrg_length (ptsAt l k) a
  have h3 := h l (by simp)
  rw [List.foldl_cons,List.length_cons,Nat.mul_succ]
  omega
theorem from_id {f : Int} {l : List Pnt} (h : ∀ p ∈ l,f ≤ p.t) : fromF f l = l := List.filter_eq_self.2 fun p hp => by simpa using h p hp
open Classical in
noncomputable def serK (ls : List (List Ser)) (f : Int) (k : ByteArray) : Option Ser := if has ls f k = [] then none else some ⟨k,has ls f k⟩
def keysOf (ls : List (List Ser)) : List ByteArray := ls.flatten.map Ser.key
noncomputable def keysL (ls : List (List Ser)) : List ByteArray := allK (keysOf ls)
noncomputable def plainK (ls : List (List Ser)) (f : Int) (ks : List ByteArray) : List Ser := ks.filterMap (serK ls f)
noncomputable def plainR (ls : List (List Ser)) (f : Int) : List Ser := plainK ls f (keysL ls)
theorem mem_keysL {k : ByteArray} {ls : List (List Ser)} : k ∈ keysL ls ↔ ∃ l ∈ ls,∃ x ∈ l,x.key = k := by
 rw [keysL,mem_allK,keysOf,List.mem_map]
 constructor
 ·rintro ⟨x,hx,e⟩
  obtain ⟨l,hl,hx⟩ := List.mem_flatten.1 hx
  exact ⟨l,hl,x,hx,e⟩
 ·rintro ⟨l,hl,x,hx,e⟩
  exact ⟨x,List.mem_flatten.2 ⟨l,hl,hx⟩,e⟩
theorem mem_plainK {ls : List (List Ser)} {f : Int} {ks : List ByteArray} {x : Ser} (h : x ∈ plainK ls f ks) : x.key ∈ ks ∧ x.pts = has ls f x.key ∧ x.pts ≠ [] := by
 obtain ⟨k,hk,e⟩ := List.mem_filterMap.1 h
 unfold serK at e
 split at e
 ·cases e
 ·rename_i hne
  cases e
  exact ⟨hk,rfl,hne⟩
theorem SOk_iff (l : List Ser) : SOk l ↔ l.length ≤ 5 ∧ RiseK (l.map Ser.key) ∧ ∀ x ∈ l,KOk x.key ∧ x.pts ≠ [] ∧ POk x.pts := by
 have at_get : ∀ j (h : j < l.length),sAt l j = l[j] := fun j h => by rw [sAt,← getD_at l j h]
 constructor
 ·intro h
  refine ⟨h.1,?_,fun x hx => ?_⟩
  ·unfold RiseK
   rw [List.pairwise_iff_getElem]
   have key : ∀ d i,i + d + 1 < l.length → ahd (sAt l i).key (sAt l (i + d + 1)).key = true := by
    intro d
    induction d with
    | zero => intro i hi; have := (h.2 (i + 0 + 1) hi).1.2 (by omega); simpa using this
    | succ d ih =>
     intro i hi
     have h1 := ih i (by omega)
     have h2 := (h.2 (i + (d + 1) + 1) hi).1.2 (by omega)
     rw [show i + (d + 1) + 1 - 1 = i + d + 1 by omega] at h2
     exact ahd_trans h1 h2
   intro i j hi hj hij
   rw [List.length_map] at hi hj
   have := key (j - i - 1) i (by omega)
   rw [show i + (j - i - 1) + 1 = j by omega,at_get i hi,at_get j hj] at this
   rw [List.getElem_map,List.getElem_map]
   exact this
  ·obtain ⟨j,hj,rfl⟩ := List.getElem_of_mem hx
   have := h.2 j hj
   rw [at_get j hj] at this
   exact ⟨this.1.1,fun e => by rw [e] at this; simp at this,this.2.2⟩
 ·rintro ⟨h1,h2,h3⟩
  refine ⟨h1,fun j hj => ⟨⟨?_,fun h0 => ?_⟩,?_,?_⟩⟩
  ·rw [at_get j hj]; exact (h3 _ (List.getElem_mem hj)).1
  ·rw [at_get j hj,at_get (j - 1) (by omega)]
   have := (List.pairwise_iff_getElem.1 h2) (j - 1) j (by rw [List.length_map]; omega) (by rw [List.length_map]; exact hj) (by omega)
   rw [List.getElem_map,List.getElem_map] at this
   exact this
  ·rw [at_get j hj]
   have := (h3 _ (List.getElem_mem hj)).2.1
   cases e : (l[j]).pts with
   | nil => exact absurd e this
   | cons y r => simp
  ·rw [at_get j hj]; exact (h3 _ (List.getElem_mem hj)).2.2
structure Eng where
 floor : Int
 cache : List Ser
 files : List ByteArray
def isF (s : ByteArray) : Prop := ∃ m,GoodF s m
open Classical in
noncomputable def fileM (s : ByteArray) : List Ser := if h : ∃ m,GoodF s m then Classical.choose h else []
theorem fileM_is {s : ByteArray} {m : List Ser} (h : GoodF s m) : fileM s = m := by
 have hx : ∃ m,GoodF s m := ⟨m,h⟩
 unfold fileM
 rw [dif_pos hx]
 exact (Classical.choose_spec hx).one h
theorem isF.good {s : ByteArray} (h : isF s) : GoodF s (fileM s) := by
 obtain ⟨m,hm⟩ := h
 rw [fileM_is hm]
 exact hm
noncomputable def laysF (fs : List ByteArray) : List (List Ser) := fs.map fileM
noncomputable def lays (e : Eng) : List (List Ser) := laysF e.files ++ [e.cache]
theorem laysF_snoc (fs : List ByteArray) (s : ByteArray) : laysF (fs ++ [s]) = laysF fs ++ [fileM s] := by unfold laysF; rw [List.map_append]; rfl
noncomputable def plainE (e : Eng) : List Ser := plainR (lays e) e.floor
def cntS (l : List Ser) : Nat := (l.map fun x => x.pts.length).sum
theorem cntS_snoc (l : List Ser) (k : Nat) (h : k < l.length) : cntS (l.take (k + 1)) = cntS (l.take k) + (l.getD k default).pts.length := by
 unfold cntS
 rw [take_getD l k h,List.map_append,List.sum_append]
 simp
def PreOk (e : Eng) : Prop := (0 ≤ e.floor ∧ e.floor ≤ 1099511627776) ∧ e.files.length ≤ 4 ∧ SOk e.cache ∧ cntS e.cache ≤ 40 ∧ ∀ x ∈ e.cache,e.floor ≤ tAt x.pts 0
def EOk (e : Eng) : Prop := PreOk e ∧ (∀ s ∈ e.files,isF s) ∧ SOk (plainE e)
open Classical in
noncomputable def plainX (e : Eng) : List Ser := if EOk e then plainE e else []
theorem len_pos {α : Type} {l : List α} (h : l ≠ []) : 1 ≤ l.length := by
 cases l with
 | nil => exact absurd rfl h
 | cons x l => simp
open Go.ChangeShapes Go.WideShapes Go.ChangeAt
set_option linter.unusedVariables false
structure Sta where
 kind : Int
 hold : Int
 mark : Int
 bks : List Pnt
 eng : Eng
 ses : List Ses
def sesFrom : Int → List Ses → Bool
 | _,[] => true
 | a,x :: l => inRg x.client a 4 && inRg x.serial 1 1000000 && ansOk x.ans && sesFrom (x.client + 1) l
theorem inRg_true {x lo hi : Int} : inRg x lo hi = true ↔ lo ≤ x ∧ x ≤ hi := by
 unfold inRg
 rw [Bool.and_eq_true,decide_eq_true_iff,decide_eq_true_iff]
theorem inRg_false {x lo hi : Int} : inRg x lo hi = false ↔ x < lo ∨ hi < x := by
 rw [← Bool.not_eq_true,inRg_true]
 omega
theorem ses_few : ∀ (l : List Ses) (a : Int),sesFrom a l = true → l = [] ∨ (l.length : Int) + a ≤ 5
 | [],_,_ => .inl rfl
 | x :: l,a,h => by
  unfold sesFrom at h
  rw [Bool.and_eq_true,Bool.and_eq_true,Bool.and_eq_true,inRg_true] at h
  refine .inr ?_
  rcases ses_few l _ h.2 with rfl | h2
  ·simp
   omega
  ·rw [List.length_cons]
   omega
theorem ses_many {l : List Ses} (h : 4 < l.length) : sesFrom 1 l = false := by
 rcases e : sesFrom 1 l with _ | _
 ·rfl
 ·rcases ses_few l 1 e with rfl | h2
  ·simp at h
  ·omega
theorem ses_drop (l : List Ses) (k : Nat) (h : k < l.length) (a : Int) : sesFrom a (l.drop k) = (inRg (l.getD k default).client a 4 && inRg (l.getD k default).serial 1 1000000 && ansOk (l.getD k default).ans && sesFrom ((l.getD k default).client + 1) (l.drop (k + 1))) := by
 rw [List.drop_eq_getElem_cons h,getD_at l k h]
 rfl
def mokFrom (m : Int) : Int → List Pnt → Bool
 | _,[] => true
 | a,x :: l => inRg x.t a 10995116277 && decide (m < (x.t + 1) * 100) && inRg x.v 0 1 && mokFrom m (x.t + 1) l
theorem mok_drop (m : Int) (l : List Pnt) (k : Nat) (h : k < l.length) (a : Int) : mokFrom m a (l.drop k) = (inRg (l.getD k default).t a 10995116277 && decide (m < ((l.getD k default).t + 1) * 100) && inRg (l.getD k default).v 0 1 && mokFrom m ((l.getD k default).t + 1) (l.drop (k + 1))) := by
 rw [List.drop_eq_getElem_cons h,getD_at l k h]
 rfl
def firstB (m : Int) : List Pnt → Bool
 | [] => true
 | x :: _ => decide (m < (x.t + 1) * 100)
theorem mok_same (m : Int) : ∀ (l : List Pnt) (a : Int),mokFrom m a l = (bokFrom a l && firstB m l)
 | [],_ => rfl
 | x :: l,a => by
  have h3 : decide (m < (x.t + 1) * 100) = true → bokFrom (x.t + 1) l = true → firstB m l = true := by
   intro h1 h2
   cases l with
   | nil => rfl
   | cons y l =>
    unfold bokFrom at h2
    rw [Bool.and_eq_true,Bool.and_eq_true,inRg_true] at h2
    have := of_decide_eq_true h1
    show decide (m < (y.t + 1) * 100) = true
    exact decide_eq_true (by omega)
  show (inRg x.t a 10995116277 && decide (m < (x.t + 1) * 100) && inRg x.v 0 1 && mokFrom m (x.t + 1) l) = ((inRg x.t a 10995116277 && inRg x.v 0 1 && bokFrom (x.t + 1) l) && decide (m < (x.t + 1) * 100))
  rw [mok_same m l (x.t + 1)]
  revert h3
  generalize decide (m < (x.t + 1) * 100) = D
  generalize bokFrom (x.t + 1) l = C
  generalize firstB m l = E
  generalize inRg x.t a 10995116277 = A
  generalize inRg x.v 0 1 = B
  intro h3
  cases D <;> cases C <;> cases E <;> cases A <;> cases B <;> first | rfl | exact absurd (h3 rfl rfl) (by decide)
def zeroB (e : Eng) : Bool := decide (e.floor = 0) && decide (e.cache.length = 0) && decide (e.files.length = 0)
def metaB (x : Sta) : Bool := inRg x.hold 0 100000 && inRg x.mark 0 1099511627776 && decide (x.bks.length ≤ 12) && bokFrom 0 x.bks && firstB x.mark x.bks && zeroB x.eng
open Classical in
noncomputable def shardB (x : Sta) : Bool := decide (x.hold = 0) && decide (x.mark = 0) && decide (x.bks.length = 0) && decide (EOk x.eng)
noncomputable def staOk (x : Sta) : Bool := sesFrom 1 x.ses && (if x.kind = 1 then metaB x else if x.kind = 2 then shardB x else false)
def lf (s : ByteArray) (i : Nat) : ByteArray := s.extract i s.size
theorem lf_size (s : ByteArray) (i : Nat) : (lf s i).size = s.size - i := by rw [lf,ByteArray.size_extract]; omega
theorem lf_zero (s : ByteArray) : lf s 0 = s := ByteArray.extract_zero_size
theorem lf_lf (s : ByteArray) (i j : Nat) : (lf s i).extract j (lf s i).size = lf s (i + j) := by
 rw [lf_size]
 unfold lf
 rw [ByteArray.extract_extract]
 by_cases h : i ≤ s.size
 ·congr 1 <;> omega
 ·have e1 : (s.extract (i + j) (min (i + (s.size - i)) s.size)).size = 0 := by rw [ByteArray.size_extract]; omega
  have e2 : (s.extract (i + j) s.size).size = 0 := by rw [ByteArray.size_extract]; omega
  rw [ByteArray.size_eq_zero_iff] at e1 e2
  rw [e1,e2]
def RdF (s : ByteArray) (a : Nat) : Nat → List Int → Nat → Prop
 | 0,l,n => l = [] ∧ n = a
 | k + 1,l,n => ∃ l' n' m,RdF s a k l' n' ∧ FindV (lf s n') m ∧ l = l' ++ [(vvS (lf s n') 0 m : Int)] ∧ n = n' + m
theorem RdF.one {s : ByteArray} {a : Nat} : ∀ {k : Nat} {l l' : List Int} {n n' : Nat},RdF s a k l n → RdF s a k l' n' → l = l' ∧ n = n'
 | 0,_,_,_,_,h,h' => ⟨h.1.trans h'.1.symm,h.2.trans h'.2.symm⟩
 | k + 1,_,_,_,_,⟨a,b,m,h1,h2,h3,h4⟩,⟨a',b',m',h1',h2',h3',h4'⟩ => by
  obtain ⟨rfl,rfl⟩ := RdF.one h1 h1'
  have := h2.one h2'
  subst this
  exact ⟨h3.trans h3'.symm,h4.trans h4'.symm⟩
theorem RdF.before {s : ByteArray} {a : Nat} : ∀ {k : Nat} {l : List Int} {n : Nat},RdF s a k l n → ∀ j,j < k → ∃ l' n' m,RdF s a j l' n' ∧ FindV (lf s n') m
 | 0,_,_,_,j,hj => by omega
 | k + 1,_,_,⟨a,b,m,h1,h2,h3,h4⟩,j,hj => by
  by_cases e : j = k
  ·subst e; exact ⟨a,b,m,h1,h2⟩
  ·exact RdF.before h1 j (by omega)
theorem RdF.no {s : ByteArray} {a k j : Nat} {l : List Int} {n : Nat} (h1 : RdF s a j l n) (hj : j < k) (h2 : ∀ m,¬ FindV (lf s n) m) : ∀ l' n',¬ RdF s a k l' n' := by
 intro l' n' h
 obtain ⟨l2,n2,m,h3,h4⟩ := h.before j hj
 obtain ⟨rfl,rfl⟩ := h1.one h3
 exact h2 m h4
theorem RdF.length {s : ByteArray} {a : Nat} : ∀ {k : Nat} {l : List Int} {n : Nat},RdF s a k l n → l.length = k
 | 0,_,_,h => by rw [h.1]; rfl
 | k + 1,_,_,⟨a,b,m,h1,h2,h3,h4⟩ => by rw [h3,List.length_append,RdF.length h1]; rfl
theorem RdF.ge {s : ByteArray} {a : Nat} : ∀ {k : Nat} {l : List Int} {n : Nat},RdF s a k l n → a + k ≤ n ∧ (1 ≤ k → n ≤ s.size)
 | 0,_,_,h => ⟨by rw [h.2]; omega,by omega⟩
 | k + 1,_,_,⟨a,b,m,h1,h2,h3,h4⟩ => by
  have h5 := RdF.ge h1
  obtain ⟨h6,h7,h8,_⟩ := h2
  rw [lf_size] at h8
  exact ⟨by omega,by omega⟩
theorem RdF.le {s : ByteArray} {a : Nat} : ∀ {k : Nat} {l : List Int} {n : Nat},RdF s a k l n → n ≤ a + 7 * k
 | 0,_,_,h => by rw [h.2]; omega
 | k + 1,_,_,⟨a,b,m,h1,h2,h3,h4⟩ => by
  have h5 := RdF.le h1
  obtain ⟨h6,h7,h8,_⟩ := h2
  omega
theorem RdF.bound {s : ByteArray} {a : Nat} : ∀ {k : Nat} {l : List Int} {n : Nat},RdF s a k l n → ∀ z ∈ l,0 ≤ z ∧ z ≤ 562949953421311
 | 0,_,_,h,z,hz => by rw [h.1] at hz; cases hz
 | k + 1,_,_,⟨a,b,m,h1,h2,h3,h4⟩,z,hz => by
  rw [h3] at hz
  rcases List.mem_append.1 hz with hz | hz
  ·exact RdF.bound h1 z hz
  ·simp at hz
   have := vvS_le (lf s b) m h2.2.1 0
   omega
theorem find_text {t : ByteArray} {m : Nat} (h : FindV t m) : txt (vF 6 (vvS t 0 m)) = t.extract 0 m := by
 obtain ⟨h1,h7,h8,h9⟩ := h
 obtain ⟨d,rfl⟩ : ∃ d,m = d + 1 := ⟨m - 1,by omega⟩
 rw [sg_extract t _ h8,(canonS_iff t d 0 6 (by omega)).2 h9]
def varsT : List Int → ByteArray
 | [] => ByteArray.empty
 | z :: l => txt (vF 6 z.toNat) ++ varsT l
theorem varsT_append (l m : List Int) : varsT (l ++ m) = varsT l ++ varsT m := by
 induction l with
 | nil => simp [varsT]
 | cons z l ih => simp [varsT,ih,ByteArray.append_assoc]
theorem RdF.text {s : ByteArray} {a : Nat} : ∀ {k : Nat} {l : List Int} {n : Nat},RdF s a k l n → s.extract a n = varsT l
 | 0,_,_,h => by rw [h.1,h.2]; apply ByteArray.ext; simp [varsT]
 | k + 1,_,_,⟨l,b,m,h1,h2,h3,h4⟩ => by
  have h5 := RdF.text h1
  have hge := RdF.ge h1
  have h8 := h2.2.2.1
  have h61 := h2.1
  rw [lf_size] at h8
  have e : s.extract a (b + m) = s.extract a b ++ s.extract b (b + m) := by
   rw [ByteArray.extract_append_extract]
   congr 1 <;> omega
  have e2 : (lf s b).extract 0 m = s.extract b (b + m) := by
   unfold lf
   rw [ByteArray.extract_extract]
   congr 1
   omega
  rw [h3,h4,e,h5,varsT_append,← e2,← find_text h2]
  simp [varsT]
theorem cut_in_two (s : ByteArray) (n : Nat) (h : n ≤ s.size) : s = s.extract 0 n ++ lf s n := by
 unfold lf
 rw [ByteArray.extract_append_extract]
 have e1 : min 0 n = 0 := by omega
 have e2 : max n s.size = s.size := by omega
 rw [e1,e2]
 exact ByteArray.extract_zero_size.symm
theorem resC4 {w : World} {g : Nat} {a0 a1 a2 a3 x0 x1 x2 x3 : Value} {t : TypeId} (h : Blk w g #[a0,a1,a2,a3] t) :
  (w.cell? ⟨g,0,none⟩ = some a0 ∧ w.frozen? ⟨g,0,none⟩ = false) ∧ ((w.setCell ⟨g,0,none⟩ x0).cell? ⟨g,1,none⟩ = some a1 ∧ (w.setCell ⟨g,0,none⟩ x0).frozen? ⟨g,1,none⟩ = false) ∧ (((w.setCell ⟨g,0,none⟩ x0).setCell ⟨g,1,none⟩ x1).cell? ⟨g,2,none⟩ = some a2 ∧ ((w.setCell ⟨g,0,none⟩ x0).setCell ⟨g,1,none⟩ x1).frozen? ⟨g,2,none⟩ = false) ∧ ((((w.setCell ⟨g,0,none⟩ x0).setCell ⟨g,1,none⟩ x1).setCell ⟨g,2,none⟩ x2).cell? ⟨g,3,none⟩ = some a3 ∧ (((w.setCell ⟨g,0,none⟩ x0).setCell ⟨g,1,none⟩ x1).setCell ⟨g,2,none⟩ x2).frozen? ⟨g,3,none⟩ = false) ∧
  ((((w.setCell ⟨g,0,none⟩ x0).setCell ⟨g,1,none⟩ x1).setCell ⟨g,2,none⟩ x2).setCell ⟨g,3,none⟩ x3).cell? ⟨g,0,none⟩ = some x0 ∧ ((((w.setCell ⟨g,0,none⟩ x0).setCell ⟨g,1,none⟩ x1).setCell ⟨g,2,none⟩ x2).setCell ⟨g,3,none⟩ x3).cell? ⟨g,1,none⟩ = some x1 ∧ ((((w.setCell ⟨g,0,none⟩ x0).setCell ⟨g,1,none⟩ x1).setCell ⟨g,2,none⟩ x2).setCell ⟨g,3,none⟩ x3).cell? ⟨g,2,none⟩ = some x2 ∧ ((((w.setCell ⟨g,0,none⟩ x0).setCell ⟨g,1,none⟩ x1).setCell ⟨g,2,none⟩ x2).setCell ⟨g,3,none⟩ x3).cell? ⟨g,3,none⟩ = some x3 := by
 have h1 : Blk (w.setCell ⟨g,0,none⟩ x0) g #[x0,a1,a2,a3] t := h.set 0 x0
 have h2 : Blk ((w.setCell ⟨g,0,none⟩ x0).setCell ⟨g,1,none⟩ x1) g #[x0,x1,a2,a3] t := h1.set 1 x1
 have h3 : Blk (((w.setCell ⟨g,0,none⟩ x0).setCell ⟨g,1,none⟩ x1).setCell ⟨g,2,none⟩ x2) g #[x0,x1,x2,a3] t := h2.set 2 x2
 have h4 : Blk ((((w.setCell ⟨g,0,none⟩ x0).setCell ⟨g,1,none⟩ x1).setCell ⟨g,2,none⟩ x2).setCell ⟨g,3,none⟩ x3) g #[x0,x1,x2,x3] t := h3.set 3 x3
 exact ⟨⟨h.cell 0 _ rfl,h.free 0⟩,⟨h1.cell 1 _ rfl,h1.free 1⟩,⟨h2.cell 2 _ rfl,h2.free 2⟩,⟨h3.cell 3 _ rfl,h3.free 3⟩,h4.cell 0 _ rfl,h4.cell 1 _ rfl,h4.cell 2 _ rfl,h4.cell 3 _ rfl⟩
theorem belowC4 {w w' : World} {B g : Nat} (h : Below B w w') (hg : B ≤ g) (x0 x1 x2 x3 : Value) : Below B w ((((w'.setCell ⟨g,0,none⟩ x0).setCell ⟨g,1,none⟩ x1).setCell ⟨g,2,none⟩ x2).setCell ⟨g,3,none⟩ x3) := ((((h.setCell hg _).setCell hg _).setCell hg _).setCell hg _)
theorem cellsC4 {w : World} {g : Nat} {a0 a1 a2 a3 : Value} {t : TypeId} (h : Blk w g #[a0,a1,a2,a3] t) : w.cell? ⟨g,0,none⟩ = some a0 ∧ w.cell? ⟨g,1,none⟩ = some a1 ∧ w.cell? ⟨g,2,none⟩ = some a2 ∧ w.cell? ⟨g,3,none⟩ = some a3 := ⟨h.cell 0 _ rfl,h.cell 1 _ rfl,h.cell 2 _ rfl,h.cell 3 _ rfl⟩
def lackP : List PanicEntry := [{ v := .iface 9 (.string ⟨#[97,32,112,97,114,116,32,108,97,99,107,115]⟩),recovered := false }]
def PKeep (g : Nat) (w w' : World) : Prop := Below g w w' ∧ ∀ b,b ≠ g → b < w.heap.size → w'.heap[b]? = w.heap[b]?
theorem PKeep.of {g : Nat} {w w' : World} (h : Below w.heap.size w w') (hg : g ≤ w.heap.size) : PKeep g w w' := ⟨h.mono hg,fun b _ hb => h.block b hb⟩
theorem PKeep.refl (g : Nat) (w : World) : PKeep g w w := ⟨Below.refl _ _,fun _ _ _ => rfl⟩
theorem PKeep.trans {g : Nat} {w w' w'' : World} (h : PKeep g w w') (h' : PKeep g w' w'') : PKeep g w w'' := ⟨h.1.trans h'.1,fun b hb hl => by rw [h'.2 b hb (Nat.lt_of_lt_of_le hl h.1.size),h.2 b hb hl]⟩
theorem PKeep.set {g : Nat} {w w' : World} (h : PKeep g w w') (i : Nat) (x : Value) : PKeep g w (w'.setCell ⟨g,i,none⟩ x) := ⟨h.1.setCell (Nat.le_refl _) _,fun b hb hl => by rw [Below.heap_setCell _ _ _ _ hb]; exact h.2 b hb hl⟩
theorem PKeep.setNew {g k : Nat} {w w' : World} (h : PKeep g w w') (hk : w.heap.size ≤ k) (hg : g ≤ k) (i : Nat) (x : Value) : PKeep g w (w'.setCell ⟨k,i,none⟩ x) := ⟨h.1.setCell hg _,fun b hb hl => by rw [Below.heap_setCell _ _ _ _ (show b ≠ k by omega)]; exact h.2 b hb hl⟩
theorem PKeep.alloc {g : Nat} {w w' : World} (h : PKeep g w w') (hg : g < w.heap.size) (o : Obj) : PKeep g w (w'.alloc o) := ⟨h.1.alloc (by have := h.1.size; omega) _,fun b hb hl => by rw [Below.heap_alloc _ _ _ (by have := h.1.size; omega)]; exact h.2 b hb hl⟩
theorem PKeep.cell {g : Nat} {w w' : World} (h : PKeep g w w') {p : Addr} (hp : p.block ≠ g) (hl : p.block < w.heap.size) : w'.cell? p = w.cell? p := World.cell?_of_block (w := w) (h.2 p.block hp hl)
def Prt (w : World) (g : Nat) (t : ByteArray) : Prop := w.heap[g]? = some (.cells #[.string t] 141 (0,0))
theorem Prt.lt {w : World} {g : Nat} {t : ByteArray} (h : Prt w g t) : g < w.heap.size := lt_of_block h
theorem Prt.cell {w : World} {g : Nat} {t : ByteArray} (h : Prt w g t) : w.cell? ⟨g,0,none⟩ = some (.string t) := by
 rw [cell_of_row _ _ 0 _ _ _ h]; rfl
theorem Prt.free {w : World} {g : Nat} {t : ByteArray} (h : Prt w g t) : w.frozen? ⟨g,0,none⟩ = false := frozen_of_row w g 0 _ _ h
theorem Prt.put {w : World} {g : Nat} {t : ByteArray} (h : Prt w g t) (u : ByteArray) : Prt (w.setCell ⟨g,0,none⟩ (.string u)) g u := heap_setCell_same w g 0 _ _ (.string u) h
theorem Prt.on {w w' : World} {g : Nat} {t : ByteArray} (h : Prt w g t) (hb : Below w.heap.size w w') : Prt w' g t := (hb.block g h.lt).trans h
theorem Prt.alloc {w : World} {g : Nat} {t : ByteArray} (h : Prt w g t) (o : Obj) : Prt (w.alloc o) g t := (Below.heap_alloc w o g h.lt).trans h
theorem need_yes (w : World) : Calls Tryz.prog 92 #[.bool true] w fun e w' => e = .returned (.tuple #[]) ∧ w = w' := by
 go_enter Tryz.func92,Tryz.ntmps92
 go_wp2
 first | go_end0 | exact bodyPost_ret (results_none rfl _ _ _) rfl ⟨rfl,rfl⟩
 exact ⟨rfl,rfl⟩
theorem need_no (w : World) : Calls Tryz.prog 92 #[.bool false] w fun e w' => e = .panicked lackP ∧ w = w' := by
 go_enter Tryz.func92,Tryz.ntmps92
 go_wp2
 exact ⟨rfl,rfl,rfl⟩
set_option maxHeartbeats 1000000 in
theorem takeText_yes (g : Nat) (t : ByteArray) (m : Nat) (w : World) (hp : Prt w g t) (hm : m ≤ t.size) (ht : t.size ≤ 1048576) :
  Calls Tryz.prog 125 #[.pointer (some ⟨g,0,none⟩),.int .i64 (m : Int)] w fun e w' => e = .returned (.string (t.extract 0 m)) ∧ w.setCell ⟨g,0,none⟩ (.string (t.extract m t.size)) = w' := by
 have q1 : (m : Int) ≤ (t.size : Int) := by omega
 have q2 : (t.size : Int) ≤ 1048576 := by omega
 have hc := hp.cell
 have hf := hp.free
 clear hp hm ht
 go_enter Tryz.func125,Tryz.ntmps125
 go_wp2_with fail
 refine (need_yes _).mono ?_
 rintro e w1 ⟨rfl,rfl⟩
 go_wp2_with fail
 go_ret
 exact ⟨rfl,rfl⟩
set_option maxHeartbeats 1000000 in
theorem takeText_no (g : Nat) (t : ByteArray) (m : Int) (w : World) (hp : Prt w g t) (hm : (t.size : Int) < m) (ht : t.size ≤ 1048576) :
  Calls Tryz.prog 125 #[.pointer (some ⟨g,0,none⟩),.int .i64 m] w fun e w' => e = .panicked lackP ∧ w = w' := by
 have q2 : (t.size : Int) ≤ 1048576 := by omega
 have q3 : decide (m ≤ (t.size : Int)) = false := decide_eq_false (by omega)
 have hc := hp.cell
 clear hp ht
 go_enter Tryz.func125,Tryz.ntmps125
 go_wp2_with fail
 refine (need_no _).mono ?_
 rintro e w1 ⟨rfl,rfl⟩
 go_wp2_with fail
 exact ⟨rfl,rfl,rfl⟩
set_option maxHeartbeats 1000000 in
theorem takeRest (g : Nat) (t : ByteArray) (w : World) (hp : Prt w g t) (ht : t.size ≤ 1048576) :
  Calls Tryz.prog 206 #[.pointer (some ⟨g,0,none⟩)] w fun e w' => e = .returned (.string t) ∧ w.setCell ⟨g,0,none⟩ (.string ByteArray.empty) = w' := by
 have c := takeText_yes g t t.size w hp (Nat.le_refl _) ht
 have e0 : t.extract t.size t.size = ByteArray.empty := by simp
 rw [ByteArray.extract_zero_size,e0] at c
 clear e0
 have q2 : (t.size : Int) ≤ 1048576 := by omega
 have hc := hp.cell
 clear hp ht
 go_enter Tryz.func206,Tryz.ntmps206
 go_wp2_with fail
 refine c.mono ?_
 rintro e w1 ⟨rfl,rfl⟩
 go_wp2_with fail
 go_ret
 exact ⟨rfl,rfl⟩
set_option maxHeartbeats 1000000 in
theorem takeVar (g : Nat) (t : ByteArray) (w : World) (hp : Prt w g t) (ht : t.size ≤ 1048576) :
  Calls Tryz.prog 126 #[.pointer (some ⟨g,0,none⟩)] w fun e w' => (∃ k,FindV t k ∧ e = .returned (.int .i64 (vvS t 0 k : Int)) ∧ w.setCell ⟨g,0,none⟩ (.string (t.extract k t.size)) = w') ∨ ((∀ k,¬ FindV t k) ∧ e = .panicked lackP ∧ w = w') := by
 have c := impl_readVar t w ht
 have q2 : (t.size : Int) ≤ 1048576 := by omega
 have hc := hp.cell
 have hf := hp.free
 clear hp ht
 go_enter Tryz.func126,Tryz.ntmps126
 go_wp2_with fail
 refine c.mono ?_
 rintro e w1 ⟨hR,rfl⟩
 rcases hR with ⟨k,hk,rfl⟩ | ⟨hno,rfl⟩
 ·have HK : Hid (FindV t k) := hk
  have k1 := hk.1
  have k3 := hk.2.2.1
  have q3 : (0 : Int) < (k : Int) := by omega
  have q4 : (k : Int) ≤ (t.size : Int) := by omega
  have q5 : decide (0 < k) = true := decide_eq_true (by omega)
  clear hk
  generalize hz : (vvS t 0 k : Int) = z
  have HZ : Hid ((vvS t 0 k : Int) = z) := hz
  clear hz
  go_wp2_with fail
  refine (need_yes _).mono ?_
  rintro e w1 ⟨rfl,rfl⟩
  go_wp2_with fail
  go_ret
  exact .inl ⟨k,HK.out,by rw [HZ.out]; rfl,rfl⟩
 ·have HN : Hid (∀ k,¬ FindV t k) := hno
  clear hno
  go_wp2_with fail
  refine (need_no _).mono ?_
  rintro e w1 ⟨rfl,rfl⟩
  go_wp2_with fail
  exact ⟨rfl,.inr ⟨HN.out,rfl,rfl⟩⟩
theorem PKeep.blk {g b : Nat} {w w' : World} {cs : Array Value} {t : TypeId} (h : PKeep g w w') (hb : Blk w b cs t) (hne : b ≠ g) : Blk w' b cs t := (h.2 b hne hb.lt).trans hb
theorem PKeep.below {g : Nat} {w w' w'' : World} (h : PKeep g w w') (hg : g < w.heap.size) (hb : Below w'.heap.size w' w'') : PKeep g w w'' := h.trans (PKeep.of hb (by have := h.1.size; omega))
theorem takeVarF (g : Nat) (s : ByteArray) (n : Nat) (w : World) (hp : Prt w g (lf s n)) (hs : s.size ≤ 1048576) :
  Calls Tryz.prog 126 #[.pointer (some ⟨g,0,none⟩)] w fun e w' => ((∃ k,FindV (lf s n) k ∧ e = .returned (.int .i64 (vvS (lf s n) 0 k : Int)) ∧ Prt w' g (lf s (n + k))) ∨ ((∀ k,¬ FindV (lf s n) k) ∧ e = .panicked lackP)) ∧ PKeep g w w' := by
 refine (takeVar g (lf s n) w hp (by rw [lf_size]; omega)).mono ?_
 rintro e w' (⟨k,hk,rfl,rfl⟩ | ⟨hn,rfl,rfl⟩)
 ·refine ⟨.inl ⟨k,hk,rfl,?_⟩,(PKeep.refl g w).set 0 _⟩
  rw [lf_lf]
  exact hp.put _
 ·exact ⟨.inr ⟨hn,rfl⟩,PKeep.refl g w⟩
theorem takeRestF (g : Nat) (s : ByteArray) (n : Nat) (w : World) (hp : Prt w g (lf s n)) (hs : s.size ≤ 1048576) :
  Calls Tryz.prog 206 #[.pointer (some ⟨g,0,none⟩)] w fun e w' => e = .returned (.string (lf s n)) ∧ PKeep g w w' := by
 refine (takeRest g (lf s n) w hp (by rw [lf_size]; omega)).mono ?_
 rintro e w' ⟨rfl,rfl⟩
 exact ⟨rfl,(PKeep.refl g w).set 0 _⟩
theorem RdF.snoc {s : ByteArray} {a k n m : Nat} {l : List Int} (h : RdF s a k l n) (hf : FindV (lf s n) m) : RdF s a (k + 1) (l ++ [(vvS (lf s n) 0 m : Int)]) (n + m) := ⟨l,n,m,h,hf,rfl,rfl⟩
def cloneRen : Go.Shelf.Ren := ⟨fun _ => 180,fun | 37 => 68 | 47 => 131 | t => t,fun g => g⟩
theorem clone_lays : Go.Proofs.LaysPu.n25 Tryz.prog cloneRen where
 mixed := by kernel_rfl
 f25 := Tryz.func180.trans (congrArg some (by kernel_rfl))
 t0 := Tryz.underlying0
 a0 := Tryz.isAgg0
 z0 := Tryz.sizeOf0
 v0 := Tryz.zeroValue0
 i0 := by kernel_rfl
 t3 := Tryz.underlying3
 a3 := Tryz.isAgg3
 z3 := Tryz.sizeOf3
 v3 := Tryz.zeroValue3
 i3 := by kernel_rfl
 t4 := Tryz.underlying4
 a4 := Tryz.isAgg4
 z4 := Tryz.sizeOf4
 v4 := Tryz.zeroValue4
 i4 := by kernel_rfl
 t5 := Tryz.underlying5
 a5 := Tryz.isAgg5
 z5 := Tryz.sizeOf5
 v5 := Tryz.zeroValue5
 i5 := by kernel_rfl
 t9 := Tryz.underlying9
 a9 := Tryz.isAgg9
 z9 := Tryz.sizeOf9
 v9 := Tryz.zeroValue9
 i9 := by kernel_rfl
 t37 := Tryz.underlying68
 a37 := Tryz.isAgg68
 z37 := Tryz.sizeOf68
 v37 := Tryz.zeroValue68
 i37 := by kernel_rfl
 t47 := Tryz.underlying131
 a47 := Tryz.isAgg131
 z47 := Tryz.sizeOf131
 v47 := Tryz.zeroValue131
 i47 := by kernel_rfl
theorem clone (s : ByteArray) (w : World) (hs : s.size ≤ 281474976710656) :
  Calls Tryz.prog 153 #[.string s] w fun e w' => e = .returned (.string s) ∧ Below w.heap.size w w' := by
 have c1 : Calls Tryz.prog 180 #[.string s] w fun e w' => e = .returned (.string s) ∧ Below w.heap.size w w' := AnyPu.stringslite_Clone clone_lays s w hs
 clear hs
 go_enter Tryz.func153,Tryz.ntmps153
 go_wp2_with fail
 refine c1.mono ?_
 rintro e w1 ⟨rfl,hb1⟩
 go_wp2_with fail
 go_ret
 exact ⟨rfl,hb1⟩
def ansT (x : Ans) : ByteArray := if ansOk x = true then txt (vF 6 x.code.toNat) ++ txt (vF 6 x.index.toNat) ++ txt (vF 6 x.mark.toNat) ++ x.data else ⟨#[]⟩
def AnsRd (s : ByteArray) (x : Ans) : Prop := ∃ c i m n,RdF s 0 3 [c,i,m] n ∧ x = ⟨c,i,m,lf s n⟩ ∧ ansOk x = true
theorem AnsRd.one {s : ByteArray} {x y : Ans} (h : AnsRd s x) (h' : AnsRd s y) : x = y := by
 obtain ⟨c,i,m,n,h1,rfl,_⟩ := h
 obtain ⟨c',i',m',n',h1',rfl,_⟩ := h'
 obtain ⟨e,rfl⟩ := h1.one h1'
 simp only [List.cons.injEq,and_true] at e
 obtain ⟨rfl,rfl,rfl⟩ := e
 rfl
def AnsA (s : ByteArray) (e : Ending) : Prop := (∃ x,AnsRd s x ∧ e = .returned (.tuple #[vAns x,.bool true])) ∨ ((∀ x,¬ AnsRd s x) ∧ e = .returned (.tuple #[vAns ⟨0,0,0,⟨#[]⟩⟩,.bool false]))
theorem AnsA.form {s : ByteArray} {e : Ending} (h : AnsA s e) : ∃ x b,e = .returned (.tuple #[vAns x,.bool b]) := by
 rcases h with ⟨x,hx,rfl⟩ | ⟨hn,rfl⟩
 ·exact ⟨_,_,rfl⟩
 ·exact ⟨_,_,rfl⟩
theorem below_c2 (w : World) (a b : Obj) : Below w.heap.size w ((w.alloc a).alloc b) := ((Below.refl _ w).alloc (Nat.le_refl _) a).alloc (by simp) b
set_option maxHeartbeats 400000 in
theorem copyAns (x : Ans) (w : World) (hd : x.data.size ≤ 1048576) : Calls Tryz.prog 140 #[vAns x] w fun e w' => e = .returned (vAns x) ∧ Below w.heap.size w w' := by
 obtain ⟨c,i,m,d⟩ := x
 unfold vAns
 simp only at hd ⊢
 have c1 := fun wx => clone d wx (by omega)
 clear hd
 have hb0 := below_c2 w (.cells #[.int .i64 c,.int .i64 i,.int .i64 m,.string d] 51) (.cells #[.int .i64 0,.int .i64 0,.int .i64 0,.string ⟨#[]⟩] 51)
 have k0 := (Blk.new w #[.int .i64 c,.int .i64 i,.int .i64 m,.string d] 51).alloc (.cells #[.int .i64 0,.int .i64 0,.int .i64 0,.string ⟨#[]⟩] 51)
 have k1 := Blk.new (w.alloc (.cells #[.int .i64 c,.int .i64 i,.int .i64 m,.string d] 51)) #[.int .i64 0,.int .i64 0,.int .i64 0,.string ⟨#[]⟩] 51
 rw [World.size_alloc] at k1
 go_enter Tryz.func140,Tryz.ntmps140
 go_wp2_with fail
 generalize (w.alloc (.cells #[.int .i64 c,.int .i64 i,.int .i64 m,.string d] 51)).alloc (.cells #[.int .i64 0,.int .i64 0,.int .i64 0,.string ⟨#[]⟩] 51) = X at *
 refine (c1 _).mono ?_
 rintro e w1 ⟨rfl,hb1⟩
 have m0 := k0.on hb1 k0.lt
 have m1 := k1.on hb1 k1.lt
 have B1 : Hid (Below w.heap.size w (w1.setCell ⟨w.heap.size,3,none⟩ (.string d))) := (hb0.trans (hb1.mono hb0.size)).setCell (Nat.le_refl _) _
 have n0 : Hid (Blk (w1.setCell ⟨w.heap.size,3,none⟩ (.string d)) w.heap.size #[.int .i64 c,.int .i64 i,.int .i64 m,.string d] 51) := m0.set 3 (.string d)
 have n1 : Hid (Blk (w1.setCell ⟨w.heap.size,3,none⟩ (.string d)) (w.heap.size + 1) #[.int .i64 0,.int .i64 0,.int .i64 0,.string ⟨#[]⟩] 51) := m1.other (by omega) 3 _
 have f3 := m0.free 3
 have e3 : w1.cell? ⟨w.heap.size,3,none⟩ = some (.string d) := m0.cell 3 _ rfl
 clear hb0 hb1 c1 k0 k1 m0 m1
 obtain ⟨Y,hY⟩ : ∃ Y,Y = w1.setCell ⟨w.heap.size,3,none⟩ (.string d) := ⟨_,rfl⟩
 rw [← hY] at B1 n0 n1
 obtain ⟨c0,c1,c2,c3⟩ := cellsC4 n0.out
 have R := resC4 (x0 := .int .i64 c) (x1 := .int .i64 i) (x2 := .int .i64 m) (x3 := .string d) n1.out
 obtain ⟨⟨r0,s0⟩,⟨r1,s1⟩,⟨r2,s2⟩,⟨r3,s3⟩,z0,z1,z2,z3⟩ := R
 have B2 : Hid (Below w.heap.size w ((((Y.setCell ⟨w.heap.size + 1,0,none⟩ (.int .i64 c)).setCell ⟨w.heap.size + 1,1,none⟩ (.int .i64 i)).setCell ⟨w.heap.size + 1,2,none⟩ (.int .i64 m)).setCell ⟨w.heap.size + 1,3,none⟩ (.string d))) := belowC4 B1.out (by omega) _ _ _ _
 rw [hY] at c0 c1 c2 c3 r0 r1 r2 r3 s0 s1 s2 s3 z0 z1 z2 z3 B2
 clear hY n0 n1 B1
 go_wp2_with fail
 exact bodyPost_ret (v := .agg #[.int .i64 c,.int .i64 i,.int .i64 m,.string d]) (by simp [results,go_sem,z0,z1,z2,z3]) rfl ⟨rfl,B2.out⟩
theorem Hid.mk {p : Prop} (h : p) : Hid p := h
set_option maxHeartbeats 2000000 in
theorem takeAns (g : Nat) (s : ByteArray) (w : World) (hp : Prt w g s) (hs : s.size ≤ 1048576) :
  Calls Tryz.prog 195 #[.pointer (some ⟨g,0,none⟩)] w fun e w' => ((∃ x,AnsRd s x ∧ e = .returned (vAns x)) ∨ ((∀ x,¬ AnsRd s x) ∧ e = .panicked lackP)) ∧ PKeep g w w' := by
 have HS : Hid (s.size ≤ 1048576) := hs
 have HG := hQz (hp.lt)
 have B0 : Hid (Blk (w.alloc (.cells #[.int .i64 0,.int .i64 0,.int .i64 0,.string ⟨#[]⟩] 51)) w.heap.size #[.int .i64 0,.int .i64 0,.int .i64 0,.string ⟨#[]⟩] 51) := Blk.new _ _ _
 have K0 : Hid (PKeep g w (w.alloc (.cells #[.int .i64 0,.int .i64 0,.int .i64 0,.string ⟨#[]⟩] 51))) := (PKeep.refl g w).alloc hp.lt _
 obtain ⟨n0,hn0⟩ : ∃ n0,n0 = 0 := ⟨0,rfl⟩
 have P0 : Hid (Prt (w.alloc (.cells #[.int .i64 0,.int .i64 0,.int .i64 0,.string ⟨#[]⟩] 51)) g (lf s n0)) := by subst hn0; rw [lf_zero]; exact hp.alloc _
 have R0 : Hid (RdF s 0 0 [] n0) := ⟨rfl,hn0⟩
 clear hp hs hn0
 go_enter Tryz.func195,Tryz.ntmps195
 go_wp2_with fail
 generalize w.alloc (.cells #[.int .i64 0,.int .i64 0,.int .i64 0,.string ⟨#[]⟩] 51) = W at *
 refine (takeVarF g s n0 _ P0.out HS.out).mono ?_
 rintro e w1 ⟨hR,hk⟩
 have K1 := hQz (K0.out.trans hk)
 have B1 := Hid.mk (hk.blk B0.out (by have := HG.out; omega))
 clear hk B0
 rcases hR with ⟨k0,hf,rfl,hp⟩ | ⟨hno,rfl⟩
 rotate_left
 ·have HN : Hid (∀ x,¬ AnsRd s x) := by
   rintro x ⟨c,i,m,n,h1,_⟩
   exact R0.out.no (by omega) hno _ _ h1
  clear hno
  go_wp2_with fail
  exact ⟨rfl,.inr ⟨HN.out,rfl⟩,K1.out⟩
 have P1 := hQz hp
 have R1 := Hid.mk (R0.out.snoc hf)
 generalize n0 + k0 = n1 at P1 R1
 generalize (vvS (lf s n0) 0 k0 : Int) = z0 at *
 clear hf hp P0 K0
 go_wp2_with fail
 refine (takeVarF g s n1 _ P1.out HS.out).mono ?_
 rintro e w2 ⟨hR,hk⟩
 have K2 := hQz (K1.out.trans hk)
 have B2 := Hid.mk (hk.blk B1.out (by have := HG.out; omega))
 clear hk B1
 rcases hR with ⟨k1,hf,rfl,hp⟩ | ⟨hno,rfl⟩
 rotate_left
 ·have HN : Hid (∀ x,¬ AnsRd s x) := by
   rintro x ⟨c,i,m,n,h1,_⟩
   exact R1.out.no (by omega) hno _ _ h1
  clear hno
  go_wp2_with fail
  exact ⟨rfl,.inr ⟨HN.out,rfl⟩,K2.out⟩
 have P2 := hQz hp
 have R2 := Hid.mk (R1.out.snoc hf)
 generalize n1 + k1 = n2 at P2 R2
 generalize (vvS (lf s n1) 0 k1 : Int) = z1 at *
 clear hf hp P1 K1
 go_wp2_with fail
 refine (takeVarF g s n2 _ P2.out HS.out).mono ?_
 rintro e w3 ⟨hR,hk⟩
 have K3 := hQz (K2.out.trans hk)
 have B3 := Hid.mk (hk.blk B2.out (by have := HG.out; omega))
 clear hk B2
 rcases hR with ⟨k2,hf,rfl,hp⟩ | ⟨hno,rfl⟩
 rotate_left
 ·have HN : Hid (∀ x,¬ AnsRd s x) := by
   rintro x ⟨c,i,m,n,h1,_⟩
   exact R2.out.no (by omega) hno _ _ h1
  clear hno
  go_wp2_with fail
  exact ⟨rfl,.inr ⟨HN.out,rfl⟩,K3.out⟩
 have P3 := hQz hp
 have R3 := Hid.mk (R2.out.snoc hf)
 generalize n2 + k2 = n3 at P3 R3
 generalize (vvS (lf s n2) 0 k2 : Int) = z2 at *
 clear hf hp P2 K2
 go_wp2_with fail
 refine (takeRestF g s n3 _ P3.out HS.out).mono ?_
 rintro e w4 ⟨rfl,hk⟩
 have K4 := hQz (K3.out.trans hk)
 have B4 := Hid.mk (hk.blk B3.out (by have := HG.out; omega))
 have HL : Hid ((lf s n3).size ≤ 1048576) := by unfold Hid; rw [lf_size]; have := HS.out; omega
 generalize hd : lf s n3 = d at HL
 have HE : Hid (lf s n3 = d) := hd
 clear hk B3 K3 P3 hd
 obtain ⟨c0,c1,c2,c3⟩ := cellsC4 (Blk.new w4 #[.int .i64 z0,.int .i64 z1,.int .i64 z2,.string d] 51)
 have hsz : w.heap.size ≤ w4.heap.size := K4.out.1.size
 have K5 : Hid (PKeep g w (w4.alloc (.cells #[.int .i64 z0,.int .i64 z1,.int .i64 z2,.string d] 51))) := K4.out.alloc HG.out _
 have B5 := Hid.mk (B4.out.alloc (.cells #[.int .i64 z0,.int .i64 z1,.int .i64 z2,.string d] 51))
 have A5 := Hid.mk (Blk.new w4 #[.int .i64 z0,.int .i64 z1,.int .i64 z2,.string d] 51)
 have HZ : Hid (w.heap.size ≤ w4.heap.size) := hsz
 clear K4 B4 hsz
 go_wp2_with fail
 generalize w4.alloc (.cells #[.int .i64 z0,.int .i64 z1,.int .i64 z2,.string d] 51) = V at *
 refine (implAnswerOk ⟨z0,z1,z2,d⟩ _ (by have := HL.out; simp only [maxLen]; omega)).mono ?_
 rintro e w5 ⟨rfl,hb⟩
 have K6 : Hid (PKeep g w w5) := K5.out.below HG.out hb
 have B6 := Hid.mk (B5.out.on hb B5.out.lt)
 have A6 := Hid.mk (A5.out.on hb A5.out.lt)
 clear hb c0 c1 c2 c3 K5 B5 A5
 cases ho : ansOk ⟨z0,z1,z2,d⟩
 ·have HN : Hid (∀ x,¬ AnsRd s x) := by
   rintro x ⟨c,i,m,n,h1,rfl,h3⟩
   obtain ⟨e,rfl⟩ := h1.one R3.out
   simp only [List.nil_append,List.cons_append,List.cons.injEq,and_true] at e
   obtain ⟨rfl,rfl,rfl⟩ := e
   rw [HE.out,ho] at h3
   cases h3
  clear ho
  go_wp2_with fail
  refine (need_no _).mono ?_
  rintro e w6 ⟨rfl,rfl⟩
  go_wp2_with fail
  exact ⟨rfl,.inr ⟨HN.out,rfl⟩,K6.out⟩
 have HX : Hid (AnsRd s ⟨z0,z1,z2,d⟩) := ⟨z0,z1,z2,n3,R3.out,by rw [HE.out],ho⟩
 clear ho
 go_wp2_with fail
 refine (need_yes _).mono ?_
 rintro e w6 ⟨rfl,rfl⟩
 obtain ⟨c0,c1,c2,c3⟩ := cellsC4 A6.out
 go_wp2_with fail
 refine (copyAns ⟨z0,z1,z2,d⟩ _ HL.out).mono ?_
 rintro e w6 ⟨rfl,hb⟩
 have K7 : Hid (PKeep g w w6) := K6.out.below HG.out hb
 have B7 := Hid.mk (B6.out.on hb B6.out.lt)
 clear hb c0 c1 c2 c3 K6 B6 A6
 unfold vAns
 obtain ⟨⟨r0,s0⟩,⟨r1,s1⟩,⟨r2,s2⟩,⟨r3,s3⟩,y0,y1,y2,y3⟩ := resC4 (x0 := .int .i64 z0) (x1 := .int .i64 z1) (x2 := .int .i64 z2) (x3 := .string d) B7.out
 go_wp2_with fail
 have hgs := Nat.le_of_lt HG.out
 exact bodyPost_ret (v := .agg #[.int .i64 z0,.int .i64 z1,.int .i64 z2,.string d]) (by simp [results,go_sem,y0,y1,y2,y3]) rfl ⟨.inl ⟨_,HX.out,rfl⟩,(((K7.out.setNew (Nat.le_refl _) hgs _ _).setNew (Nat.le_refl _) hgs _ _).setNew (Nat.le_refl _) hgs _ _).setNew (Nat.le_refl _) hgs _ _⟩
theorem getD_in {α : Type} [Inhabited α] (l : List α) (k : Nat) (h : k < l.length) : l.getD k default ∈ l := by
 rw [List.getD_eq_getElem?_getD,List.getElem?_eq_getElem h]
 exact List.getElem_mem h
def vT (z : Int) : ByteArray := txt (vF 6 z.toNat)
theorem vT_size (z : Int) : (vT z).size ≤ 7 := by unfold vT; rw [txt_size]; exact vF_length 6 _
def pcT (s : ByteArray) : ByteArray := vT (s.size : Int) ++ s
theorem pcT_size (s : ByteArray) : (pcT s).size ≤ 7 + s.size := by
 unfold pcT
 rw [ByteArray.size_append]
 have := vT_size (s.size : Int)
 omega
def catT {α : Type} (f : α → ByteArray) : List α → ByteArray
 | [] => ByteArray.empty
 | x :: l => f x ++ catT f l
theorem catT_append {α : Type} (f : α → ByteArray) (l m : List α) : catT f (l ++ m) = catT f l ++ catT f m := by
 induction l with
 | nil => simp [catT]
 | cons x l ih => simp [catT,ih,ByteArray.append_assoc]
theorem catT_snoc {α : Type} [Inhabited α] (f : α → ByteArray) (l : List α) (k : Nat) (h : k < l.length) : catT f (l.take (k + 1)) = catT f (l.take k) ++ f (l.getD k default) := by
 rw [take_getD l k h,catT_append]
 simp [catT]
theorem catT_size {α : Type} (f : α → ByteArray) (l : List α) (b : Nat) (h : ∀ x ∈ l,(f x).size ≤ b) : (catT f l).size ≤ l.length * b := by
 induction l with
 | nil => simp [catT]
 | cons x l ih =>
  have h1 := h x (by simp)
  have h2 := ih (fun y hy => h y (by simp [hy]))
  simp only [catT,ByteArray.size_append,List.length_cons]
  rw [Nat.add_mul]
  omega
theorem catT_take_size {α : Type} (f : α → ByteArray) (l : List α) (b k : Nat) (h : ∀ x ∈ l,(f x).size ≤ b) : (catT f (l.take k)).size ≤ l.length * b := by
 refine Nat.le_trans (catT_size f (l.take k) b fun x hx => h x (List.mem_of_mem_take hx)) (Nat.mul_le_mul_right _ ?_)
 rw [List.length_take]
 omega
def bkT (b : Pnt) : ByteArray := vT b.t ++ vT b.v
def seT (s : Ses) : ByteArray := vT s.client ++ vT s.serial ++ pcT (ansT s.ans)
theorem bkT_size (b : Pnt) : (bkT b).size ≤ 14 := by
 unfold bkT
 rw [ByteArray.size_append]
 have := vT_size b.t
 have := vT_size b.v
 omega
theorem ansT_size (x : Ans) : (ansT x).size ≤ 921 := by
 unfold ansT
 split
 ·rename_i h
  unfold ansOk inRg at h
  simp only [Bool.and_eq_true,decide_eq_true_eq] at h
  simp only [ByteArray.size_append,txt_size]
  have := vF_length 6 x.code.toNat
  have := vF_length 6 x.index.toNat
  have := vF_length 6 x.mark.toNat
  omega
 ·exact Nat.zero_le _
theorem seT_size (s : Ses) : (seT s).size ≤ 942 := by
 unfold seT
 simp only [ByteArray.size_append]
 have := vT_size s.client
 have := vT_size s.serial
 have := pcT_size (ansT s.ans)
 have := ansT_size s.ans
 omega
def im1 (x : Sta) : ByteArray := txt [byt x.kind.toNat] ++ vT x.hold ++ vT x.mark ++ vT (x.bks.length : Int)
def im2 (x : Sta) : ByteArray := vT x.eng.floor ++ pcT (fileT x.eng.cache) ++ vT (x.eng.files.length : Int)
def imT (x : Sta) : ByteArray := im1 x ++ catT bkT x.bks ++ im2 x ++ catT pcT x.eng.files ++ vT (x.ses.length : Int) ++ catT seT x.ses
open Classical in
noncomputable def staT (x : Sta) : ByteArray := if staOk x = true then imT x else ⟨#[]⟩
theorem im1_size (x : Sta) : (im1 x).size ≤ 22 := by
 unfold im1
 simp only [ByteArray.size_append]
 have := vT_size x.hold
 have := vT_size x.mark
 have := vT_size (x.bks.length : Int)
 have : (txt [byt x.kind.toNat]).size = 1 := by rw [txt_size]; rfl
 omega
theorem im2_size (x : Sta) : (im2 x).size ≤ 5025 := by
 unfold im2
 simp only [ByteArray.size_append]
 have := vT_size x.eng.floor
 have := pcT_size (fileT x.eng.cache)
 have := fileT_size x.eng.cache
 have := vT_size (x.eng.files.length : Int)
 omega
theorem isF_size {s : ByteArray} (h : isF s) : s.size ≤ 5004 := by
 obtain ⟨m,_,_,h⟩ := h
 rw [← h]
 exact fileT_size m
theorem staOk_in {x : Sta} (h : staOk x = true) : (1 ≤ x.kind ∧ x.kind ≤ 2) ∧ (0 ≤ x.hold ∧ x.hold ≤ 100000) ∧ (0 ≤ x.mark ∧ x.mark ≤ 1099511627776) ∧ x.bks.length ≤ 12 ∧ bokFrom 0 x.bks = true ∧
  (0 ≤ x.eng.floor ∧ x.eng.floor ≤ 1099511627776) ∧ x.eng.files.length ≤ 4 ∧ SOk x.eng.cache ∧ (∀ s ∈ x.eng.files,isF s) ∧ x.ses.length ≤ 4 ∧ sesFrom 1 x.ses = true := by
 unfold staOk at h
 rw [Bool.and_eq_true] at h
 obtain ⟨hs,h⟩ := h
 have h4 : x.ses.length ≤ 4 := by
  rcases ses_few x.ses 1 hs with e | e
  ·rw [e]; exact Nat.zero_le _
  ·omega
 by_cases k1 : x.kind = 1
 ·rw [if_pos k1] at h
  unfold metaB zeroB at h
  simp only [Bool.and_eq_true,decide_eq_true_eq,inRg_true] at h
  obtain ⟨⟨⟨⟨⟨⟨a1,a2⟩,a3,a4⟩,a5⟩,a6⟩,a7⟩,⟨a8,a9⟩,a10⟩ := h
  have e1 := List.length_eq_zero_iff.1 a9
  have e2 := List.length_eq_zero_iff.1 a10
  refine ⟨by omega,by omega,by omega,a5,a6,by omega,by omega,?_,?_,h4,hs⟩
  ·rw [e1]; exact ⟨by simp,fun j hj => by cases hj⟩
  ·rw [e2]; intro s hs; cases hs
 ·rw [if_neg k1] at h
  by_cases k2 : x.kind = 2
  ·rw [if_pos k2] at h
   unfold shardB at h
   simp only [Bool.and_eq_true,decide_eq_true_eq] at h
   obtain ⟨⟨⟨a1,a2⟩,a3⟩,⟨a4,a5,a6,a7,a8⟩,a9,a10⟩ := h
   have e1 := List.length_eq_zero_iff.1 a3
   exact ⟨by omega,by omega,by omega,by omega,by rw [e1]; rfl,a4,a5,a6,a9,h4,hs⟩
  ·rw [if_neg k2] at h
   cases h
theorem imT_size {x : Sta} (h : staOk x = true) : (imT x).size ≤ 30000 := by
 obtain ⟨_,_,_,a1,_,_,a2,_,a3,a4,_⟩ := staOk_in h
 have h1 := im1_size x
 have h2 := im2_size x
 have h3 := catT_size bkT x.bks 14 fun b _ => bkT_size b
 have h4 := catT_size pcT x.eng.files 5011 fun s hs => by have := pcT_size s; have := isF_size (a3 s hs); omega
 have h5 := catT_size seT x.ses 942 fun s _ => seT_size s
 have h6 := vT_size (x.ses.length : Int)
 unfold imT
 simp only [ByteArray.size_append]
 have b1 : x.bks.length * 14 ≤ 12 * 14 := Nat.mul_le_mul_right _ a1
 have b2 : x.eng.files.length * 5011 ≤ 4 * 5011 := Nat.mul_le_mul_right _ a2
 have b3 : x.ses.length * 942 ≤ 4 * 942 := Nat.mul_le_mul_right _ a4
 omega
theorem staT_yes {x : Sta} (h : staOk x = true) : staT x = imT x := by unfold staT; rw [if_pos h]
theorem staT_no {x : Sta} (h : staOk x = false) : staT x = ⟨#[]⟩ := by unfold staT; rw [h]; rfl
theorem bok_in : ∀ (l : List Pnt) (a : Int),0 ≤ a → bokFrom a l = true → ∀ k,k < l.length → (0 ≤ (l.getD k default).t ∧ (l.getD k default).t ≤ 10995116277) ∧ 0 ≤ (l.getD k default).v ∧ (l.getD k default).v ≤ 1
 | [],a,ha,h,k,hk => by cases hk
 | b :: l,a,ha,h,k,hk => by
  unfold bokFrom at h
  simp only [Bool.and_eq_true,inRg_true] at h
  obtain ⟨⟨⟨h1,h2⟩,h3,h4⟩,h5⟩ := h
  cases k with
  | zero => simp only [List.getD_cons_zero]; omega
  | succ k =>
   simp only [List.getD_cons_succ]
   exact bok_in l _ (by omega) h5 k (by simpa using hk)
theorem ses_in : ∀ (l : List Ses) (a : Int),0 ≤ a → sesFrom a l = true → ∀ k,k < l.length → (0 ≤ (l.getD k default).client ∧ (l.getD k default).client ≤ 4) ∧ (0 ≤ (l.getD k default).serial ∧ (l.getD k default).serial ≤ 1000000) ∧ ansOk (l.getD k default).ans = true
 | [],a,ha,h,k,hk => by cases hk
 | b :: l,a,ha,h,k,hk => by
  unfold sesFrom at h
  simp only [Bool.and_eq_true,inRg_true] at h
  obtain ⟨⟨⟨⟨h1,h2⟩,h3,h4⟩,h6⟩,h5⟩ := h
  cases k with
  | zero => simp only [List.getD_cons_zero]; exact ⟨by omega,by omega,h6⟩
  | succ k =>
   simp only [List.getD_cons_succ]
   exact ses_in l _ (by omega) h5 k (by simpa using hk)
def RdL {α : Type} (P : Nat → α → Nat → Prop) (a : Nat) : Nat → List α → Nat → Prop
 | 0,l,n => l = [] ∧ n = a
 | k + 1,l,n => ∃ l' n' y,RdL P a k l' n' ∧ P n' y n ∧ l = l' ++ [y]
def OneP {α : Type} (P : Nat → α → Nat → Prop) : Prop := ∀ a y y' n n',P a y n → P a y' n' → y = y' ∧ n = n'
theorem RdL.one {α : Type} {P : Nat → α → Nat → Prop} (hP : OneP P) {a : Nat} : ∀ {k : Nat} {l l' : List α} {n n' : Nat},RdL P a k l n → RdL P a k l' n' → l = l' ∧ n = n'
 | 0,_,_,_,_,h,h' => ⟨h.1.trans h'.1.symm,h.2.trans h'.2.symm⟩
 | k + 1,_,_,_,_,⟨a,b,y,h1,h2,h3⟩,⟨a',b',y',h1',h2',h3'⟩ => by
  obtain ⟨rfl,rfl⟩ := RdL.one hP h1 h1'
  obtain ⟨rfl,rfl⟩ := hP _ _ _ _ _ h2 h2'
  exact ⟨h3.trans h3'.symm,rfl⟩
theorem RdL.before {α : Type} {P : Nat → α → Nat → Prop} {a : Nat} : ∀ {k : Nat} {l : List α} {n : Nat},RdL P a k l n → ∀ j,j < k → ∃ l' n' y n2,RdL P a j l' n' ∧ P n' y n2
 | 0,_,_,_,j,hj => by omega
 | k + 1,_,_,⟨a,b,m,h1,h2,h3⟩,j,hj => by
  by_cases e : j = k
  ·subst e; exact ⟨a,b,m,_,h1,h2⟩
  ·exact RdL.before h1 j (by omega)
theorem RdL.no {α : Type} {P : Nat → α → Nat → Prop} (hP : OneP P) {a k j : Nat} {l : List α} {n : Nat} (h1 : RdL P a j l n) (hj : j < k) (h2 : ∀ y m,¬ P n y m) : ∀ l' n',¬ RdL P a k l' n' := by
 intro l' n' h
 obtain ⟨l2,n2,y,m,h3,h4⟩ := h.before j hj
 obtain ⟨rfl,rfl⟩ := h1.one hP h3
 exact h2 y m h4
theorem RdL.length {α : Type} {P : Nat → α → Nat → Prop} {a : Nat} : ∀ {k : Nat} {l : List α} {n : Nat},RdL P a k l n → l.length = k
 | 0,_,_,h => by rw [h.1]; rfl
 | k + 1,_,_,⟨a,b,m,h1,h2,h3⟩ => by rw [h3,List.length_append,RdL.length h1]; rfl
theorem ex_cat (s : ByteArray) (a b c : Nat) (h1 : a ≤ b) (h2 : b ≤ c) : s.extract a c = s.extract a b ++ s.extract b c := by
 rw [ByteArray.extract_append_extract]
 congr 1 <;> omega
theorem RdL.text {α : Type} {P : Nat → α → Nat → Prop} {T : α → ByteArray} {s : ByteArray} (hT : ∀ a y n,P a y n → s.extract a n = T y ∧ a ≤ n ∧ n ≤ s.size) {a : Nat} (ha : a ≤ s.size) : ∀ {k : Nat} {l : List α} {n : Nat},RdL P a k l n → s.extract a n = catT T l ∧ a ≤ n ∧ n ≤ s.size
 | 0,_,_,h => by rw [h.1,h.2]; exact ⟨by apply ByteArray.ext; simp [catT],Nat.le_refl _,ha⟩
 | k + 1,_,_,⟨l,b,y,h1,h2,h3⟩ => by
  obtain ⟨e1,e2,e3⟩ := RdL.text hT ha h1
  obtain ⟨f1,f2,f3⟩ := hT _ _ _ h2
  refine ⟨?_,by omega,f3⟩
  rw [ex_cat s a b _ e2 f2,e1,f1,h3,catT_append]
  simp [catT]
theorem RdF.inS {s : ByteArray} {a k n : Nat} {l : List Int} (h : RdF s a (k + 1) l n) : a ≤ n ∧ n ≤ s.size := ⟨by have := h.ge.1; omega,h.ge.2 (by omega)⟩
theorem RdF.text1 {s : ByteArray} {a n : Nat} {z : Int} (h : RdF s a 1 [z] n) : s.extract a n = vT z := by rw [h.text]; simp [varsT,vT]
theorem RdF.text2 {s : ByteArray} {a n : Nat} {y z : Int} (h : RdF s a 2 [y,z] n) : s.extract a n = vT y ++ vT z := by rw [h.text]; simp [varsT,vT]
theorem RdF.text3 {s : ByteArray} {a n : Nat} {x y z : Int} (h : RdF s a 3 [x,y,z] n) : s.extract a n = vT x ++ vT y ++ vT z := by rw [h.text]; simp [varsT,vT,ByteArray.append_assoc]
def PcRd (s : ByteArray) (a : Nat) (t : ByteArray) (n : Nat) : Prop := ∃ n',RdF s a 1 [(t.size : Int)] n' ∧ n = n' + t.size ∧ n ≤ s.size ∧ t = s.extract n' n
theorem PcRd.onep (s : ByteArray) : OneP (PcRd s) := by
 rintro a y y' n n' ⟨b,h1,h2,h3,h4⟩ ⟨b',h1',h2',h3',h4'⟩
 obtain ⟨e,rfl⟩ := h1.one h1'
 simp only [List.cons.injEq,and_true] at e
 have e2 : y.size = y'.size := by omega
 have e3 : n = n' := by omega
 subst e3
 exact ⟨h4.trans h4'.symm,rfl⟩
theorem PcRd.text {s : ByteArray} {a n : Nat} {t : ByteArray} (h : PcRd s a t n) : s.extract a n = pcT t ∧ a ≤ n ∧ n ≤ s.size := by
 obtain ⟨b,h1,h2,h3,h4⟩ := h
 have h5 := h1.inS
 refine ⟨?_,by omega,h3⟩
 rw [ex_cat s a b n h5.1 (by omega),h1.text1,← h4]
 rfl
def BkRd (s : ByteArray) (a : Nat) (b : Pnt) (n : Nat) : Prop := RdF s a 2 [b.t,b.v] n
theorem BkRd.onep (s : ByteArray) : OneP (BkRd s) := by
 rintro a ⟨t,v⟩ ⟨t',v'⟩ n n' h h'
 obtain ⟨e,rfl⟩ := RdF.one h h'
 simp only [List.cons.injEq,and_true] at e
 obtain ⟨rfl,rfl⟩ := e
 exact ⟨rfl,rfl⟩
theorem BkRd.text {s : ByteArray} {a n : Nat} {b : Pnt} (h : BkRd s a b n) : s.extract a n = bkT b ∧ a ≤ n ∧ n ≤ s.size := ⟨RdF.text2 h,RdF.inS h⟩
def SeRd (s : ByteArray) (a : Nat) (y : Ses) (n : Nat) : Prop := ∃ b t,RdF s a 2 [y.client,y.serial] b ∧ PcRd s b t n ∧ AnsRd t y.ans
theorem SeRd.onep (s : ByteArray) : OneP (SeRd s) := by
 rintro a ⟨c,r,k,i,m,d⟩ ⟨c',r',k',i',m',d'⟩ n n' ⟨b,t,h1,h2,h3⟩ ⟨b',t',h1',h2',h3'⟩
 obtain ⟨e,rfl⟩ := RdF.one h1 h1'
 simp only [List.cons.injEq,and_true] at e
 obtain ⟨rfl,rfl⟩ := e
 obtain ⟨rfl,rfl⟩ := PcRd.onep s _ _ _ _ _ h2 h2'
 have e := h3.one h3'
 unfold Ses.ans at e
 simp only [Ans.mk.injEq] at e
 obtain ⟨rfl,rfl,rfl,rfl⟩ := e
 exact ⟨rfl,rfl⟩
theorem AnsRd.text {s : ByteArray} {x : Ans} (h : AnsRd s x) : ansT x = s := by
 obtain ⟨c,i,m,n,h1,rfl,h3⟩ := h
 unfold ansT
 rw [if_pos h3]
 have h4 := h1.inS
 have h5 := h1.text3
 unfold vT at h5
 simp only
 rw [← h5]
 exact (cut_in_two s n h4.2).symm
theorem SeRd.text {s : ByteArray} {a n : Nat} {y : Ses} (h : SeRd s a y n) : s.extract a n = seT y ∧ a ≤ n ∧ n ≤ s.size := by
 obtain ⟨b,t,h1,h2,h3⟩ := h
 have h4 := h1.inS
 have h5 := h2.text
 refine ⟨?_,by omega,h5.2.2⟩
 rw [ex_cat s a b n h4.1 h5.2.1,h1.text2,h5.1,← h3.text]
 rfl
def CaRd (c : ByteArray) (l : List Ser) : Prop := (c = ByteArray.empty ∧ l = []) ∨ (c ≠ ByteArray.empty ∧ GoodF c l)
def CaSp (c : ByteArray) (l : List Ser) : Prop := (c = ByteArray.empty ∧ l = []) ∨ (c ≠ ByteArray.empty ∧ (GoodF c l ∨ (l = [] ∧ ∀ m,¬ GoodF c m)))
def kB (s : ByteArray) : Nat := bn s 0
def StaP (s : ByteArray) (x : Sta) (c : ByteArray) : Prop := ∃ n1 n2 n3 n4 n5 n6 n7,RdF s 1 3 [x.hold,x.mark,(x.bks.length : Int)] n1 ∧ x.kind = (kB s : Int) ∧ x.bks.length ≤ 12 ∧ RdL (BkRd s) n1 x.bks.length x.bks n2 ∧ RdF s n2 1 [x.eng.floor] n3 ∧ PcRd s n3 c n4 ∧
 RdF s n4 1 [(x.eng.files.length : Int)] n5 ∧ x.eng.files.length ≤ 4 ∧ RdL (PcRd s) n5 x.eng.files.length x.eng.files n6 ∧ RdF s n6 1 [(x.ses.length : Int)] n7 ∧ x.ses.length ≤ 4 ∧ RdL (SeRd s) n7 x.ses.length x.ses s.size
def StaRd (s : ByteArray) (x : Sta) : Prop := (∃ c,StaP s x c ∧ CaRd c x.eng.cache) ∧ staOk x = true
theorem kB_text (s : ByteArray) (h : 1 ≤ s.size) : txt [byt (kB s)] = s.extract 0 1 := (sg_extract s 1 h).symm
def catP (x : Sta) (c : ByteArray) : ByteArray := im1 x ++ catT bkT x.bks ++ (vT x.eng.floor ++ pcT c ++ vT (x.eng.files.length : Int)) ++ catT pcT x.eng.files ++ vT (x.ses.length : Int) ++ catT seT x.ses
theorem StaP.text {s : ByteArray} {x : Sta} {c : ByteArray} (h : StaP s x c) : s = catP x c := by
 obtain ⟨n1,n2,n3,n4,n5,n6,n7,h1,h2,h3,h4,h5,h6,h8,h9,h10,h11,h12,h13⟩ := h
 have i1 := h1.inS
 obtain ⟨t4,i4⟩ := h4.text (s := s) (T := bkT) (fun a y n h => BkRd.text h) (by omega)
 have i5 := h5.inS
 obtain ⟨t6,i6⟩ := h6.text
 have i8 := h8.inS
 obtain ⟨t10,i10⟩ := h10.text (s := s) (T := pcT) (fun a y n h => PcRd.text h) (by omega)
 have i11 := h11.inS
 obtain ⟨t13,i13⟩ := h13.text (s := s) (T := seT) (fun a y n h => SeRd.text h) (by omega)
 have g1 : 1 ≤ s.size := by omega
 have e0 : s = s.extract 0 s.size := ByteArray.extract_zero_size.symm
 have e1 : im1 x = s.extract 0 n1 := by
  unfold im1
  rw [ex_cat s 0 1 n1 (by omega) (by omega),h1.text3,← kB_text s g1,h2,Int.toNat_natCast]
  simp [ByteArray.append_assoc]
 unfold catP
 rw [e1,← t4,← h5.text1,← t6,← h8.text1,← t10,← h11.text1,← t13]
 rw [← ex_cat s n2 n3 n4 (by omega) (by omega),← ex_cat s n2 n4 n5 (by omega) (by omega),← ex_cat s 0 n1 n2 (by omega) (by omega),← ex_cat s 0 n2 n5 (by omega) (by omega),← ex_cat s 0 n5 n6 (by omega) (by omega),← ex_cat s 0 n6 n7 (by omega) (by omega),← ex_cat s 0 n7 s.size (by omega) (by omega)]
 exact e0
theorem CaRd.text {c : ByteArray} {l : List Ser} (h : CaRd c l) : fileT l = c := by
 rcases h with ⟨rfl,rfl⟩ | ⟨_,h⟩
 ·unfold fileT; rw [if_neg (by simp)]; rfl
 ·exact h.2.2
theorem catP_imT {x : Sta} {c : ByteArray} (h : fileT x.eng.cache = c) : catP x c = imT x := by unfold catP imT im2; rw [h]
theorem StaRd.text {s : ByteArray} {x : Sta} (h : StaRd s x) : staT x = s := by
 obtain ⟨⟨c,h1,h2⟩,h3⟩ := h
 rw [staT_yes h3,← catP_imT h2.text,← h1.text]
theorem StaRd.short {s : ByteArray} {x : Sta} (h : StaRd s x) : s.size ≤ 30000 := by
 rw [← h.text,staT_yes h.2]
 exact imT_size h.2
theorem vT_pos (z : Int) : 1 ≤ (vT z).size := by unfold vT; rw [txt_size]; exact vF_pos 6 _
theorem not_text {s : ByteArray} {x : Sta} {c : ByteArray} (h : StaP s x c) (hc : CaSp c x.eng.cache) (hn : ¬ CaRd c x.eng.cache) : imT x ≠ s := by
 intro e
 have h1 := h.text
 rw [← e] at h1
 have h2 := congrArg ByteArray.size h1
 unfold imT catP im2 at h2
 simp only [ByteArray.size_append] at h2
 rcases hc with h' | ⟨h3,h4 | ⟨h4,_⟩⟩
 ·exact hn (.inl h')
 ·exact hn (.inr ⟨h3,h4⟩)
 ·rw [h4] at h2
  have e1 : fileT [] = ByteArray.empty := by unfold fileT; rw [if_neg (by simp)]; rfl
  rw [e1] at h2
  have h5 : (pcT ByteArray.empty).size = 1 := by unfold pcT vT; rw [ByteArray.size_append,txt_size]; rfl
  have h6 : 1 + c.size ≤ (pcT c).size := by unfold pcT; rw [ByteArray.size_append]; have := vT_pos (c.size : Int); omega
  have h7 : c.size ≠ 0 := fun e => h3 (ByteArray.size_eq_zero_iff.1 e)
  omega
def Q7 (s : ByteArray) (n : Nat) (ses : List Ses) : Prop := ∃ n7,RdF s n 1 [(ses.length : Int)] n7 ∧ ses.length ≤ 4 ∧ RdL (SeRd s) n7 ses.length ses s.size
def Qf (s : ByteArray) (n nf : Nat) (fs : List ByteArray) (ses : List Ses) : Prop := ∃ n6,RdL (PcRd s) n nf fs n6 ∧ Q7 s n6 ses
def Q5 (s : ByteArray) (n : Nat) (fs : List ByteArray) (ses : List Ses) : Prop := ∃ n5,RdF s n 1 [(fs.length : Int)] n5 ∧ fs.length ≤ 4 ∧ Qf s n5 fs.length fs ses
def Q4 (s : ByteArray) (n : Nat) (c : ByteArray) (fs : List ByteArray) (ses : List Ses) : Prop := ∃ n4,PcRd s n c n4 ∧ Q5 s n4 fs ses
def Q3 (s : ByteArray) (n : Nat) (fl : Int) (c : ByteArray) (fs : List ByteArray) (ses : List Ses) : Prop := ∃ n3,RdF s n 1 [fl] n3 ∧ Q4 s n3 c fs ses
def Qb (s : ByteArray) (n nb : Nat) (bks : List Pnt) (fl : Int) (c : ByteArray) (fs : List ByteArray) (ses : List Ses) : Prop := ∃ n2,RdL (BkRd s) n nb bks n2 ∧ Q3 s n2 fl c fs ses
def NoP (s : ByteArray) : Prop := ∀ x c,¬ StaP s x c
theorem StaP.qb {s : ByteArray} {x : Sta} {c : ByteArray} (h : StaP s x c) : ∃ n1,RdF s 1 3 [x.hold,x.mark,(x.bks.length : Int)] n1 ∧ x.bks.length ≤ 12 ∧ Qb s n1 x.bks.length x.bks x.eng.floor c x.eng.files x.ses := by
 obtain ⟨n1,n2,n3,n4,n5,n6,n7,h1,h2,h3,h4,h5,h6,h8,h9,h10,h11,h12,h13⟩ := h
 exact ⟨n1,h1,h3,n2,h4,n3,h5,n4,h6,n5,h8,h9,n6,h10,n7,h11,h12,h13⟩
theorem StaP.of {s : ByteArray} {x : Sta} {c : ByteArray} {n1 : Nat} (h1 : RdF s 1 3 [x.hold,x.mark,(x.bks.length : Int)] n1) (h2 : x.kind = (kB s : Int)) (h3 : x.bks.length ≤ 12) (h : Qb s n1 x.bks.length x.bks x.eng.floor c x.eng.files x.ses) : StaP s x c := by
 obtain ⟨n2,h4,n3,h5,n4,h6,n5,h8,h9,n6,h10,n7,h11,h12,h13⟩ := h
 exact ⟨n1,n2,n3,n4,n5,n6,n7,h1,h2,h3,h4,h5,h6,h8,h9,h10,h11,h12,h13⟩
theorem ref1 {s : ByteArray} {a b : Int} {nb n1 : Nat} (h : RdF s 1 3 [a,b,(nb : Int)] n1) (hn : ∀ bks fl c fs ses,¬ Qb s n1 nb bks fl c fs ses) : NoP s := by
 intro x c hx
 obtain ⟨m,h1,h2,h3⟩ := hx.qb
 obtain ⟨e,rfl⟩ := h1.one h
 simp only [List.cons.injEq,and_true] at e
 have e3 : x.bks.length = nb := by omega
 rw [e3] at h3
 exact hn _ _ _ _ _ h3
theorem ref1no {s : ByteArray} (hn : ∀ a b (nb n1 : Nat),RdF s 1 3 [a,b,(nb : Int)] n1 → nb ≤ 12 → False) : NoP s := by
 intro x c hx
 obtain ⟨m,h1,h2,h3⟩ := hx.qb
 exact hn _ _ _ _ h1 h2
theorem refb {s : ByteArray} {n1 nb n2 : Nat} {bks : List Pnt} (h : RdL (BkRd s) n1 nb bks n2) (hn : ∀ fl c fs ses,¬ Q3 s n2 fl c fs ses) : ∀ bks fl c fs ses,¬ Qb s n1 nb bks fl c fs ses := by
 rintro b fl c fs ses ⟨m,h1,h2⟩
 obtain ⟨rfl,rfl⟩ := h1.one (BkRd.onep s) h
 exact hn _ _ _ _ h2
theorem refbno {s : ByteArray} {n1 nb : Nat} (h : ∀ l n,¬ RdL (BkRd s) n1 nb l n) : ∀ bks fl c fs ses,¬ Qb s n1 nb bks fl c fs ses := by
 rintro b fl c fs ses ⟨m,h1,h2⟩
 exact h _ _ h1
theorem ref3 {s : ByteArray} {n2 n3 : Nat} {f : Int} (h : RdF s n2 1 [f] n3) (hn : ∀ c fs ses,¬ Q4 s n3 c fs ses) : ∀ fl c fs ses,¬ Q3 s n2 fl c fs ses := by
 rintro fl c fs ses ⟨m,h1,h2⟩
 obtain ⟨e,rfl⟩ := h1.one h
 exact hn _ _ _ h2
theorem ref3no {s : ByteArray} {n2 : Nat} (h : ∀ l n,¬ RdF s n2 1 l n) : ∀ fl c fs ses,¬ Q3 s n2 fl c fs ses := by
 rintro fl c fs ses ⟨m,h1,h2⟩
 exact h _ _ h1
theorem ref4 {s : ByteArray} {n3 n4 : Nat} {t : ByteArray} (h : PcRd s n3 t n4) (hn : ∀ fs ses,¬ Q5 s n4 fs ses) : ∀ c fs ses,¬ Q4 s n3 c fs ses := by
 rintro c fs ses ⟨m,h1,h2⟩
 obtain ⟨rfl,rfl⟩ := PcRd.onep s _ _ _ _ _ h1 h
 exact hn _ _ h2
theorem ref4no {s : ByteArray} {n3 : Nat} (h : ∀ t n,¬ PcRd s n3 t n) : ∀ c fs ses,¬ Q4 s n3 c fs ses := by
 rintro c fs ses ⟨m,h1,h2⟩
 exact h _ _ h1
theorem ref5 {s : ByteArray} {n4 nf n5 : Nat} (h : RdF s n4 1 [(nf : Int)] n5) (hn : ∀ fs ses,¬ Qf s n5 nf fs ses) : ∀ fs ses,¬ Q5 s n4 fs ses := by
 rintro fs ses ⟨m,h1,h2,h3⟩
 obtain ⟨e,rfl⟩ := h1.one h
 simp only [List.cons.injEq,and_true] at e
 have e3 : fs.length = nf := by omega
 rw [e3] at h3
 exact hn _ _ h3
theorem ref5no {s : ByteArray} {n4 : Nat} (hn : ∀ (nf n5 : Nat),RdF s n4 1 [(nf : Int)] n5 → nf ≤ 4 → False) : ∀ fs ses,¬ Q5 s n4 fs ses := by
 rintro fs ses ⟨m,h1,h2,h3⟩
 exact hn _ _ h1 h2
theorem reff {s : ByteArray} {n5 nf n6 : Nat} {l : List ByteArray} (h : RdL (PcRd s) n5 nf l n6) (hn : ∀ ses,¬ Q7 s n6 ses) : ∀ fs ses,¬ Qf s n5 nf fs ses := by
 rintro fs ses ⟨m,h1,h2⟩
 obtain ⟨rfl,rfl⟩ := h1.one (PcRd.onep s) h
 exact hn _ h2
theorem reffno {s : ByteArray} {n5 nf : Nat} (h : ∀ l n,¬ RdL (PcRd s) n5 nf l n) : ∀ fs ses,¬ Qf s n5 nf fs ses := by
 rintro fs ses ⟨m,h1,h2⟩
 exact h _ _ h1
theorem ref7 {s : ByteArray} {n6 ns n7 : Nat} (h : RdF s n6 1 [(ns : Int)] n7) (hn : ∀ ses,¬ RdL (SeRd s) n7 ns ses s.size) : ∀ ses,¬ Q7 s n6 ses := by
 rintro ses ⟨m,h1,h2,h3⟩
 obtain ⟨e,rfl⟩ := h1.one h
 simp only [List.cons.injEq,and_true] at e
 have e3 : ses.length = ns := by omega
 rw [e3] at h3
 exact hn _ h3
theorem ref7no {s : ByteArray} {n6 : Nat} (hn : ∀ (ns n7 : Nat),RdF s n6 1 [(ns : Int)] n7 → ns ≤ 4 → False) : ∀ ses,¬ Q7 s n6 ses := by
 rintro ses ⟨m,h1,h2,h3⟩
 exact hn _ _ h1 h2
theorem refs {s : ByteArray} {n7 ns n8 : Nat} {l : List Ses} (h : RdL (SeRd s) n7 ns l n8) (hn : n8 ≠ s.size) : ∀ ses,¬ RdL (SeRd s) n7 ns ses s.size := by
 rintro ses h1
 exact hn (h.one (SeRd.onep s) h1).2
theorem RdL.snoc {α : Type} {P : Nat → α → Nat → Prop} {a k : Nat} {l : List α} {n n' : Nat} {y : α} (h : RdL P a k l n) (h' : P n y n') : RdL P a (k + 1) (l ++ [y]) n' := ⟨l,n,y,h,h',rfl⟩
theorem RdL.zero {α : Type} (P : Nat → α → Nat → Prop) (a : Nat) : RdL P a 0 [] a := ⟨rfl,rfl⟩
theorem catchAns_panicking (u : TypeId) (pv : Value) (older : List PanicEntry) (w : World) :
  CallsD Tryz.prog 205 #[] (.panicking ({ v := .iface u pv,recovered := false } :: older)) w fun e u' w' =>
   e = .returned (.tuple #[]) ∧ u' = .panicking ({ v := .iface u pv,recovered := true } :: older) ∧ w' = w := by
 refine callsD_of_wpS Tryz.func205 rfl fun c₀ cs hu => ?_
 apply wpS_region
 simp [wpOpsS,go_sem,recoverD,hu,Tryz.ntmps205,bodyPostS,results,Tryz.results205]
theorem catchAns_idle (w : World) :
  CallsD Tryz.prog 205 #[] .returning w fun e u' w' => e = .returned (.tuple #[]) ∧ u' = .returning ∧ w' = w := by
 refine callsD_of_wpS Tryz.func205 rfl fun c₀ cs hu => ?_
 apply wpS_region
 simp [wpOpsS,go_sem,recoverD,hu,Tryz.ntmps205,bodyPostS,results,Tryz.results205]
 cases c₀
 simp_all
set_option maxHeartbeats 2000000 in
theorem partsAns (s : ByteArray) (w : World) (hs : s.size ≤ 1048576) :
  Calls Tryz.prog 194 #[.string s,.func (.func 195) #[] #[]] w fun e w' => AnsA s e ∧ Below w.heap.size w w' := by
 have hmf : ∀ (fn : Fn) (first cap : Array Value) (w : World),(Instr.makeFunc fn first cap).run Tryz.prog w = .ok (.func fn first cap) w := fun _ _ _ _ => rfl
 have k0 := (Blk.new w #[.int .i64 0,.int .i64 0,.int .i64 0,.string ⟨#[]⟩] 51).alloc (.cells #[.string s] 141)
 have p0 : Prt ((w.alloc (.cells #[.int .i64 0,.int .i64 0,.int .i64 0,.string ⟨#[]⟩] 51)).alloc (.cells #[.string s] 141)) (w.heap.size + 1) s := by
  have := heap_alloc_new (w.alloc (.cells #[.int .i64 0,.int .i64 0,.int .i64 0,.string ⟨#[]⟩] 51)) (.cells #[.string s] 141)
  rw [World.size_alloc] at this
  exact this
 have hb0 := below_c2 w (.cells #[.int .i64 0,.int .i64 0,.int .i64 0,.string ⟨#[]⟩] 51) (.cells #[.string s] 141)
 go_enter_defers Tryz.func194,Tryz.ntmps194
 go_wp2_with fail
 generalize (w.alloc (.cells #[.int .i64 0,.int .i64 0,.int .i64 0,.string ⟨#[]⟩] 51)).alloc (.cells #[.string s] 141) = X at *
 refine (takeAns (w.heap.size + 1) s X p0 hs).mono ?_
 rintro e w1 ⟨hR,hk⟩
 have k1 := hk.blk k0 (by omega)
 have B1 : Hid (Below w.heap.size w w1) := hb0.trans (hk.1.mono (by omega))
 clear hk hb0 p0 k0 hs
 rcases hR with ⟨x,hx,rfl⟩ | ⟨hn,rfl⟩
 ·have HX : Hid (AnsRd s x) := hx
  unfold vAns
  clear hx
  obtain ⟨⟨r0,s0⟩,⟨r1,s1⟩,⟨r2,s2⟩,⟨r3,s3⟩,y0,y1,y2,y3⟩ := resC4 (x0 := .int .i64 x.code) (x1 := .int .i64 x.index) (x2 := .int .i64 x.mark) (x3 := .string x.data) k1
  have B2 : Hid (Below w.heap.size w _) := belowC4 B1.out (Nat.le_refl _) (.int .i64 x.code) (.int .i64 x.index) (.int .i64 x.mark) (.string x.data)
  clear k1
  go_wp2_with fail
  refine leaves_cons (f := 205) (args := #[]) (by simp) (by simp [go_sem]) ?_
  refine (catchAns_idle _).mono ?_
  rintro e u' w'' ⟨rfl,rfl,rfl⟩
  refine ⟨.tuple #[.agg #[.int .i64 x.code,.int .i64 x.index,.int .i64 x.mark,.string x.data],.bool true],?_,.inl ⟨x,HX.out,rfl⟩,B2.out⟩
  simp [results,Tryz.results194,go_sem,y0,y1,y2,y3]
 ·have HN : Hid (∀ x,¬ AnsRd s x) := hn
  clear hn
  have hz := cellsC4 k1
  obtain ⟨y0,y1,y2,y3⟩ := hz
  clear k1
  go_wp2_with fail
  refine leaves_cons (f := 205) (args := #[]) (by simp) (by simp [go_sem]) ?_
  refine (catchAns_panicking _ _ [] _).mono ?_
  rintro e u' w'' ⟨rfl,rfl,rfl⟩
  refine ⟨.tuple #[.agg #[.int .i64 0,.int .i64 0,.int .i64 0,.string ⟨#[]⟩],.bool false],?_,.inr ⟨HN.out,rfl⟩,B1.out⟩
  simp [results,Tryz.results194,go_sem,y0,y1,y2,y3]
set_option maxHeartbeats 1000000 in
theorem implReadAnswer (s : ByteArray) (w : World) (hs : s.size ≤ 1048576) :
  Calls Tryz.prog 168 #[.string s] w fun e w' => AnsA s e ∧ Below w.heap.size w w' := by
 have c := fun wx => partsAns s wx hs
 have k0 := Blk.new w #[.int .i64 0,.int .i64 0,.int .i64 0,.string ⟨#[]⟩] 51
 have hb0 := (Below.refl w.heap.size w).alloc (Nat.le_refl _) (.cells #[.int .i64 0,.int .i64 0,.int .i64 0,.string ⟨#[]⟩] 51)
 clear hs
 go_enter Tryz.func168,Tryz.ntmps168
 go_wp2_with fail
 generalize w.alloc (.cells #[.int .i64 0,.int .i64 0,.int .i64 0,.string ⟨#[]⟩] 51) = X at *
 refine (c _).mono ?_
 rintro e w1 ⟨hR,hb1⟩
 have k1 := k0.on hb1 k0.lt
 have B1 := hQz (hb0.trans (hb1.mono hb0.size))
 have HR : Hid (AnsA s e) := hR
 obtain ⟨x,b,rfl⟩ := hR.form
 clear hb0 hb1 c k0 hR
 unfold vAns at *
 obtain ⟨⟨r0,s0⟩,⟨r1,s1⟩,⟨r2,s2⟩,⟨r3,s3⟩,y0,y1,y2,y3⟩ := resC4 (x0 := .int .i64 x.code) (x1 := .int .i64 x.index) (x2 := .int .i64 x.mark) (x3 := .string x.data) k1
 have B2 : Hid (Below w.heap.size w _) := belowC4 B1.out (Nat.le_refl _) (.int .i64 x.code) (.int .i64 x.index) (.int .i64 x.mark) (.string x.data)
 clear k1 B1
 go_wp2_with fail
 exact bodyPost_ret (v := .tuple #[.agg #[.int .i64 x.code,.int .i64 x.index,.int .i64 x.mark,.string x.data],.bool b]) (by simp [results,go_sem,y0,y1,y2,y3]) rfl ⟨HR.out,B2.out⟩
end Go.Proofs.YthhamlahdjokkaaGreatDoor
