/- EgI3 EgI4 -/
import Derived.Test.YthhamlahdjokkaaGreatDoorQe16
import Derived.Lib.OwnBridge
import Derived.Sort.OwnSorted
import Derived.Sort.Grow
namespace Go.Proofs.YthhamlahdjokkaaGreatDoor
open Go.ChangeShapes Go.WideShapes Go.ChangeAt Go.RowKit Go.PlainAid Go.Shelf Go.Sort
set_option linter.unusedVariables false
def toL (k : ByteArray) : List UInt8 := k.data.toList
def ofL (x : List UInt8) : ByteArray := ⟨x.toArray⟩
theorem ofL_toL (k : ByteArray) : ofL (toL k) = k := by cases k; rfl
theorem toL_ofL (x : List UInt8) : toL (ofL x) = x := rfl
theorem toL_list (k : ByteArray) : k.toList = toL k := Lib.toList_data k
theorem ahd_toL (a b : ByteArray) : ahd a b = Op.bytesLess (toL a) (toL b) := by unfold ahd; rw [toL_list,toL_list]
theorem enc_ofL (l : List (List UInt8)) : l.map encStr = strCells (l.map ofL) := by
 unfold strCells
 rw [List.map_map]
 rfl
def leU (x y : List UInt8) : Bool := decide (x ≤ y)
theorem leU_iff (x y : List UInt8) : leU x y = true ↔ Op.bytesLess y x = false := by
 unfold leU
 rw [decide_eq_true_eq,bytesLess_eq,decide_eq_false_iff_not]
 exact List.not_lt.symm
theorem lt_of_le_ne {x y : List UInt8} (h : leU x y = true) (hne : x ≠ y) : Op.bytesLess x y = true := by
 rw [leU_iff] at h
 cases e : Op.bytesLess x y with
 | true => rfl
 | false => exact absurd (less_tri e h) hne
theorem lt_of_le_lt {x z y : List UInt8} (h : leU x z = true) (h2 : Op.bytesLess z y = true) : Op.bytesLess x y = true := by
 by_cases e : x = z
 ·rw [e]; exact h2
 ·exact less_trans (lt_of_le_ne h e) h2
theorem leU_trans (a b c : List UInt8) (h1 : leU a b = true) (h2 : leU b c = true) : leU a c = true := by
 unfold leU at *
 rw [decide_eq_true_eq] at *
 exact List.le_trans h1 h2
theorem leU_total (a b : List UInt8) : (leU a b || leU b a) = true := by
 unfold leU
 rcases List.le_total a b with h | h
 ·rw [decide_eq_true h]; rfl
 ·rw [decide_eq_true h,Bool.or_true]
theorem compact_up (zs : List (List UInt8)) (hs : zs.Pairwise fun x y => leU x y = true) : ∀ m,m ≤ zs.length → (Lib.compactUpTo zs.toArray m).Pairwise (fun x y => Op.bytesLess x y = true) ∧ ∀ x,x ∈ Lib.compactUpTo zs.toArray m ↔ ∃ j,j < m ∧ zs.toArray[j]! = x
 | 0,_ => ⟨by simp [Lib.compactUpTo],fun x => by simp [Lib.compactUpTo]⟩
 | m + 1,hm => by
  obtain ⟨h1,h2⟩ := compact_up zs hs m (by omega)
  have get : ∀ j (hj : j < zs.length),zs.toArray[j]! = zs[j] := fun j hj => by rw [getElem!_pos zs.toArray j (by simpa using hj)]; simp
  have hle : ∀ i j,i < j → j < zs.length → leU zs.toArray[i]! zs.toArray[j]! = true := fun i j hij hj => by
   rw [get i (by omega),get j hj]
   exact (List.pairwise_iff_getElem.1 hs) i j (by omega) hj hij
  rw [Lib.compactUpTo_succ]
  cases hk : Lib.keeps zs.toArray m with
  | true =>
   rw [if_pos rfl]
   refine ⟨List.pairwise_append.2 ⟨h1,List.pairwise_singleton _ _,fun x hx y hy => ?_⟩,fun x => ?_⟩
   ·rw [List.mem_singleton.1 hy]
    obtain ⟨j,hj,rfl⟩ := (h2 x).1 hx
    have hne : zs.toArray[m]! ≠ zs.toArray[m - 1]! := by
     unfold Lib.keeps at hk
     rcases of_decide_eq_true hk with h | h
     ·omega
     ·exact h
    have hlt : Op.bytesLess zs.toArray[m - 1]! zs.toArray[m]! = true := lt_of_le_ne (hle (m - 1) m (by omega) (by omega)) fun e => hne e.symm
    by_cases e : j = m - 1
    ·rw [e]; exact hlt
    ·exact lt_of_le_lt (hle j (m - 1) (by omega) (by omega)) hlt
   ·rw [List.mem_append,List.mem_singleton,h2]
    constructor
    ·rintro (⟨j,hj,e⟩ | e)
     ·exact ⟨j,by omega,e⟩
     ·exact ⟨m,by omega,e.symm⟩
    ·rintro ⟨j,hj,e⟩
     by_cases e2 : j = m
     ·exact .inr (by rw [← e,e2])
     ·exact .inl ⟨j,by omega,e⟩
  | false =>
   rw [if_neg (by simp),List.append_nil]
   refine ⟨h1,fun x => ?_⟩
   rw [h2]
   constructor
   ·rintro ⟨j,hj,e⟩; exact ⟨j,by omega,e⟩
   ·rintro ⟨j,hj,e⟩
    by_cases e2 : j = m
    ·unfold Lib.keeps at hk
     have hno := of_decide_eq_false hk
     have hm0 : m ≠ 0 := fun h => hno (.inl h)
     have heq : zs.toArray[m]! = zs.toArray[m - 1]! := Classical.byContradiction fun h => hno (.inr h)
     exact ⟨m - 1,by omega,by rw [← heq,← e2]; exact e⟩
    ·exact ⟨j,by omega,e⟩
def onceK (ks : List ByteArray) : List (List UInt8) := Lib.compact ((ks.map toL).mergeSort fun x y => decide (x ≤ y))
theorem once_all (ks : List ByteArray) : (onceK ks).map ofL = allK ks := by
 have hs := List.pairwise_mergeSort (le := leU) leU_trans leU_total (ks.map toL)
 have hp := List.mergeSort_perm (ks.map toL) leU
 obtain ⟨h1,h2⟩ := compact_up ((ks.map toL).mergeSort leU) hs _ (Nat.le_refl _)
 have ho : onceK ks = Lib.compactUpTo ((ks.map toL).mergeSort leU).toArray ((ks.map toL).mergeSort leU).length := rfl
 refine riseK_ext ?_ (rise_allK ks) fun k => ?_
 ·unfold RiseK
  rw [List.pairwise_map,ho]
  exact h1.imp fun {x y} h => by rw [ahd_toL]; exact h
 ·rw [mem_allK,List.mem_map,ho]
  constructor
  ·rintro ⟨x,hx,rfl⟩
   obtain ⟨j,hj,rfl⟩ := (h2 x).1 hx
   rw [getElem!_pos _ j (by simpa using hj)]
   have hm : ((ks.map toL).mergeSort leU).toArray[j]'(by simpa using hj) ∈ ks.map toL := hp.subset (by simp)
   obtain ⟨y,hy,e⟩ := List.mem_map.1 hm
   rw [← e,ofL_toL]
   exact hy
  ·intro hk
   have hm : toL k ∈ (ks.map toL).mergeSort leU := hp.symm.subset (List.mem_map_of_mem hk)
   obtain ⟨j,hj,e⟩ := List.getElem_of_mem hm
   refine ⟨toL k,(h2 _).2 ⟨j,hj,?_⟩,ofL_toL k⟩
   rw [getElem!_pos _ j (by simpa using hj)]
   simpa using e
theorem strs_enc {w : World} {base : Nat} {v : Value} {ks : List ByteArray} (h : Owns w base 9 1 v (stR ks)) : w.ownsRow base 9 1 v ks.length ((ks.map toL).map encStr) := by
 have := owns_strs h
 rw [enc_ofL,List.map_map,show (ofL ∘ toL) = id from funext ofL_toL,List.map_id]
 exact this
theorem enc_strs {w : World} {base : Nat} {v : Value} {n : Nat} {ss : List (List UInt8)} (hn : n = ss.length) (h : w.ownsRow base 9 1 v n (ss.map encStr)) : Owns w base 9 1 v (stR (ss.map ofL)) := by
 refine strs_owns ?_
 unfold Strs
 rw [List.length_map,← hn,← enc_ofL]
 exact h
theorem sortV (ks : List ByteArray) (v : Value) (w : World) (base : Nat) (h : Owns w base 9 1 v (stR ks)) (hn : ks.length ≤ 100000) :
  Calls Tryz.prog 175 #[v] w fun e w' => e = .returned (.tuple #[]) ∧ Owns w' base 9 1 v (stR (((ks.map toL).mergeSort fun x y => decide (x ≤ y)).map ofL)) ∧ Below base w w' := by
 have hs := strs_enc h
 rcases hs.2 with ⟨rfl,h0⟩ | ⟨g,c,cur,rfl,hbase,hb,h1,h2,h3,h4⟩
 ·refine (AnyM.slices_Sort_string_none Tryz.sortN none 0 w).mono ?_
  rintro e w' ⟨rfl,rfl⟩
  have : ks = [] := List.eq_nil_of_length_eq_zero h0
  subst this
  exact ⟨rfl,by simpa using h,Below.refl _ _⟩
 ·have hlt := (h.lt g rfl).2
  obtain ⟨g',cap',e',hbg,hgl,hnc,hcm,hlen,hH⟩ := Lib.holds_of_ownsRow hs (by intro e; cases e)
  cases e'
  have c1 := AnyM.slices_Sort_string Tryz.sortN g 0 c (ks.map toL) w hH hgl (by rw [List.length_map]; omega)
  rw [List.length_map] at c1
  refine c1.mono ?_
  rintro e w' ⟨rfl,n,os,rfl⟩
  have hl2 : ((ks.map toL).mergeSort fun x y => decide (x ≤ y)).length = (ks.map toL).length := List.length_mergeSort _
  have ho := ownsRow_sorted (n := n) (os := os) (ss := ks.map toL) (ts := (ks.map toL).mergeSort fun x y => decide (x ≤ y)) hl2 hbase hb (by rw [List.length_map]; exact h1) h2 h3
  rw [List.length_map] at ho
  exact ⟨rfl,enc_strs (by rw [hl2,List.length_map]) ho,(Below.refl base w).grown (grownBy_sorted _) (Nat.le_trans hbase (Nat.le_of_lt hlt)) (fun j hj => by cases hj; exact hbase)⟩
theorem compactV (zs : List (List UInt8)) (v : Value) (w : World) (base : Nat) (h : Owns w base 9 1 v (stR (zs.map ofL))) (hn : zs.length ≤ 100000) :
  Calls Tryz.prog 176 #[v] w fun e w' => (∃ u,e = .returned u ∧ Owns w' base 9 1 u (stR ((Lib.compact zs).map ofL))) ∧ Below base w w' := by
 have hs := strs_enc h
 have hid : (zs.map ofL).map toL = zs := by rw [List.map_map,show (toL ∘ ofL) = id from funext toL_ofL,List.map_id]
 rw [hid,List.length_map] at hs
 rcases hs.2 with ⟨rfl,h0⟩ | ⟨g,c,cur,rfl,hbase,hb,h1,h2,h3,h4⟩
 ·refine (AnyG.slices_Compact_string_empty Tryz.compactN none 0 w).mono ?_
  rintro e w' ⟨rfl,rfl⟩
  have : zs = [] := List.eq_nil_of_length_eq_zero h0
  subst this
  exact ⟨⟨_,rfl,h⟩,Below.refl _ _⟩
 ·obtain ⟨g',cap',e',hbg,hgl,hnc,hcm,hlen,hH⟩ := Lib.holds_of_ownsRow hs (by intro e; cases e)
  cases e'
  have c1 := AnyG.slices_Compact_string Tryz.compactN g 0 c zs w hH (by omega) hnc
  refine c1.mono ?_
  rintro e w' ⟨rfl,q,rfl⟩
  have hle := Lib.compact_length_le zs
  have ho := Lib.ownsRow_putRow (q := q) (k := (Lib.compact zs).length) (ys := Lib.compact zs ++ List.replicate (zs.length - (Lib.compact zs).length) []) hs (by simp; omega) hle
  rw [List.take_left] at ho
  exact ⟨⟨_,rfl,enc_strs rfl ho⟩,Lib.below_putRow (Below.refl _ _) hbg⟩
def SrcV (w : World) (B : Nat) (v : Value) (l : List Ser) : Prop :=
 (∃ u,v = .iface 192 u ∧ SerV w B u l) ∨ (∃ s u,v = .iface 191 (.agg #[.string s,u]) ∧ s.size ≤ 1048576 ∧ GoodF s l ∧ Lies w B 5 u (spR (idxF l)))
theorem SrcV.on {w w' : World} {B : Nat} {v : Value} {l : List Ser} (h : SrcV w B v l) (hb : Below B w w') : SrcV w' B v l := by
 rcases h with ⟨u,h1,h2⟩ | ⟨s,u,h1,h2,h3,h4⟩
 ·exact .inl ⟨u,h1,h2.on hb⟩
 ·exact .inr ⟨s,u,h1,h2,h3,h4.on hb⟩
def SrcL (w : World) (B : Nat) (us : List Value) (ls : List (List Ser)) : Prop := us.length = ls.length ∧ ∀ j,j < ls.length → SrcV w B (us.getD j default) (ls.getD j [])
def SrcsV (w : World) (B : Nat) (v : Value) (ls : List (List Ser)) : Prop := ∃ us,Lies w B 1 v (laR us) ∧ SrcL w B us ls
theorem SrcL.on {w w' : World} {B : Nat} {us : List Value} {ls : List (List Ser)} (h : SrcL w B us ls) (hb : Below B w w') : SrcL w' B us ls := ⟨h.1,fun j hj => (h.2 j hj).on hb⟩
theorem SrcsV.on {w w' : World} {B : Nat} {v : Value} {ls : List (List Ser)} (h : SrcsV w B v ls) (hb : Below B w w') : SrcsV w' B v ls := h.imp fun _ h => ⟨h.1.on hb,h.2.on hb⟩
theorem SrcL.snoc {w : World} {B : Nat} {us : List Value} {ls : List (List Ser)} (h : SrcL w B us ls) {u : Value} {l : List Ser} (hu : SrcV w B u l) : SrcL w B (us ++ [u]) (ls ++ [l]) := by
 refine ⟨by simp [h.1],fun j hj => ?_⟩
 rw [List.length_append,List.length_singleton] at hj
 by_cases e : j < ls.length
 ·rw [List.getD_eq_getElem?_getD,List.getD_eq_getElem?_getD,List.getElem?_append_left (by rw [h.1]; exact e),List.getElem?_append_left e,← List.getD_eq_getElem?_getD,← List.getD_eq_getElem?_getD]
  exact h.2 j e
 ·obtain rfl : j = ls.length := by omega
  rw [List.getD_eq_getElem?_getD,List.getD_eq_getElem?_getD,List.getElem?_append_right (by rw [h.1]; exact Nat.le_refl _),List.getElem?_append_right (Nat.le_refl _),h.1,Nat.sub_self]
  exact hu
theorem SrcsV.look {w : World} {B : Nat} {v : Value} {ls : List (List Ser)} (h : SrcsV w B v ls) : ∃ A cap,v = .slice A ls.length cap ∧ ∀ j,j < ls.length → ∃ g off u,A = some ⟨g,off,none⟩ ∧ g < B ∧ w.cell? ⟨g,off + j,none⟩ = some u ∧ SrcV w B u (ls.getD j []) := by
 obtain ⟨us,h1,h2⟩ := h
 obtain ⟨A,cap,e,hl⟩ := la_look h1
 refine ⟨A,cap,by rw [e,h2.1],fun j hj => ?_⟩
 obtain ⟨g,off,e,hg,hc⟩ := hl j (by rw [h2.1]; exact hj)
 exact ⟨g,off,_,e,hg,hc,h2.2 j hj⟩
theorem SrcsV.cells {w : World} {B n c : Nat} {A : Option Addr} {ls : List (List Ser)} (h : SrcsV w B (.slice A n c) ls) : ∀ j,j < ls.length → ∃ g off u,A = some ⟨g,off,none⟩ ∧ g < B ∧ w.cell? ⟨g,off + j,none⟩ = some u ∧ SrcV w B u (ls.getD j []) := by
 obtain ⟨A',c',e,hl⟩ := h.look
 cases e
 exact hl
theorem keysOf_take (ls : List (List Ser)) (i : Nat) (h : i < ls.length) : keysOf (ls.take (i + 1)) = keysOf (ls.take i) ++ (ls.getD i []).map Ser.key := by
 have e : ls.take (i + 1) = ls.take i ++ [ls.getD i []] := by
  rw [List.take_add_one,List.getElem?_eq_getElem h,List.getD_eq_getElem?_getD,List.getElem?_eq_getElem h]
  rfl
 rw [e,keysOf_snoc]
set_option maxHeartbeats 4000000 in
theorem implKeysOf (ls : List (List Ser)) (v : Value) (w : World) (B : Nat) (hv : SrcsV w B v ls) (hf : LFew ls) (hB : B ≤ w.heap.size) :
  Calls Tryz.prog 151 #[v] w fun e w' => (∃ u,e = .returned u ∧ Owns w' w.heap.size 9 1 u (stR (keysL ls))) ∧ Below w.heap.size w w' := by
 obtain ⟨A,cap,rfl,_⟩ := hv.look
 have HL : Hid (∀ wx,Below w.heap.size w wx → ∀ j,j < ls.length → ∃ g off u,A = some ⟨g,off,none⟩ ∧ g < B ∧ wx.cell? ⟨g,off + j,none⟩ = some u ∧ SrcV wx B u (ls.getD j [])) := fun wx hx => (hv.on (hx.mono hB)).cells
 have HB : Hid (B ≤ w.heap.size) := hB
 have HT : Hid (∀ i,i < ls.length → keysOf (ls.take (i + 1)) = keysOf (ls.take i) ++ (ls.getD i []).map Ser.key) := keysOf_take ls
 have HA : Hid (∀ i,i = ls.length → keysOf (ls.take i) = keysOf ls) := fun i hi => by rw [hi,List.take_length]
 have HLn : Hid (∀ i,i < ls.length → (ls.getD i []).length ≤ 10) := fun i hi => (hf.2 _ (getD_memL ls i hi)).1
 have HKl : Hid (∀ i,(keysOf (ls.take i)).length ≤ 100) := fun i => by
  have h1 := keysOf_len (ls.take i) fun l hl => (hf.2 l (List.mem_of_mem_take hl)).1
  have h2 : (ls.take i).length ≤ 10 := by rw [List.length_take]; have := hf.1; omega
  omega
 have q1 : (ls.length : Int) ≤ 10 := by have := hf.1; omega
 clear hv hB hf
 generalize hN : ls.length = n at *
 clear hN
 go_enter Tryz.func151,Tryz.ntmps151
 go_wp2_with fail
 go_loopw [3,8] (fun v3 v8 wr => ∃ i : Nat,i ≤ n ∧ v8 = .int .i64 (i : Int) ∧ Owns wr w.heap.size 9 1 v3 (stR (keysOf (ls.take i))) ∧ Below w.heap.size w wr) (fun _ i _ => n - (intOf i).toNat)
 case atStart => exact ⟨0,by omega,rfl,Owns.nil _ _ _ _,Below.refl _ _⟩
 case round =>
  obtain ⟨i,hi,rfl,hO,hb⟩ := hrel
  have HO := hQz hO
  have HBr := hQz hb
  obtain ⟨A3,n3,c3,rfl⟩ := hO.shape
  clear hO hb
  by_cases hlt : i < n
  ·have q4 : (i : Int) < (n : Int) := by omega
   obtain ⟨g,off,u,rfl,hg,e1,hu⟩ := HL.out wr HBr.out i hlt
   have HE := hQz (HT.out i hlt)
   have hli := HLn.out i hlt
   have hkl := HKl.out i
   have HKi : Hid ((stR (keysOf (ls.take i))).length + (stR ((ls.getD i []).map Ser.key)).length ≤ 2097152) := by unfold Hid; rw [stR_length,stR_length,List.length_map]; omega
   have Z := hQz (Nat.le_trans HB.out HBr.out.size)
   generalize keysOf (ls.take i) = o at *
   generalize ls.getD i [] = li at *
   rcases hu with ⟨u',rfl,hS⟩ | ⟨s,u',rfl,hs1,hG,hX⟩
   ·have c1 := cachedKeys li u' wr B hS (by omega) Z.out
    clear hS
    go_wp2_with fail
    refine c1.mono ?_
    rintro e w2 ⟨⟨u2,rfl,hO2⟩,hb2⟩
    have OK := hQz hO2
    have HO2 := hQz (HO.out.on hb2)
    have B2 := hQz (HBr.out.trans (hb2.mono HBr.out.size))
    have Z2 : w.heap.size ≤ w2.heap.size := B2.out.size
    obtain ⟨A4,n4,c4,rfl⟩ := hO2.shape
    clear hO2 hb2 c1
    go_wp2_with (at_builtin; refine wpList_append_all rfl (.tmp 12) (.tmp 14) 24 9 (.string ⟨#[]⟩) 1 16 rfl Tryz.underlying24 infoStr rfl (by omega) w.heap.size (.slice A3 n3 c3) (.slice A4 n4 c4) (stR o) (stR (li.map Ser.key)) w2.heap.size rfl HO2.out OK.out.lies (st_one _) rfl HKi.out (by omega) Z2 ?_; intro v' w3 hO3 hb3 hk3 hw3; obtain ⟨A5,n5,c5,rfl⟩ := hO3.shape; refine Shut.out ?_)
    unfold Shut
    have O3 : Hid (Owns w3 w.heap.size 9 1 (.slice A5 n5 c5) (stR (o ++ li.map Ser.key))) := by unfold Hid; rw [stR_append]; exact hO3
    have B3 := hQz (B2.out.trans hb3)
    clear hO3 hb3 hk3 hw3
    go_wp2_with fail
    go_roundw
    case rel => exact ⟨i + 1,by omega,by go_num,by rw [HE.out]; exact O3.out,B3.out⟩
    case measure => simp [intOf]; omega
   ·have c1 := filedKeys s (idxF li) u' wr B hX (by rw [idxF_length]; omega) Z.out
    rw [idxF_keys] at c1
    clear hX hG hs1
    go_wp2_with fail
    refine c1.mono ?_
    rintro e w2 ⟨⟨u2,rfl,hO2⟩,hb2⟩
    have OK := hQz hO2
    have HO2 := hQz (HO.out.on hb2)
    have B2 := hQz (HBr.out.trans (hb2.mono HBr.out.size))
    have Z2 : w.heap.size ≤ w2.heap.size := B2.out.size
    obtain ⟨A4,n4,c4,rfl⟩ := hO2.shape
    clear hO2 hb2 c1
    go_wp2_with (at_builtin; refine wpList_append_all rfl (.tmp 12) (.tmp 14) 24 9 (.string ⟨#[]⟩) 1 16 rfl Tryz.underlying24 infoStr rfl (by omega) w.heap.size (.slice A3 n3 c3) (.slice A4 n4 c4) (stR o) (stR (li.map Ser.key)) w2.heap.size rfl HO2.out OK.out.lies (st_one _) rfl HKi.out (by omega) Z2 ?_; intro v' w3 hO3 hb3 hk3 hw3; obtain ⟨A5,n5,c5,rfl⟩ := hO3.shape; refine Shut.out ?_)
    unfold Shut
    have O3 : Hid (Owns w3 w.heap.size 9 1 (.slice A5 n5 c5) (stR (o ++ li.map Ser.key))) := by unfold Hid; rw [stR_append]; exact hO3
    have B3 := hQz (B2.out.trans hb3)
    clear hO3 hb3 hk3 hw3
    go_wp2_with fail
    go_roundw
    case rel => exact ⟨i + 1,by omega,by go_num,by rw [HE.out]; exact O3.out,B3.out⟩
    case measure => simp [intOf]; omega
  ·obtain rfl : i = n := by omega
   have HAi := hQz (HA.out i rfl)
   have HKi := hQz (HKl.out i)
   have c1 := sortV (keysOf (ls.take i)) (.slice A3 n3 c3) wr w.heap.size HO.out (by have := HKi.out; omega)
   go_wp2_with fail
   refine c1.mono ?_
   rintro e w2 ⟨rfl,hO2,hb2⟩
   have B2 := hQz (HBr.out.trans hb2)
   have c2 := compactV (((keysOf (ls.take i)).map toL).mergeSort fun x y => decide (x ≤ y)) (.slice A3 n3 c3) w2 w.heap.size hO2 (by rw [List.length_mergeSort,List.length_map]; have := HKi.out; omega)
   have HEn : Hid ((Lib.compact (((keysOf (ls.take i)).map toL).mergeSort fun x y => decide (x ≤ y))).map ofL = keysL ls) := by unfold Hid; rw [HAi.out]; exact once_all _
   clear hO2 hb2 c1
   go_wp2_with fail
   refine c2.mono ?_
   rintro e w3 ⟨⟨u,rfl,hO3⟩,hb3⟩
   have O3 : Hid (Owns w3 w.heap.size 9 1 u (stR (keysL ls))) := by unfold Hid; rw [← HEn.out]; exact hO3
   have B3 := hQz (B2.out.trans hb3)
   clear hO3 hb3 c2 HEn
   go_wp2_with fail
   go_ret
   exact ⟨⟨_,rfl,O3.out⟩,B3.out⟩
end Go.Proofs.YthhamlahdjokkaaGreatDoor
