/- EgS3 FlMathS BkReadS FlIdxS -/
import Derived.Test.YthhamlahdjokkaaGreatDoorQs9
import Derived.Test.YthhamlahdjokkaaGreatDoorQs8
import Derived.Test.YthhamlahdjokkaaGreatDoorQs2
import Derived.WalkKit
import Derived.ProofKit
import Derived.OpenShut
import Derived.Below
import Derived.WalkSmall
import Derived.BigQuiet
import Derived.Deep.QuietTactic
import Derived.Deep.RegionWith
import Derived.Handy
import Derived.Test.YthhamlahdjokkaaGreatDoorQs4
import Derived.Test.YthhamlahdjokkaaGreatDoorRows
import Derived.Test.YthhamlahdjokkaaGreatDoorQs7
import Derived.Test.YthhamlahdjokkaaGreatDoorQs3
import Derived.Test.YthhamlahdjokkaaGreatDoorQs1
open List (setIfInBounds_toArray set_cons_zero set_cons_succ)
namespace Go.Proofs.YthhamlahdjokkaaGreatDoor
open Go.ChangeShapes Go.WideShapes Go.ChangeAt Go.RowKit Go.PlainAid
set_option linter.unusedVariables false
def preK (ls : List (List Ser)) (i k : Nat) : List ByteArray := keysOf (ls.take i) ++ ((ls.getD i []).take k).map Ser.key
theorem keysOf_snoc (ls : List (List Ser)) (l : List Ser) : keysOf (ls ++ [l]) = keysOf ls ++ l.map Ser.key := by unfold keysOf; rw [List.flatten_append, List.map_append]; simp
theorem preK_zero (ls : List (List Ser)) : preK ls 0 0 = [] := by simp [preK, keysOf]
theorem preK_step (ls : List (List Ser)) (i k : Nat) (h : k < (ls.getD i []).length) : preK ls i (k + 1) = preK ls i k ++ [((ls.getD i []).getD k default).key] := by
 unfold preK
 rw [take_getD _ k h, List.map_append, List.append_assoc]
 rfl
theorem preK_next (ls : List (List Ser)) (i : Nat) (h : i < ls.length) : preK ls i (ls.getD i []).length = preK ls (i + 1) 0 := by
 unfold preK
 rw [List.take_length, List.take_zero, List.map_nil, List.append_nil]
 have e : ls.take (i + 1) = ls.take i ++ [ls.getD i []] := by
  rw [List.take_add_one, List.getElem?_eq_getElem h, List.getD_eq_getElem?_getD, List.getElem?_eq_getElem h]
  rfl
 rw [e, keysOf_snoc]
theorem preK_all (ls : List (List Ser)) : preK ls ls.length 0 = keysOf ls := by
 unfold preK
 rw [List.take_length, List.take_zero, List.map_nil, List.append_nil]
theorem allK_snoc (ks : List ByteArray) (k : ByteArray) : allK (ks ++ [k]) = insK (allK ks) k := by unfold allK; rw [List.foldl_append]; rfl
theorem insK_len (k : ByteArray) : ∀ l : List ByteArray, (insK l k).length ≤ l.length + 1
 | [] => by simp [insK]
 | x :: l => by
  have ih := insK_len k l
  rw [insK]
  split
  ·omega
  ·split
   ·simp
   ·simp; omega
theorem foldK_len : ∀ (ks a : List ByteArray), (ks.foldl insK a).length ≤ a.length + ks.length
 | [], a => by simp
 | k :: ks, a => by
  have h1 := foldK_len ks (insK a k)
  have h2 := insK_len k a
  rw [List.foldl_cons, List.length_cons]
  omega
theorem keysOf_len : ∀ (ls : List (List Ser)), (∀ l ∈ ls, l.length ≤ 10) → (keysOf ls).length ≤ 10 * ls.length
 | [], _ => by simp [keysOf]
 | l :: ls, h => by
  have h1 := keysOf_len ls fun m hm => h m (by simp [hm])
  have h2 := h l (by simp)
  have e : keysOf (l :: ls) = l.map Ser.key ++ keysOf ls := by simp [keysOf]
  rw [e, List.length_append, List.length_map, List.length_cons]
  omega
theorem getD_memL (ls : List (List Ser)) (i : Nat) (h : i < ls.length) : ls.getD i [] ∈ ls := by
 rw [List.getD_eq_getElem?_getD, List.getElem?_eq_getElem h]
 exact List.getElem_mem h
theorem preK_len (ls : List (List Ser)) (hl : ∀ l ∈ ls, l.length ≤ 10) (hn : ls.length ≤ 10) (i k : Nat) (hi : i ≤ ls.length) : (allK (preK ls i k)).length ≤ 200 := by
 have h1 := foldK_len (preK ls i k) []
 have h2 := keysOf_len (ls.take i) fun l hm => hl l (List.mem_of_mem_take hm)
 have h3 : (ls.take i).length ≤ 10 := by rw [List.length_take]; omega
 have h4 : ((ls.getD i []).take k).length ≤ 10 := by
  rw [List.length_take]
  by_cases h : i < ls.length
  ·have := hl _ (getD_memL ls i h)
   omega
  ·have e : ls.getD i [] = [] := by rw [List.getD_eq_getElem?_getD, List.getElem?_eq_none (by omega)]; rfl
   rw [e]; simp
 have h5 : (preK ls i k).length ≤ 200 := by
  unfold preK
  rw [List.length_append, List.length_map]
  omega
 unfold allK
 simp only [List.length_nil] at h1
 omega
set_option maxHeartbeats 2000000 in
theorem specKeys (ls : List (List Ser)) (v : Value) (w : World) (B : Nat) (hv : LayV w B v ls) (hn : ls.length ≤ 10) (hs : ∀ l ∈ ls, l.length ≤ 10) (hB : B ≤ w.heap.size) :
  Calls Tryz.prog 103 #[v] w fun e w' => (∃ u, e = .returned u ∧ Owns w' w.heap.size 9 1 u (stR (keysL ls))) ∧ Below w.heap.size w w' := by
 obtain ⟨A, cap, rfl, hl⟩ := hv.look
 have HL : Hid (∀ j, j < ls.length → ∃ g off u, A = some ⟨g, off, none⟩ ∧ g < B ∧ w.cell? ⟨g, off + j, none⟩ = some u ∧ SerV w B u (ls.getD j [])) := hl
 have HB : Hid (B ≤ w.heap.size) := hB
 have HP : Hid (∀ i k, i ≤ ls.length → (allK (preK ls i k)).length ≤ 200) := fun i k hi => preK_len ls hs hn i k hi
 have H0 : Hid (allK (preK ls 0 0) = []) := by unfold Hid; rw [preK_zero]; rfl
 have HSt : Hid (∀ i k, k < (ls.getD i []).length → allK (preK ls i (k + 1)) = insK (allK (preK ls i k)) ((ls.getD i []).getD k default).key) := fun i k h => by rw [preK_step ls i k h, allK_snoc]
 have HNx : Hid (∀ i, i < ls.length → allK (preK ls i (ls.getD i []).length) = allK (preK ls (i + 1) 0)) := fun i h => by rw [preK_next ls i h]
 have HA : Hid (allK (preK ls ls.length 0) = keysL ls) := by unfold Hid; rw [preK_all]; rfl
 have HL1 : Hid (∀ i, i < ls.length → (ls.getD i []).length ≤ 10) := fun i hi => hs _ (getD_memL ls i hi)
 have q1 : (ls.length : Int) ≤ 10 := by omega
 clear hl hv hs hB hn
 generalize hN : ls.length = n at *
 clear hN
 have BE : Hid (Below w.heap.size w (w.alloc (.cells #[] 9))) := (Below.refl _ w).alloc (Nat.le_refl _) _
 have OE : Hid (Owns (w.alloc (.cells #[] 9)) w.heap.size 9 1 (.slice (some ⟨w.heap.size, 0, none⟩) 0 0) (stR [])) := Owns.empty w w.heap.size 9 1 (Nat.le_refl _)
 go_enter Tryz.func103, Tryz.ntmps103
 go_wp2_with fail
 go_loopw [3, 4] (fun v3 v4 wr => ∃ i : Nat, i ≤ n ∧ v4 = .int .i64 (i : Int) ∧ Owns wr w.heap.size 9 1 v3 (stR (allK (preK ls i 0))) ∧ Below w.heap.size w wr) (fun _ i _ => n - (intOf i).toNat)
 case atStart => exact ⟨0, by omega, rfl, by rw [H0.out]; exact OE.out, BE.out⟩
 case round =>
  obtain ⟨i, hi, rfl, hO, hb⟩ := hrel
  have HO : Hid (Owns wr w.heap.size 9 1 u3 (stR (allK (preK ls i 0)))) := hO
  have HBr : Hid (Below w.heap.size w wr) := hb
  obtain ⟨A3, n3, c3, rfl⟩ := hO.shape
  clear hO hb
  by_cases hlt : i < n
  ·have q4 : (i : Int) < (n : Int) := by omega
   obtain ⟨g, off, u, rfl, hg, e1, hu⟩ := HL.out i hlt
   have hgw : g < w.heap.size := Nat.lt_of_lt_of_le hg HB.out
   have HE1 : Hid (w.cell? ⟨g, off + i, none⟩ = some u) := e1
   obtain ⟨A', c', rfl, hlu⟩ := hu.look
   have HU : Hid (∀ j, j < (ls.getD i []).length → ∃ g off u, A' = some ⟨g, off, none⟩ ∧ g < B ∧ w.cell? ⟨g, off + j * 2, none⟩ = some (.string ((ls.getD i []).getD j default).key) ∧ w.cell? ⟨g, off + j * 2 + 1, none⟩ = some u ∧ Lies w B 2 u (ptR ((ls.getD i []).getD j default).pts)) := hlu
   have hmm := HL1.out i hlt
   have HNi : Hid (allK (preK ls i (ls.getD i []).length) = allK (preK ls (i + 1) 0)) := HNx.out i hlt
   have HSi : Hid (∀ k, k < (ls.getD i []).length → allK (preK ls i (k + 1)) = insK (allK (preK ls i k)) ((ls.getD i []).getD k default).key) := fun k h => HSt.out i k h
   have HPi : Hid (∀ k, (allK (preK ls i k)).length ≤ 200) := fun k => HP.out i k hi
   clear e1 hu hlu
   generalize ls.getD i [] = li at *
   generalize hm : li.length = m at *
   clear hm
   go_wp2_with fail
   go_loopw [3, 5] (fun v3 v5 wr' => ∃ k : Nat, k ≤ m ∧ v5 = .int .i64 (k : Int) ∧ Owns wr' w.heap.size 9 1 v3 (stR (allK (preK ls i k))) ∧ Below w.heap.size w wr') (fun _ i _ => m - (intOf i).toNat)
   case atStart => exact ⟨0, by omega, rfl, HO.out, HBr.out⟩
   case round =>
    obtain ⟨k, hk, rfl, hO, hb⟩ := hrel
    have HO2 : Hid (Owns wr w.heap.size 9 1 u3 (stR (allK (preK ls i k)))) := hO
    have HB2 : Hid (Below w.heap.size w wr) := hb
    obtain ⟨A4, n4, c4, rfl⟩ := hO.shape
    clear hO hb
    have e1 := HE1.out
    rw [← HB2.out.cell (p := ⟨_, _, none⟩) hgw] at e1
    by_cases hkm : k < m
    ·have q5 : (k : Int) < (m : Int) := by omega
     obtain ⟨g2, off2, u2, rfl, hg2, d1, d2, _⟩ := HU.out k hkm
     rw [← HB2.out.cell (p := ⟨_, _, none⟩) (Nat.lt_of_lt_of_le hg2 HB.out)] at d1
     have c1 := specName (allK (preK ls i k)) (li.getD k default).key (.slice A4 n4 c4) wr w.heap.size HO2.out (by have := HPi.out k; omega) (rise_allK _) HB2.out.size
     have HE : Hid (allK (preK ls i (k + 1)) = insK (allK (preK ls i k)) (li.getD k default).key) := HSi.out k hkm
     generalize (li.getD k default).key = x at d1 c1 HE
     go_wp2_with fail
     refine c1.mono ?_
     rintro e w2 ⟨⟨u, rfl, hO⟩, hb⟩
     have O3 : Hid (Owns w2 w.heap.size 9 1 u (stR (allK (preK ls i (k + 1))))) := by unfold Hid; rw [HE.out]; exact hO
     have B3 : Hid (Below w.heap.size w w2) := HB2.out.trans (hb.mono HB2.out.size)
     clear hO hb c1
     go_wp2_with fail
     go_roundw
     case rel => exact ⟨k + 1, by omega, by go_num, O3.out, B3.out⟩
     case measure => simp [intOf]; omega
    ·obtain rfl : k = m := by omega
     go_wp2_with fail
     go_roundw
     case rel => exact ⟨i + 1, by omega, by go_num, by rw [← HNi.out]; exact HO2.out, HB2.out⟩
     case measure => simp [intOf]; omega
  ·obtain rfl : i = n := by omega
   go_wp2_with fail
   go_ret
   refine ⟨⟨_, rfl, ?_⟩, HBr.out⟩
   rw [← HA.out]
   exact HO.out
theorem hasAll_take (ls : List (List Ser)) (key : ByteArray) (i : Nat) (h : i < ls.length) : hasAll (ls.take (i + 1)) key = mrg (hasAll (ls.take i) key) (ptsAt (ls.getD i []) key) := by
 have e : ls.take (i + 1) = ls.take i ++ [ls.getD i []] := by
  rw [List.take_add_one, List.getElem?_eq_getElem h, List.getD_eq_getElem?_getD, List.getElem?_eq_getElem h]
  rfl
 rw [e, hasAll_snoc]
def LFew (ls : List (List Ser)) : Prop := ls.length ≤ 10 ∧ ∀ l ∈ ls, l.length ≤ 10 ∧ ∀ x ∈ l, x.pts.length ≤ 200
theorem ptsAt_few {l : List Ser} (h : ∀ x ∈ l, x.pts.length ≤ 200) (k : ByteArray) : (ptsAt l k).length ≤ 200 := by
 rcases ptsAt_some (k := k) (l := l) with e | ⟨x, hx, _, e⟩
 ·rw [e]; simp
 ·rw [e]; exact h x hx
theorem LFew.has {ls : List (List Ser)} (h : LFew ls) (key : ByteArray) (i : Nat) : (hasAll (ls.take i) key).length ≤ 2000 := by
 have h1 := hasAll_len key 200 (ls.take i) [] fun l hl => ptsAt_few (h.2 l (List.mem_of_mem_take hl)).2 key
 have h2 : (ls.take i).length ≤ 10 := by rw [List.length_take]; have := h.1; omega
 unfold hasAll
 simp only [List.length_nil] at h1
 omega
set_option maxHeartbeats 2000000 in
theorem specHas (ls : List (List Ser)) (f : Int) (key : ByteArray) (v : Value) (w : World) (B : Nat) (hv : LayV w B v ls) (hf : LFew ls) (hB : B ≤ w.heap.size) :
  Calls Tryz.prog 104 #[v, .int .i64 f, .string key] w fun e w' => (∃ u, e = .returned u ∧ Owns w' w.heap.size 98 2 u (ptR ((hasAll ls key).filter (inP f 1099511627777)))) ∧ Below w.heap.size w w' := by
 obtain ⟨A, cap, rfl, hl⟩ := hv.look
 have HL : Hid (∀ j, j < ls.length → ∃ g off u, A = some ⟨g, off, none⟩ ∧ g < B ∧ w.cell? ⟨g, off + j, none⟩ = some u ∧ SerV w B u (ls.getD j [])) := hl
 have HB : Hid (B ≤ w.heap.size) := hB
 have HF : Hid (LFew ls) := hf
 have HH : Hid (∀ i, (hasAll (ls.take i) key).length ≤ 2000) := hf.has key
 have HT : Hid (∀ i, i < ls.length → hasAll (ls.take (i + 1)) key = mrg (hasAll (ls.take i) key) (ptsAt (ls.getD i []) key)) := hasAll_take ls key
 have HA : Hid (hasAll (ls.take ls.length) key = hasAll ls key) := by unfold Hid; rw [List.take_length]
 have H0 : Hid (hasAll (ls.take 0) key = []) := rfl
 have q1 : (ls.length : Int) ≤ 10 := by have := hf.1; omega
 clear hl hv hB hf
 generalize hN : ls.length = n at *
 have HN : Hid (ls.length = n) := hN
 clear hN
 have BE : Hid (Below w.heap.size w (w.alloc (.cells #[] 98))) := (Below.refl _ w).alloc (Nat.le_refl _) _
 have OE : Hid (Owns (w.alloc (.cells #[] 98)) w.heap.size 98 2 (.slice (some ⟨w.heap.size, 0, none⟩) 0 0) (ptR [])) := Owns.empty w w.heap.size 98 2 (Nat.le_refl _)
 go_enter Tryz.func104, Tryz.ntmps104
 go_wp2_with fail
 go_loopw [7, 8] (fun v7 v8 wr => ∃ i : Nat, i ≤ n ∧ v8 = .int .i64 (i : Int) ∧ Owns wr w.heap.size 98 2 v7 (ptR (hasAll (ls.take i) key)) ∧ Below w.heap.size w wr) (fun _ i _ => n - (intOf i).toNat)
 case atStart => exact ⟨0, by omega, rfl, by rw [H0.out]; exact OE.out, BE.out⟩
 case round =>
  obtain ⟨i, hi, rfl, hO, hb⟩ := hrel
  have HO : Hid (Owns wr w.heap.size 98 2 u7 (ptR (hasAll (ls.take i) key))) := hO
  have HBr : Hid (Below w.heap.size w wr) := hb
  obtain ⟨A3, n3, c3, rfl⟩ := hO.shape
  clear hO hb
  by_cases hlt : i < n
  ·have q4 : (i : Int) < (n : Int) := by omega
   obtain ⟨g, off, u, rfl, hg, e1, hu⟩ := HL.out i hlt
   have hgw : g < w.heap.size := Nat.lt_of_lt_of_le hg HB.out
   rw [← HBr.out.cell (p := ⟨_, _, none⟩) hgw] at e1
   have hfi := HF.out.2 _ (getD_memL ls i (by rw [HN.out]; exact hlt))
   have huw : SerV wr B u (ls.getD i []) := hu.on (HBr.out.mono HB.out)
   have c1 := specAt (ls.getD i []) key u wr B huw (by have := hfi.1; omega)
   obtain ⟨A', c', rfl, hlu⟩ := huw.look
   have HU : Hid (∀ j, j < (ls.getD i []).length → ∃ g off u, A' = some ⟨g, off, none⟩ ∧ g < B ∧ wr.cell? ⟨g, off + j * 2, none⟩ = some (.string ((ls.getD i []).getD j default).key) ∧ wr.cell? ⟨g, off + j * 2 + 1, none⟩ = some u ∧ Lies wr B 2 u (ptR ((ls.getD i []).getD j default).pts)) := hlu
   have HTi : Hid (hasAll (ls.take (i + 1)) key = mrg (hasAll (ls.take i) key) (ptsAt (ls.getD i []) key)) := HT.out i hlt
   have HFi : Hid (∀ x ∈ ls.getD i [], x.pts.length ≤ 200) := hfi.2
   have HHi : Hid ((hasAll (ls.take i) key).length ≤ 2000) := HH.out i
   have qm := hfi.1
   clear hu huw hlu hfi
   generalize ls.getD i [] = li at *
   generalize hasAll (ls.take i) key = a at *
   generalize hm : li.length = m at *
   have HM : Hid (li.length = m) := hm
   clear hm
   have qm' : (m : Int) ≤ 10 := by omega
   go_wp2_with fail
   refine c1.mono ?_
   rintro e w2 ⟨⟨r, rfl, HR⟩, rfl⟩
   rcases HR.out with ⟨rfl, hno⟩ | ⟨j, rfl, hj, hk, hnk⟩
   ·have HE : Hid (hasAll (ls.take (i + 1)) key = a) := by unfold Hid; rw [HTi.out, ptsAt_none hno, mrg_nil]
    clear hno HTi c1 HR
    go_wp2_with fail
    go_roundw
    case rel => exact ⟨i + 1, by omega, by go_num, by rw [HE.out]; exact HO.out, HBr.out⟩
    case measure => simp [intOf]; omega
   ·rw [HM.out] at hj
    have q5 : (j : Int) < (m : Int) := by omega
    obtain ⟨g2, off2, u2, rfl, hg2, d1, d2, hu2⟩ := HU.out j hj
    have HE : Hid (hasAll (ls.take (i + 1)) key = mrg a (li.getD j default).pts) := by unfold Hid; rw [HTi.out, ptsAt_at (by rw [HM.out]; exact hj) hk hnk]
    have hpl := HFi.out _ (getD_mem li j (by rw [HM.out]; exact hj))
    have c2 := specMergeL a (li.getD j default).pts (.slice A3 n3 c3) u2 wr wr.heap.size HO.out.lies (hu2.mono (Nat.le_trans HB.out HBr.out.size)) (by have := HHi.out; omega) (Nat.le_refl _)
    obtain ⟨A6, c6, rfl, _⟩ := pt_look hu2
    have Z : Hid (w.heap.size ≤ wr.heap.size) := HBr.out.size
    clear hk hnk HTi c1 HR d1 hu2
    generalize (li.getD j default).pts = pj at *
    generalize pj.length = pl at *
    go_wp2_with fail
    refine c2.mono ?_
    rintro e w2 ⟨⟨u, rfl, hO⟩, hb⟩
    have O3 : Hid (Owns w2 w.heap.size 98 2 u (ptR (hasAll (ls.take (i + 1)) key))) := by unfold Hid; rw [HE.out]; exact hO.mono Z.out
    have B3 : Hid (Below w.heap.size w w2) := HBr.out.trans (hb.mono Z.out)
    clear hO hb c2
    go_wp2_with fail
    go_roundw
    case rel => exact ⟨i + 1, by omega, by go_num, O3.out, B3.out⟩
    case measure => simp [intOf]; omega
  ·obtain rfl : i = n := by omega
   have c2 := specSliceL (hasAll (ls.take i) key) f 1099511627777 (.slice A3 n3 c3) wr wr.heap.size HO.out.lies (by have := HH.out i; omega) (Nat.le_refl _)
   rw [HA.out] at c2
   have Z : Hid (w.heap.size ≤ wr.heap.size) := HBr.out.size
   go_wp2_with fail
   refine c2.mono ?_
   rintro e w2 ⟨⟨u, rfl, hO⟩, hb⟩
   have O3 : Hid (Owns w2 w.heap.size 98 2 u (ptR ((hasAll ls key).filter (inP f 1099511627777)))) := hO.mono Z.out
   have B3 : Hid (Below w.heap.size w w2) := HBr.out.trans (hb.mono Z.out)
   clear hO hb c2
   go_wp2_with fail
   go_ret
   exact ⟨⟨_, rfl, O3.out⟩, B3.out⟩
end Go.Proofs.YthhamlahdjokkaaGreatDoor
namespace Go.Proofs.YthhamlahdjokkaaGreatDoor
open Go.RowKit Go.PlainAid
def fourN (l : List Ser) (j i : Nat) : Nat := if i = 0 then atB l j else if i = 1 then (blkB l j).length else if i = 2 then fT l j else lT l j
theorem four_cat (l : List Ser) (j : Nat) : cat (fun i => vF 6 (fourN l j i)) 4 = vF 6 (atB l j) ++ (vF 6 (blkB l j).length ++ (vF 6 (fT l j) ++ vF 6 (lT l j))) := by
 rw [cat_succ, cat_succ, cat_succ, cat_succ, cat_zero]
 simp only [fourN, List.nil_append, List.append_assoc]
 rfl
theorem GoodF.ends {s : ByteArray} {m : List Ser} (h : GoodF s m) : s.size - 8 = posF m m.length ∧ 12 ≤ s.size ∧ rdv (rest s (s.size - 8)) 4 = posF m 0 ∧ posF m 0 ≤ s.size - 8 := by
 have hp := posF_end h.2.1
 obtain ⟨h1, h2⟩ := begin_read h.2.1
 rw [h.text] at *
 have ee : (txt (fileB m)).size - 8 = posF m m.length := by rw [txt_size]; omega
 have h0 : posF m 0 = atB m m.length := by unfold posF idxB; rw [cat_zero]; rfl
 refine ⟨ee, h2, by rw [h1, h0], ?_⟩
 rw [ee]
 rcases Nat.eq_zero_or_pos m.length with h3 | h3
 ·rw [h3]; exact Nat.le_refl _
 ·exact Nat.le_of_lt (posF_lt h.2.1 0 h3)
theorem GoodF.more {s : ByteArray} {m : List Ser} (h : GoodF s m) (k : Nat) (hk : k ≤ m.length) (hp : posF m k < s.size - 8) : k < m.length := by
 rcases Nat.lt_or_ge k m.length with h1 | h1
 ·exact h1
 ·exfalso
  have : k = m.length := by omega
  subst this
  rw [h.ends.1] at hp
  omega
theorem GoodF.last {s : ByteArray} {m : List Ser} (h : GoodF s m) (k : Nat) (hk : k ≤ m.length) (hp : ¬ posF m k < s.size - 8) : k = m.length := by
 rcases Nat.lt_or_ge k m.length with h1 | h1
 ·exfalso
  rw [h.ends.1] at hp
  exact hp (posF_lt h.2.1 k h1)
 ·omega
theorem GoodF.step {s : ByteArray} {m : List Ser} (h : GoodF s m) (k : Nat) (hk : k < m.length) (p : Nat) (hp : p = posF m k) :
  rvN (s.extract p (s.size - 8)) = (sAt m k).key.size ∧ 1 ≤ rvK (s.extract p (s.size - 8)) ∧ p + rvK (s.extract p (s.size - 8)) + (sAt m k).key.size ≤ s.size - 8 ∧
  s.extract (p + rvK (s.extract p (s.size - 8))) (p + rvK (s.extract p (s.size - 8)) + (sAt m k).key.size) = (sAt m k).key ∧
  Rd (s.extract (p + rvK (s.extract p (s.size - 8)) + (sAt m k).key.size) (s.size - 8)) 4 (rowOf (fun i => (fourN m k i : Int)) 4) (cat (fun i => vF 6 (fourN m k i)) 4).length ∧
  p + rvK (s.extract p (s.size - 8)) + (sAt m k).key.size + (cat (fun i => vF 6 (fourN m k i)) 4).length = posF m (k + 1) ∧
  atB m k ≤ s.size ∧ (blkB m k).length ≤ s.size - atB m k ∧ s.extract (atB m k) (atB m k + (blkB m k).length) = showB (sAt m k).pts := by
 have hok := h.2.1
 obtain ⟨hend, h12, _, _⟩ := h.ends
 obtain ⟨a, b, hf, ha, hb⟩ := file_at m k hk
 obtain ⟨n1, n2, n3, n4, n5⟩ := nums_le hok k hk
 have hs := h.text
 have hblk := blk_read (l := m) k hk
 have hsp : spB m k = vF 6 (sAt m k).key.size ++ (bl (sAt m k).key ++ cat (fun i => vF 6 (fourN m k i)) 4) := by rw [four_cat]; rfl
 have hlen : posF m m.length = a.length + (spB m k ++ b).length := by
  rw [ha]
  unfold posF
  rw [hb]
  simp only [List.length_append]
  omega
 subst hp
 rw [← ha]
 generalize hK : (sAt m k).key = K at *
 generalize hC : cat (fun i => vF 6 (fourN m k i)) 4 = C at *
 generalize hT : low (atB m m.length) 4 ++ low (crc (txt (bodyF m))) 4 = T at *
 have e0 : fileB m = a ++ ((spB m k ++ b) ++ T) := by rw [hf]; simp only [List.append_assoc]
 have x0 : s.extract a.length (s.size - 8) = txt (vF 6 K.size ++ (bl K ++ (C ++ b))) := by
  rw [hend, hlen, hs, e0, extract_mid, hsp]
  simp only [List.append_assoc]
 have hr := rv_var K.size (bl K ++ (C ++ b)) n1
 rw [← x0] at hr
 rw [hr.1, hr.2]
 have hpos : 1 ≤ (vF 6 K.size).length := vF_pos _ _
 have hsl : (spB m k ++ b).length = (vF 6 K.size).length + (K.size + (C.length + b.length)) := by rw [hsp]; simp only [List.length_append, bl_length]; omega
 have e1 : fileB m = (a ++ vF 6 K.size) ++ (bl K ++ (C ++ b ++ T)) := by rw [e0, hsp]; simp only [List.append_assoc]
 have e2 : fileB m = (a ++ vF 6 K.size ++ bl K) ++ ((C ++ b) ++ T) := by rw [e0, hsp]; simp only [List.append_assoc]
 have x1 := extract_mid (a ++ vF 6 K.size) (bl K) (C ++ b ++ T)
 rw [← e1, ← hs, List.length_append, bl_length, txt_bl] at x1
 have x2 := extract_mid (a ++ vF 6 K.size ++ bl K) (C ++ b) T
 rw [← e2, ← hs, List.length_append, List.length_append, bl_length] at x2
 have e3 : a.length + (vF 6 K.size).length + K.size + (C ++ b).length = s.size - 8 := by rw [hend, hlen, hsl, List.length_append]; omega
 rw [e3] at x2
 have hrd := rd_cat (fourN m k) 4 (fun i _ => by unfold fourN; split; exact n2; split; exact n3; split; exact n4; exact n5) b 4 (Nat.le_refl _)
 rw [hC] at hrd
 have hat : atB m k + (blkB m k).length ≤ s.size := by
  obtain ⟨c, hc⟩ := cat_split (blkB m) k m.length hk
  have e4 : (blks m m.length).length = (blks m k).length + ((blkB m k).length + c.length) := by
   show (cat (blkB m) m.length).length = _
   rw [hc]
   simp only [List.length_append]
   rfl
  have := bodyF_length hok
  rw [hs, txt_size, fileB_length, this.1]
  unfold atB
  omega
 refine ⟨rfl, hpos, ?_, x1, ?_, ?_, by omega, by omega, ?_⟩
 ·rw [hend, hlen, hsl]
  omega
 ·rw [x2]
  exact hrd
 ·rw [posF_succ, ← ha, hsp]
  simp only [List.length_append, bl_length]
  omega
 ·rw [← hs] at hblk
  rw [← hblk]
  unfold blkA spotOf tk
  simp only
  rw [show min (atB m k) s.size = atB m k by omega, show min (atB m k + (blkB m k).length) s.size = atB m k + (blkB m k).length by omega]
theorem four_at (m : List Ser) (k : Nat) : (rowOf (fun i => (fourN m k i : Int)) 4).getD 0 0 = (atB m k : Int) ∧ (rowOf (fun i => (fourN m k i : Int)) 4).getD 1 0 = ((blkB m k).length : Int) := ⟨rfl, rfl⟩
theorem take_sAt {m : List Ser} (k : Nat) (hk : k < m.length) : m.take (k + 1) = m.take k ++ [sAt m k] := take_getD m k hk
theorem GoodF.pts {s : ByteArray} {m : List Ser} (h : GoodF s m) (k : Nat) (hk : k < m.length) : Good (showB (sAt m k).pts) (sAt m k).pts := ⟨(h.2.1.2 k hk).2.1, (h.2.1.2 k hk).2.2, rfl⟩
end Go.Proofs.YthhamlahdjokkaaGreatDoor
namespace Go.Proofs.YthhamlahdjokkaaGreatDoor
open Go.ChangeShapes Go.WideShapes Go.ChangeAt Go.RowKit Go.PlainAid
set_option linter.unusedVariables false
set_option maxRecDepth 20000 in
set_option maxHeartbeats 4000000 in
theorem specReadBlock (s : ByteArray) (w : World) (hs : s.size ≤ 1048576) : Calls Tryz.prog 165 #[.string s] w fun e w' => (∃ u l ok, RbAns s l ok ∧ e = .returned (.tuple #[u, .bool ok]) ∧ Owns w' w.heap.size 98 2 u (ptR l)) ∧ Below w.heap.size w w' := by
 obtain ⟨k0, c0, hu, hk0⟩ := unf_body s
 have HK0 : Hid ((code s = 0 ∧ k0 = 8 + rdv s 4) ∨ (code s ≠ 0 ∧ k0 = 0 ∧ bodyR s = ⟨#[]⟩)) := hk0
 have cU := fun wx => spec_unframe s wx hs
 rw [hu] at cU
 have hbz := bodyR_size s
 have qs : (s.size : Int) ≤ 1048576 := by omega
 have q0 : (k0 : Int) ≤ 3000 := by
  rcases hk0 with ⟨h1, h2⟩ | ⟨_, h2, _⟩
  ·have := ((code_zero s).1 h1).2.2.1; omega
  ·omega
 have E0 : Hid (Owns (w.alloc (.cells #[] 98)) w.heap.size 98 2 (.slice (some ⟨w.heap.size, 0, none⟩) 0 0) (ptR [])) := Owns.empty w _ _ _ (Nat.le_refl _)
 have B0 : Hid (Below w.heap.size w (w.alloc (.cells #[] 98))) := (Below.refl _ _).alloc (Nat.le_refl _) _
 clear hu hk0
 go_enter Tryz.func165, Tryz.ntmps165
 go_wp2_with fail
 generalize w.alloc (.cells #[] 98) = w0 at *
 refine (cU w0).mono ?_
 rintro e w1 ⟨rfl, hb⟩
 have B1 : Hid (Below w.heap.size w w1) := B0.out.trans (hb.mono B0.out.size)
 have E1 : Hid (Owns w1 w.heap.size 98 2 (.slice (some ⟨w.heap.size, 0, none⟩) 0 0) (ptR [])) := E0.out.on hb
 clear hb cU
 have cV := spec_readVar (bodyR s) w1 (by omega)
 go_wp2_with fail
 refine cV.mono ?_
 rintro e w2 ⟨hRV, hb⟩
 obtain ⟨n, k, hRd, rfl⟩ := hRV.rd
 have hle := hRd.le
 have HR : Hid (RdV (bodyR s) n k) := hRd
 have B2 : Hid (Below w.heap.size w w2) := B1.out.trans (hb.mono B1.out.size)
 have E2 : Hid (Owns w2 w.heap.size 98 2 (.slice (some ⟨w.heap.size, 0, none⟩) 0 0) (ptR [])) := E1.out.on hb
 have qk : (k : Int) ≤ 7 := by omega
 have qb : ((bodyR s).size : Int) ≤ 2000 := by omega
 have qkb : (k : Int) ≤ ((bodyR s).size : Int) := by omega
 have hkb : k ≤ (bodyR s).size := hle.1
 have HKG : Hid (∀ m, Good s m → k ≠ 0 ∧ k0 = s.size) := fun m hm => by
  have h1 := (HR.out.one hm.steps.rn).2
  have h2 := vF_pos 6 m.length
  obtain ⟨r1, r2, _⟩ := hm.read
  rcases HK0.out with ⟨_, h3⟩ | ⟨h3, _⟩
  ·exact ⟨by omega, by omega⟩
  ·exact absurd r1 h3
 clear hRd hRV cV hle hb
 by_cases hk1 : k = 0
 ·have HNO : Hid (∀ m, ¬ Good s m) := fun m hm => (HKG.out m hm).1 hk1
  subst hk1
  go_wp2_with fail
  go_ret2
  exact ⟨⟨_, [], false, .inr ⟨rfl, rfl, HNO.out⟩, rfl, E2.out⟩, B2.out⟩
 have d0 : decide (k = 0) = false := decide_eq_false hk1
 have d1 : ((k : Int) == 0) = false := by rw [beq_eq_false_iff_ne]; omega
 by_cases hk2 : k0 ≠ s.size
 ·have HNO : Hid (∀ m, ¬ Good s m) := fun m hm => hk2 (HKG.out m hm).2
  have d2 : ((k0 : Int) == (s.size : Int)) = false := by rw [beq_eq_false_iff_ne]; omega
  have d3 : ¬ k0 = s.size := hk2
  go_wp2_with fail
  go_ret2
  exact ⟨⟨_, [], false, .inr ⟨rfl, rfl, HNO.out⟩, rfl, E2.out⟩, B2.out⟩
 have hk2' : k0 = s.size := Decidable.not_not.1 hk2
 have HK2 : Hid (k0 = s.size) := hk2'
 have d2 : ((k0 : Int) == (s.size : Int)) = true := beq_iff_eq.2 (by omega)
 clear hk2
 have cT := specReadTimesA ((bodyR s).extract k (bodyR s).size) n w2 (by rw [ByteArray.size_extract]; omega)
 subst hk2'
 go_wp2_with fail
 refine cT.mono ?_
 rintro e w3 ⟨⟨t, a, ut, hAT, rfl, hNT⟩, hb⟩
 have HAT : Hid (RdAns showT rowT ((bodyR s).extract k (bodyR s).size) n t a) := hAT
 have hsh := hAT.short rowT_length
 have LT : Hid (t.length ≤ 60) := hsh.1
 have hak : k + a ≤ (bodyR s).size := by have h2 := hsh.2; rw [ByteArray.size_extract] at h2; omega
 have B3 : Hid (Below w.heap.size w w3) := B2.out.trans (hb.mono B2.out.size)
 have E3 : Hid (Owns w3 w.heap.size 98 2 (.slice (some ⟨w.heap.size, 0, none⟩) 0 0) (ptR [])) := E2.out.on hb
 have NT : Hid (Nums w3 w2.heap.size ut t) := hNT
 have qa : (k : Int) + (a : Int) ≤ ((bodyR s).size : Int) := by omega
 have qa1 : (a : Int) ≤ 2000 := by omega
 have ena : ((k : Int) + (a : Int)).toNat = k + a := by omega
 have HAG : Hid (∀ m, Good s m → a ≠ 0) := fun m hm => by
  have hst := hm.steps
  obtain ⟨e1, e2⟩ := HR.out.one hst.rn
  subst e1
  subst e2
  have h1 := (HAT.out.one hst.rt).2
  have h2 := cat_pos (tPiece (ts m)) m.length hm.1 (vF_pos _ _)
  omega
 clear hAT hNT hb cT hsh
 by_cases ha : a = 0
 ·have HNO : Hid (∀ m, ¬ Good s m) := fun m hm => HAG.out m hm ha
  subst ha
  go_wp2_with fail
  go_ret2
  exact ⟨⟨_, [], false, .inr ⟨rfl, rfl, HNO.out⟩, rfl, E3.out⟩, B3.out⟩
 have d4 : decide (a = 0) = false := decide_eq_false ha
 have d5 : ((a : Int) == 0) = false := by rw [beq_eq_false_iff_ne]; omega
 have cW := specReadValuesA ((bodyR s).extract (k + a) (bodyR s).size) n w3 (by rw [ByteArray.size_extract]; omega)
 go_wp2_with fail
 refine cW.mono ?_
 rintro e w4 ⟨⟨v, b, uv, hAV, rfl, hNV⟩, hb⟩
 have HST : Hid (Steps s n k t a v b) := ⟨HR.out, HAT.out, hAV⟩
 have hsv := hAV.short rowV_length
 have LV : Hid (v.length ≤ 60) := hsv.1
 have hbk : k + a + b ≤ (bodyR s).size := by have h2 := hsv.2; rw [ByteArray.size_extract] at h2; omega
 have B4 : Hid (Below w.heap.size w w4) := B3.out.trans (hb.mono B3.out.size)
 have E4 : Hid (Owns w4 w.heap.size 98 2 (.slice (some ⟨w.heap.size, 0, none⟩) 0 0) (ptR [])) := E3.out.on hb
 have NT4 : Hid (Nums w4 w2.heap.size ut t) := NT.out.on hb
 have NV4 : Hid (Nums w4 w3.heap.size uv v) := hNV
 have qb1 : (b : Int) ≤ 2000 := by omega
 have qab : (k : Int) + (a : Int) + (b : Int) ≤ ((bodyR s).size : Int) := by omega
 clear hAV hNV hb cW NT hsv
 by_cases hb0 : b = 0
 ·have HNO : Hid (∀ m, ¬ Good s m) := fun m hm => by have := (HST.out.good hm).2.2.2.2.2.2.1; omega
  subst hb0
  go_wp2_with fail
  go_ret2
  exact ⟨⟨_, [], false, .inr ⟨rfl, rfl, HNO.out⟩, rfl, E4.out⟩, B4.out⟩
 have d6 : decide (b = 0) = false := decide_eq_false hb0
 have d7 : ((b : Int) == 0) = false := by rw [beq_eq_false_iff_ne]; omega
 by_cases hlen : k + a + b ≠ (bodyR s).size
 ·have HNO : Hid (∀ m, ¬ Good s m) := fun m hm => hlen (HST.out.good hm).2.2.2.2.2.2.2
  have d8 : ((k : Int) + (a : Int) + (b : Int) == ((bodyR s).size : Int)) = false := by rw [beq_eq_false_iff_ne]; omega
  have d9 : ¬ (k : Int) + (a : Int) + (b : Int) = ((bodyR s).size : Int) := by omega
  go_wp2_with fail
  go_ret2
  exact ⟨⟨_, [], false, .inr ⟨rfl, rfl, HNO.out⟩, rfl, E4.out⟩, B4.out⟩
 have hlen' : k + a + b = (bodyR s).size := Decidable.not_not.1 hlen
 have d8 : ((k : Int) + (a : Int) + (b : Int) == ((bodyR s).size : Int)) = true := beq_iff_eq.2 (by omega)
 have d10 : ((k : Int) + (a : Int) + (b : Int) != ((bodyR s).size : Int)) = false := by rw [bne, d8]; rfl
 have hc : code s = 0 := by
  rcases HK0.out with ⟨h1, _⟩ | ⟨_, _, h3⟩
  ·exact h1
  ·rw [h3] at hkb
   have : (ByteArray.mk #[]).size = 0 := rfl
   omega
 have h8 : 8 + rdv s 4 = s.size := by
  rcases HK0.out with ⟨_, h1⟩ | ⟨h1, _⟩
  ·omega
  ·exact absurd hc h1
 obtain ⟨hg, htv, hn⟩ := HST.out.back hc h8 hk1 ha hb0 hlen'
 have HG : Hid (Good s (zipP t v)) := hg
 have HZL : Hid ((zipP t v).length = t.length) := by unfold Hid; rw [zipP_length]; omega
 have HZG : Hid (∀ k, k < t.length → k < v.length → (zipP t v).take (k + 1) = (zipP t v).take k ++ [⟨t.getD k 0, v.getD k 0⟩]) := zipP_get t v
 subst hn
 obtain ⟨At, ct, rfl, _, _, h1⟩ := NT4.out.lies
 obtain ⟨Av, cv, rfl, _, _, h2⟩ := NV4.out.lies
 have HT : Hid (∀ j, j < t.length → ∃ g off, At = some ⟨g, off, none⟩ ∧ g < w4.heap.size ∧ w4.cell? ⟨g, off + j, none⟩ = some (.int .i64 (t.getD j 0))) := h1
 have HV : Hid (∀ j, j < v.length → ∃ g off, Av = some ⟨g, off, none⟩ ∧ g < w4.heap.size ∧ w4.cell? ⟨g, off + j, none⟩ = some (.int .i64 (v.getD j 0))) := h2
 have q9 : (t.length : Int) ≤ 60 := by have := LT.out; omega
 clear h1 h2 hlen hg HAG HKG HK0 HK2 hbk
 generalize hm : v.length = m at *
 generalize hn : t.length = N at *
 subst htv
 clear hm hn
 go_wp2_with fail
 go_loopw [14, 15] (fun v14 v15 wr => ∃ k : Nat, k ≤ N ∧ v15 = .int .i64 (k : Int) ∧ Owns wr w4.heap.size 98 2 v14 (ptR ((zipP t v).take k)) ∧ Below w4.heap.size w4 wr) (fun _ i _ => N - (intOf i).toNat)
 case atStart => exact ⟨0, by omega, rfl, by rw [List.take_zero]; exact Owns.empty w4 _ _ _ (Nat.le_refl _), (Below.refl _ _).alloc (Nat.le_refl _) _⟩
 case round =>
  clear hlen' d8 ena hc h8 hak hkb d0 d1 d2 d4 d5 d6 d7 hk1 ha hb0 qab qa qkb
  obtain ⟨k, hk, rfl, hO, hb⟩ := hrel
  have HO : Hid (Owns wr w4.heap.size 98 2 u14 (ptR ((zipP t v).take k))) := hO
  have HB1 : Hid (Below w4.heap.size w4 wr) := hb
  clear hO hb
  by_cases hlt : k < N
  ·have q3 : (k : Int) < (N : Int) := by omega
   obtain ⟨gt, ot, rfl, hgt, hc1⟩ := HT.out k hlt
   obtain ⟨gv, ov, rfl, hgv, hc2⟩ := HV.out k hlt
   have HZ : Hid ((zipP t v).take (k + 1) = (zipP t v).take k ++ [⟨t.getD k 0, v.getD k 0⟩]) := HZG.out k hlt hlt
   rw [← HB1.out.cell (p := ⟨_, _, none⟩) hgt] at hc1
   rw [← HB1.out.cell (p := ⟨_, _, none⟩) hgv] at hc2
   generalize t.getD k 0 = x at *
   generalize v.getD k 0 = y at *
   have hz : w4.heap.size ≤ wr.drew.heap.size := HB1.out.size
   obtain ⟨nA, nm, nc, w5, r5, hO5, hb5, hk5, _⟩ := run_append_row (P := Tryz.prog) wr.drew 99 99 98 (.agg #[.int .i64 0, .int .i64 0]) 2 16 Tryz.underlying99 Tryz.infoPt rfl (by omega) w4.heap.size u14 (ptR ((zipP t v).take k)) (HO.out.kept fun _ _ _ => rfl) [.int .i64 x, .int .i64 y] rfl (pt_cells x y) (by rw [ptR_length, List.length_take]; omega) (by omega) hz
   have B5 : Hid (Below w4.heap.size w4 w5) := (HB1.out.drew).trans hb5
   have O5 : Hid (Owns w5 w4.heap.size 98 2 (.slice nA nm nc) (ptR ((zipP t v).take (k + 1)))) := by unfold Hid; rw [HZ.out, ptR_snoc']; exact hO5
   have S0 : Hid (wr.drew.cell? ⟨gt, ot + k, none⟩ = some (.int .i64 x) ∧ wr.drew.cell? ⟨gv, ov + k, none⟩ = some (.int .i64 y)) := ⟨hc1, hc2⟩
   clear hc1 hc2 hO5 hb5 hk5
   clear hgt hgv
   go_wp2_with fail
   refine wp_region_until (fun w' => w'.cell? ⟨gt, ot + k, none⟩ = some (.int .i64 x) ∧ w'.cell? ⟨gv, ov + k, none⟩ = some (.int .i64 y)) (fun i => i == 11 || i == 12) 13 (by rfl) (by kernel_rfl) ?_
   refine tKf 0 S0.out ?_
   refine tKf 1 S0.out ?_
   refine tKf 2 S0.out ?_
   refine tKf 3 S0.out ?_
   refine tKf 4 S0.out ?_
   refine tKf 5 S0.out ?_
   refine tKf 6 S0.out ?_
   refine tKf 7 S0.out ?_
   refine tKf 8 S0.out ?_
   refine tKf 9 S0.out ?_
   refine uNe 10 (fun K hK => ?_)
   go_simp
   refine hK.out _ _ (fun _ h => ⟨cell_alloc_keep h.1 _, cell_alloc_keep h.2 _⟩) ?_
   clear hK K
   try simp only [Act.put, zQ1, zQ2, zQ3]
   refine uNe 11 (fun K hK => ?_)
   refine step_append_run (by rfl) (.tmp 77) (.tmp 87) 99 (by rfl) _ _ _ _ (by rfl) (by rfl) r5 ?_
   refine hK.out _ _ (fun h => by cases h) ?_
   clear hK K
   try simp only [Act.put, zQ1, zQ2, zQ3]
   refine uNe 12 (fun K hK => ?_)
   go_simp
   refine hK.out _ _ (fun h => by cases h) ?_
   clear hK K
   try simp only [Act.put, zQ1, zQ2, zQ3]
   refine until_done (by kernel_rfl) ?_ _
   go_wp2_with fail
   go_roundw
   case rel => exact ⟨k + 1, by omega, by go_num, O5.out, B5.out⟩
   case measure => simp [intOf]; omega
  ·obtain rfl : k = N := by omega
   have hF := HO.out
   rw [List.take_of_length_le (by rw [HZL.out]; exact Nat.le_refl _)] at hF
   have HF : Hid (Owns wr w.heap.size 98 2 u14 (ptR (zipP t v))) := hF.mono B4.out.size
   have BF : Hid (Below w.heap.size w wr) := B4.out.trans (HB1.out.mono B4.out.size)
   clear hF HO
   go_wp2_with fail
   go_ret2
   exact ⟨⟨_, zipP t v, true, .inl ⟨rfl, HG.out⟩, rfl, HF.out⟩, BF.out⟩
end Go.Proofs.YthhamlahdjokkaaGreatDoor
namespace Go.Proofs.YthhamlahdjokkaaGreatDoor
open Go.ChangeShapes Go.WideShapes Go.ChangeAt Go.RowKit Go.PlainAid
set_option linter.unusedVariables false
def LKey (s : ByteArray) (L : List (Ser × Value)) : Prop := L.length ≤ 6 ∧ ∀ q ∈ L, q.1.pts.length ≤ 60 ∧ q.1.key.size ≤ s.size
theorem LKey.snoc {s : ByteArray} {L : List (Ser × Value)} (h : LKey s L) {x : Ser} {v : Value} (hl : L.length ≤ 5) (hp : x.pts.length ≤ 60) (hk : x.key.size ≤ s.size) : LKey s (L ++ [(x, v)]) := by
 refine ⟨by rw [List.length_append]; simp only [List.length_singleton]; omega, fun q hq => ?_⟩
 rcases List.mem_append.1 hq with hq | hq
 ·exact h.2 q hq
 ·rw [List.mem_singleton.1 hq]
  exact ⟨hp, hk⟩
def OnW (s : ByteArray) (k p : Nat) (l : List Ser) : Prop := ∀ m, GoodF s m → k ≤ m.length ∧ p = posF m k ∧ l = m.take k
theorem OnW.zero {s : ByteArray} (p : Nat) (hp : p = rdv (rest s (s.size - 8)) 4) : OnW s 0 p [] := fun m hm => ⟨Nat.zero_le _, by rw [hp, hm.ends.2.2.1], by simp⟩
theorem OnW.go {s : ByteArray} {k p : Nat} {l : List Ser} (h : OnW s k p l) (hp : p < s.size - 8) {m : List Ser} (hm : GoodF s m) : k < m.length ∧ p = posF m k := ⟨hm.more k (h m hm).1 (by rw [← (h m hm).2.1]; exact hp), (h m hm).2.1⟩
theorem OnW.var {s : ByteArray} {k p : Nat} {l : List Ser} (h : OnW s k p l) (hp : p < s.size - 8) (hb : rvK (s.extract p (s.size - 8)) = 0 ∨ s.size - 8 < p + rvK (s.extract p (s.size - 8)) + rvN (s.extract p (s.size - 8))) : ∀ m, ¬ GoodF s m := fun m hm => by
 obtain ⟨h1, h2⟩ := h.go hp hm
 obtain ⟨a1, a2, a3, _⟩ := hm.step k h1 p h2
 rw [a1] at hb
 omega
theorem OnW.no4 {s : ByteArray} {k p : Nat} {l : List Ser} (h : OnW s k p l) (hp : p < s.size - 8) (hb : RdNo (s.extract (p + rvK (s.extract p (s.size - 8)) + rvN (s.extract p (s.size - 8))) (s.size - 8)) 4) : ∀ m, ¬ GoodF s m := fun m hm => by
 obtain ⟨h1, h2⟩ := h.go hp hm
 obtain ⟨a1, a2, a3, a4, a5, _⟩ := hm.step k h1 p h2
 rw [a1] at hb
 exact a5.no hb
theorem OnW.four {s : ByteArray} {k p : Nat} {l : List Ser} (h : OnW s k p l) (hp : p < s.size - 8) {v : List Int} {n : Nat} (hr : Rd (s.extract (p + rvK (s.extract p (s.size - 8)) + rvN (s.extract p (s.size - 8))) (s.size - 8)) 4 v n) {m : List Ser} (hm : GoodF s m) : v.getD 0 0 = (atB m k : Int) ∧ v.getD 1 0 = ((blkB m k).length : Int) ∧ p + rvK (s.extract p (s.size - 8)) + rvN (s.extract p (s.size - 8)) + n = posF m (k + 1) := by
 obtain ⟨h1, h2⟩ := h.go hp hm
 obtain ⟨a1, a2, a3, a4, a5, a6, _⟩ := hm.step k h1 p h2
 rw [a1] at hr ⊢
 obtain ⟨rfl, rfl⟩ := hr.one a5
 exact ⟨(four_at m k).1, (four_at m k).2, a6⟩
theorem OnW.big {s : ByteArray} {k p : Nat} {l : List Ser} (h : OnW s k p l) (hp : p < s.size - 8) {v : List Int} {n : Nat} (hr : Rd (s.extract (p + rvK (s.extract p (s.size - 8)) + rvN (s.extract p (s.size - 8))) (s.size - 8)) 4 v n) (hb : (s.size : Int) < v.getD 0 0 ∨ (s.size : Int) - v.getD 0 0 < v.getD 1 0) : ∀ m, ¬ GoodF s m := fun m hm => by
 obtain ⟨e1, e2, _⟩ := h.four hp hr hm
 obtain ⟨h1, h2⟩ := h.go hp hm
 obtain ⟨a1, a2, a3, a4, a5, a6, a7, a8, _⟩ := hm.step k h1 p h2
 omega
theorem OnW.blk {s : ByteArray} {k p : Nat} {l : List Ser} (h : OnW s k p l) (hp : p < s.size - 8) {v : List Int} {n z0 z1 : Nat} (hr : Rd (s.extract (p + rvK (s.extract p (s.size - 8)) + rvN (s.extract p (s.size - 8))) (s.size - 8)) 4 v n) (e0 : v.getD 0 0 = (z0 : Int)) (e1 : v.getD 1 0 = (z1 : Int)) {q : List Pnt} {ok : Bool} (hq : RbAns (s.extract z0 (z0 + z1)) q ok) {m : List Ser} (hm : GoodF s m) : ok = true ∧ q = (sAt m k).pts := by
 obtain ⟨f1, f2, _⟩ := h.four hp hr hm
 obtain ⟨h1, h2⟩ := h.go hp hm
 obtain ⟨a1, a2, a3, a4, a5, a6, a7, a8, a9⟩ := hm.step k h1 p h2
 obtain rfl : z0 = atB m k := by omega
 obtain rfl : z1 = (blkB m k).length := by omega
 rw [a9] at hq
 have hg : RbAns (showB (sAt m k).pts) (sAt m k).pts true := .inl ⟨rfl, hm.pts k h1⟩
 obtain ⟨b1, b2⟩ := hq.one hg
 exact ⟨b2, b1⟩
theorem OnW.next {s : ByteArray} {k p : Nat} {l : List Ser} (h : OnW s k p l) (hp : p < s.size - 8) {v : List Int} {n z0 z1 : Nat} (hr : Rd (s.extract (p + rvK (s.extract p (s.size - 8)) + rvN (s.extract p (s.size - 8))) (s.size - 8)) 4 v n) (e0 : v.getD 0 0 = (z0 : Int)) (e1 : v.getD 1 0 = (z1 : Int)) {q : List Pnt} {ok : Bool} (hq : RbAns (s.extract z0 (z0 + z1)) q ok) : OnW s (k + 1) (p + rvK (s.extract p (s.size - 8)) + rvN (s.extract p (s.size - 8)) + n) (l ++ [⟨s.extract (p + rvK (s.extract p (s.size - 8))) (p + rvK (s.extract p (s.size - 8)) + rvN (s.extract p (s.size - 8))), q⟩]) := fun m hm => by
 obtain ⟨h1, h2⟩ := h.go hp hm
 obtain ⟨a1, a2, a3, a4, _⟩ := hm.step k h1 p h2
 obtain ⟨_, rfl⟩ := h.blk hp hr e0 e1 hq hm
 refine ⟨h1, (h.four hp hr hm).2.2, ?_⟩
 rw [a1, a4, (h m hm).2.2, take_sAt k h1]
theorem OnW.end {s : ByteArray} {k p : Nat} {l : List Ser} (h : OnW s k p l) (hp : ¬ p < s.size - 8) : ∀ m, GoodF s m → l = m := fun m hm => by
 obtain ⟨h1, h2, h3⟩ := h m hm
 have := hm.last k h1 (by rw [← h2]; exact hp)
 subst this
 rw [h3, List.take_length]
def IxAns (s : ByteArray) (w' : World) (b : Nat) (e : Ending) : Prop := ∃ u L ok, e = .returned (.tuple #[u, .bool ok]) ∧ SerO w' b u L ∧ LKey s L ∧ (∀ m, GoodF s m → ok = true ∧ L.map Prod.fst = m) ∧ (s.size < 12 → ok = false)
set_option maxRecDepth 10000 in
set_option maxHeartbeats 8000000 in
theorem specIndex (s : ByteArray) (w : World) (hs : s.size ≤ 1048576) : Calls Tryz.prog 123 #[.string s] w fun e w' => IxAns s w' w.heap.size e ∧ Below w.heap.size w w' := by
 have HS : Hid (s.size ≤ 1048576) := hs
 have q0 : (s.size : Int) ≤ 1048576 := by omega
 have E0 : Hid (SerO (w.alloc (.cells #[] 101)) w.heap.size (.slice (some ⟨w.heap.size, 0, none⟩) 0 0) []) := ⟨Owns.empty w w.heap.size 101 2 (Nat.le_refl _), fun p hp => (by cases hp), List.Pairwise.nil⟩
 have B0 : Hid (Below w.heap.size w (w.alloc (.cells #[] 101))) := (Below.refl _ w).alloc (Nat.le_refl _) _
 have LK0 : Hid (LKey s []) := ⟨by simp, fun q hq => (by cases hq)⟩
 by_cases h12 : s.size < 12
 ·have HN : Hid (∀ m, ¬ GoodF s m) := fun m hm => by have := hm.ends.2.1; omega
  have q1 : (s.size : Int) < 12 := by omega
  clear hs h12
  go_enter Tryz.func123, Tryz.ntmps123
  go_wp2_with fail
  exact bodyPost_ret (results_tmp2 rfl _ _ _) rfl ⟨⟨_, [], false, rfl, E0.out, LK0.out, fun m hm => absurd hm (HN.out m), fun _ => rfl⟩, B0.out⟩
 have H12 : Hid (¬ s.size < 12) := h12
 have q1 : (12 : Int) ≤ (s.size : Int) := by omega
 have d1 : decide ((s.size : Int) < 12) = false := decide_eq_false (by omega)
 have e2 : ((s.size : Int) - 8).toNat = s.size - 8 := by omega
 have HRs : Hid ((s.extract (s.size - 8) s.size).size = 8) := by unfold Hid; rw [ByteArray.size_extract]; omega
 have c1 := fun wx => spec_readFixed (s.extract (s.size - 8) s.size) 4 wx (by rw [HRs.out]; unfold maxLen; omega) (by omega) (by omega) (by rw [HRs.out]; omega)
 have hlt := rdv_four_lt (s.extract (s.size - 8) s.size)
 have HRb : Hid (rdv (s.extract (s.size - 8) s.size) 4 = rdv (rest s (s.size - 8)) 4) := rfl
 have HN0 : Hid (∀ m, GoodF s m → rdv (s.extract (s.size - 8) s.size) 4 ≤ s.size - 8) := fun m hm => by rw [HRb.out, hm.ends.2.2.1]; exact hm.ends.2.2.2
 have HW0 : Hid (OnW s 0 (rdv (s.extract (s.size - 8) s.size) 4) []) := OnW.zero _ HRb.out
 have HE8 : Hid (((s.size - 8 : Nat) : Int) = (s.size : Int) - 8) := by unfold Hid; omega
 clear hs h12 HRb
 generalize rdv (s.extract (s.size - 8) s.size) 4 = rd at *
 by_cases hbig : (s.size : Int) - 8 < (rd : Int)
 ·have HN : Hid (∀ m, ¬ GoodF s m) := fun m hm => by have := HN0.out m hm; omega
  go_enter Tryz.func123, Tryz.ntmps123
  go_wp2_with fail
  refine (c1 _).mono ?_
  rintro e w' ⟨rfl, rfl⟩
  go_wp2_with fail
  exact bodyPost_ret (results_tmp2 rfl _ _ _) rfl ⟨⟨_, [], false, rfl, E0.out, LK0.out, fun m hm => absurd hm (HN.out m), fun h => absurd h H12.out⟩, B0.out⟩
 have q2 : (rd : Int) ≤ (s.size : Int) - 8 := by omega
 have d2 : decide ((s.size : Int) - 8 < (rd : Int)) = false := decide_eq_false hbig
 clear hbig hlt HN0
 go_enter Tryz.func123, Tryz.ntmps123
 go_wp2_with fail
 refine (c1 _).mono ?_
 rintro e w' ⟨rfl, rfl⟩
 go_wp2_with fail
 clear c1
 go_loopw [4, 5] (fun v4 v5 wr => ∃ (k p : Nat) (L : List (Ser × Value)), L.length = k ∧ k ≤ 5 ∧ p ≤ s.size - 8 ∧ v5 = .int .i64 (p : Int) ∧ SerO wr w.heap.size v4 L ∧ LKey s L ∧ Hid (OnW s k p (L.map Prod.fst)) ∧ Below w.heap.size w wr) (fun _ i _ => s.size - 8 - (intOf i).toNat)
 case atStart => exact ⟨0, rd, [], rfl, by omega, by omega, rfl, E0.out, LK0.out, HW0.out, B0.out⟩
 case round =>
  obtain ⟨k, p, L, hLl, hk5, hp, rfl, hO, hLk, HX, hb⟩ := hrel
  have HLL : Hid (L.length = k) := hLl
  have HO : Hid (SerO wr w.heap.size u4 L) := hO
  have HLK : Hid (LKey s L) := hLk
  have HB1 : Hid (Below w.heap.size w wr) := hb
  clear hLl hO hLk hb
  by_cases hpe : p < s.size - 8
  ·have HPE : Hid (p < s.size - 8) := hpe
   have q5 : (p : Int) < (s.size : Int) - 8 := by omega
   have q6 : (p : Int) ≤ (s.size : Int) - 8 := by omega
   have hx8 : ((s.size : Int) - 8).toNat = s.size - 8 := e2
   have cv : ∀ wx, Calls Tryz.prog 122 #[.string (s.extract p (s.size - 8))] wx fun e w' => e = .returned (.tuple #[.int .i64 (rvN (s.extract p (s.size - 8)) : Int), .int .i64 (rvK (s.extract p (s.size - 8)) : Int)]) ∧ Below wx.heap.size wx w' := fun wx => by
    refine (spec_readVar (s.extract p (s.size - 8)) wx (by rw [ByteArray.size_extract]; have := HS.out; omega)).mono ?_
    rintro e w' ⟨h, hb⟩
    obtain ⟨n, kk, h1, rfl⟩ := h.rd
    obtain ⟨rfl, rfl⟩ := rv_is h1
    exact ⟨rfl, hb⟩
   have hkk := rvK_le (s.extract p (s.size - 8))
   have hnn := rvN_le (s.extract p (s.size - 8))
   rw [ByteArray.size_extract, Nat.min_eq_left (by omega)] at hkk
   have HVar : Hid ((rvK (s.extract p (s.size - 8)) = 0 ∨ s.size - 8 < p + rvK (s.extract p (s.size - 8)) + rvN (s.extract p (s.size - 8))) → ∀ m, ¬ GoodF s m) := HX.out.var hpe
   have HNo4 : Hid (RdNo (s.extract (p + rvK (s.extract p (s.size - 8)) + rvN (s.extract p (s.size - 8))) (s.size - 8)) 4 → ∀ m, ¬ GoodF s m) := HX.out.no4 hpe
   have HBig : Hid (∀ v n, Rd (s.extract (p + rvK (s.extract p (s.size - 8)) + rvN (s.extract p (s.size - 8))) (s.size - 8)) 4 v n → ((s.size : Int) < v.getD 0 0 ∨ (s.size : Int) - v.getD 0 0 < v.getD 1 0) → ∀ m, ¬ GoodF s m) := fun v n hr hb => HX.out.big hpe hr hb
   have HBlk : Hid (∀ v n (z0 z1 : Nat) q ok, Rd (s.extract (p + rvK (s.extract p (s.size - 8)) + rvN (s.extract p (s.size - 8))) (s.size - 8)) 4 v n → v.getD 0 0 = (z0 : Int) → v.getD 1 0 = (z1 : Int) → RbAns (s.extract z0 (z0 + z1)) q ok → ∀ m, GoodF s m → ok = true ∧ q = (sAt m k).pts) := fun v n z0 z1 q ok hr h0 h1 hq m hm => HX.out.blk hpe hr h0 h1 hq hm
   have HNext : Hid (∀ v n (z0 z1 : Nat) q ok, Rd (s.extract (p + rvK (s.extract p (s.size - 8)) + rvN (s.extract p (s.size - 8))) (s.size - 8)) 4 v n → v.getD 0 0 = (z0 : Int) → v.getD 1 0 = (z1 : Int) → RbAns (s.extract z0 (z0 + z1)) q ok → OnW s (k + 1) (p + rvK (s.extract p (s.size - 8)) + rvN (s.extract p (s.size - 8)) + n) (L.map Prod.fst ++ [⟨s.extract (p + rvK (s.extract p (s.size - 8))) (p + rvK (s.extract p (s.size - 8)) + rvN (s.extract p (s.size - 8))), q⟩])) := fun v n z0 z1 q ok hr h0 h1 hq => HX.out.next hpe hr h0 h1 hq
   have HK5 : Hid (∀ m, GoodF s m → k < 5) := fun m hm => by have := (HX.out.go hpe hm).1; have := hm.2.1.1; omega
   generalize rvN (s.extract p (s.size - 8)) = nn at *
   generalize rvK (s.extract p (s.size - 8)) = kk at *
   clear hpe
   by_cases hk0 : kk = 0
   ·have HN : Hid (∀ m, ¬ GoodF s m) := HVar.out (.inl hk0)
    subst hk0
    go_wp2_with fail
    refine (cv _).mono ?_
    rintro e Y1 ⟨rfl, hb1⟩
    have BY1 : Hid (Below w.heap.size w Y1) := HB1.out.trans (hb1.mono HB1.out.size)
    have OY1 : Hid (SerO Y1 w.heap.size u4 L) := HO.out.on hb1
    clear hb1
    go_wp2_with fail
    exact bodyPost_ret (results_tmp2 rfl _ _ _) rfl ⟨⟨_, L, false, rfl, OY1.out, HLK.out, fun m hm => absurd hm (HN.out m), fun _ => rfl⟩, BY1.out⟩
   have dk1 : ((kk : Int) == 0) = false := by rw [beq_eq_false_iff_ne]; omega
   have dk2 : decide ((kk : Int) = 0) = false := decide_eq_false (by omega)
   by_cases hnb : (s.size : Int) - 8 - (p : Int) - (kk : Int) < (nn : Int)
   ·have HN : Hid (∀ m, ¬ GoodF s m) := HVar.out (.inr (by omega))
    go_wp2_with fail
    refine (cv _).mono ?_
    rintro e Y1 ⟨rfl, hb1⟩
    have BY1 : Hid (Below w.heap.size w Y1) := HB1.out.trans (hb1.mono HB1.out.size)
    have OY1 : Hid (SerO Y1 w.heap.size u4 L) := HO.out.on hb1
    clear hb1
    go_wp2_with fail
    exact bodyPost_ret (results_tmp2 rfl _ _ _) rfl ⟨⟨_, L, false, rfl, OY1.out, HLK.out, fun m hm => absurd hm (HN.out m), fun _ => rfl⟩, BY1.out⟩
   have dn1 : decide ((s.size : Int) - 8 - (p : Int) - (kk : Int) < (nn : Int)) = false := decide_eq_false hnb
   have q7 : (p : Int) + (kk : Int) + (nn : Int) ≤ (s.size : Int) - 8 := by omega
   have i1 : ((p : Int) + (kk : Int)).toNat = p + kk := by omega
   have i2 : ((p : Int) + (kk : Int) + (nn : Int)).toNat = p + kk + nn := by omega
   have HP2 : Hid (p + kk + nn ≤ s.size - 8 ∧ 1 ≤ kk) := by unfold Hid; omega
   clear hnb
   have c4 := fun wx => specReadVars (s.extract (p + kk + nn) (s.size - 8)) 4 wx (by rw [ByteArray.size_extract]; have := HS.out; omega) (by omega) (by omega)
   go_wp2_with fail
   refine (cv _).mono ?_
   rintro e Y1 ⟨rfl, hb1⟩
   have BY1 : Hid (Below w.heap.size w Y1) := HB1.out.trans (hb1.mono HB1.out.size)
   have OY1 : Hid (SerO Y1 w.heap.size u4 L) := HO.out.on hb1
   clear hb1 cv
   go_wp2_with fail
   refine (c4 _).mono ?_
   rintro e Y2 ⟨hcase, hb2⟩
   have BY2 : Hid (Below w.heap.size w Y2) := BY1.out.trans (hb2.mono BY1.out.size)
   have OY2 : Hid (SerO Y2 w.heap.size u4 L) := OY1.out.on hb2
   have ZY : Hid (w.heap.size ≤ Y1.heap.size) := BY1.out.size
   clear hb2 c4
   rcases hcase with ⟨v, n, uv, hrd, rfl, hNm⟩ | ⟨hno, uv, rfl⟩
   ·have hvl := hrd.length
    have hvb0 := hrd.boundD 0
    have hvb1 := hrd.boundD 1
    have hrle := hrd.le.2
    rw [ByteArray.size_extract, Nat.min_eq_left (by omega)] at hrle
    obtain ⟨z0, hz0⟩ : ∃ z : Nat, v.getD 0 0 = (z : Int) := ⟨(v.getD 0 0).toNat, by omega⟩
    obtain ⟨z1, hz1⟩ : ∃ z : Nat, v.getD 1 0 = (z : Int) := ⟨(v.getD 1 0).toNat, by omega⟩
    obtain ⟨Av, cv, rfl, _, _⟩ := hNm.shape
    obtain ⟨gv, rfl, _, hgv⟩ := hNm.block (by omega)
    have f0 := hNm.cell 0 (by omega)
    have f1 := hNm.cell 1 (by omega)
    rw [hz0] at f0 hvb0
    rw [hz1] at f1 hvb1
    rw [hvl] at hNm
    have HR : Hid (Rd (s.extract (p + kk + nn) (s.size - 8)) 4 v n) := hrd
    have HZ : Hid (v.getD 0 0 = (z0 : Int) ∧ v.getD 1 0 = (z1 : Int)) := ⟨hz0, hz1⟩
    have S0 : Hid (Y2.drew.cell? ⟨gv, 0, none⟩ = some (.int .i64 (z0 : Int)) ∧ Y2.drew.cell? ⟨gv, 1, none⟩ = some (.int .i64 (z1 : Int))) := ⟨f0, f1⟩
    have HSV : Hid (Y2.cell? ⟨gv, 0, none⟩ = some (.int .i64 (z0 : Int)) ∧ Y2.cell? ⟨gv, 1, none⟩ = some (.int .i64 (z1 : Int))) := ⟨f0, f1⟩
    have q8 : (z0 : Int) ≤ 562949953421311 := hvb0.2
    have q9 : (z1 : Int) ≤ 562949953421311 := hvb1.2
    have HGV : Hid (gv < Y2.heap.size) := hgv
    have q10 : (p : Int) + (kk : Int) + (nn : Int) + (n : Int) ≤ (s.size : Int) - 8 := by omega
    rw [hvl]
    clear hvl hrle hvb0 hvb1 hNm f0 f1 hrd hz0 hz1 hgv
    by_cases hb0 : (s.size : Int) < (z0 : Int)
    ·have HN : Hid (∀ m, ¬ GoodF s m) := HBig.out v n HR.out (.inl (by rw [HZ.out.1]; exact hb0))
     go_wp2_with fail
     refine wp_region_until (fun w' => w'.cell? ⟨gv, 0, none⟩ = some (.int .i64 (z0 : Int)) ∧ w'.cell? ⟨gv, 1, none⟩ = some (.int .i64 (z1 : Int))) (fun _ => false) 22 (by rfl) (by kernel_rfl) ?_
     refine tKf 0 S0.out ?_
     refine tKf 1 S0.out ?_
     refine tKf 2 S0.out ?_
     refine tKf 3 S0.out ?_
     refine tKf 4 S0.out ?_
     refine tKf 5 S0.out ?_
     refine tKf 6 S0.out ?_
     refine tKf 7 S0.out ?_
     refine tKf 8 S0.out ?_
     refine tKf 9 S0.out ?_
     refine tKf 10 S0.out ?_
     refine sKf 11 ?_
     refine sKf 12 ?_
     refine sKf 13 ?_
     refine sKf 14 ?_
     refine sKf 15 ?_
     refine sKf 16 ?_
     refine sKf 17 ?_
     refine sKf 18 ?_
     refine sKf 19 ?_
     refine sKf 20 ?_
     refine tKf 21 S0.out ?_
     refine until_done (by kernel_rfl) ?_ _
     go_wp2_with fail
     exact bodyPost_ret (results_tmp2 rfl _ _ _) rfl ⟨⟨_, L, false, rfl, OY2.out, HLK.out, fun m hm => absurd hm (HN.out m), fun _ => rfl⟩, BY2.out.drew⟩
    have db0 : decide ((s.size : Int) < (z0 : Int)) = false := decide_eq_false hb0
    have db0n : decide (s.size < z0) = false := decide_eq_false (by omega)
    have nz0 : ¬ s.size < z0 := by omega
    have e20 : IntKind.i64.wrap ((s.size : Int) - (z0 : Int)) = (s.size : Int) - (z0 : Int) := by rw [IntKind.wrap_i64]; omega
    by_cases hb1 : (s.size : Int) - (z0 : Int) < (z1 : Int)
    ·have HN : Hid (∀ m, ¬ GoodF s m) := HBig.out v n HR.out (.inr (by rw [HZ.out.1, HZ.out.2]; exact hb1))
     go_wp2_with fail
     refine wp_region_until (fun w' => w'.cell? ⟨gv, 0, none⟩ = some (.int .i64 (z0 : Int)) ∧ w'.cell? ⟨gv, 1, none⟩ = some (.int .i64 (z1 : Int))) (fun _ => false) 22 (by rfl) (by kernel_rfl) ?_
     refine tKf 0 S0.out ?_
     refine tKf 1 S0.out ?_
     refine tKf 2 S0.out ?_
     refine tKf 3 S0.out ?_
     refine tKf 4 S0.out ?_
     refine tKf 5 S0.out ?_
     refine tKf 6 S0.out ?_
     refine tKf 7 S0.out ?_
     refine tKf 8 S0.out ?_
     refine tKf 9 S0.out ?_
     refine tKf 10 S0.out ?_
     refine tKf 11 S0.out ?_
     refine tKf 12 S0.out ?_
     refine tKf 13 S0.out ?_
     refine tKf 14 S0.out ?_
     refine tKf 15 S0.out ?_
     refine tKf 16 S0.out ?_
     refine tKf 17 S0.out ?_
     refine tKf 18 S0.out ?_
     refine tKf 19 S0.out ?_
     refine tKf 20 S0.out ?_
     refine tKf 21 S0.out ?_
     refine until_done (by kernel_rfl) ?_ _
     go_wp2_with fail
     exact bodyPost_ret (results_tmp2 rfl _ _ _) rfl ⟨⟨_, L, false, rfl, OY2.out, HLK.out, fun m hm => absurd hm (HN.out m), fun _ => rfl⟩, BY2.out.drew⟩
    have db1 : decide ((s.size : Int) - (z0 : Int) < (z1 : Int)) = false := decide_eq_false hb1
    have q11 : (z0 : Int) + (z1 : Int) ≤ (s.size : Int) := by omega
    have i3 : ((z0 : Int) + (z1 : Int)).toNat = z0 + z1 := by omega
    have i4 : (0 : Int) ≤ (z0 : Int) + (z1 : Int) := by omega
    have i5 : (z0 : Int) ≤ (z0 : Int) + (z1 : Int) := by omega
    have e21 : IntKind.i64.wrap ((z0 : Int) + (z1 : Int)) = (z0 : Int) + (z1 : Int) := by rw [IntKind.wrap_i64]; omega
    clear hb0 hb1
    have S1 : Hid (Y2.drew.drew.cell? ⟨gv, 0, none⟩ = some (.int .i64 (z0 : Int)) ∧ Y2.drew.drew.cell? ⟨gv, 1, none⟩ = some (.int .i64 (z1 : Int))) := HSV.out
    have cb := specReadBlock (s.extract z0 (z0 + z1)) Y2.drew.drew (by rw [ByteArray.size_extract]; have := HS.out; omega)
    go_wp2_with fail
    refine wp_region_until (fun w' => w'.cell? ⟨gv, 0, none⟩ = some (.int .i64 (z0 : Int)) ∧ w'.cell? ⟨gv, 1, none⟩ = some (.int .i64 (z1 : Int))) (fun _ => false) 22 (by rfl) (by kernel_rfl) ?_
    refine tKf 0 S0.out ?_
    refine tKf 1 S0.out ?_
    refine tKf 2 S0.out ?_
    refine tKf 3 S0.out ?_
    refine tKf 4 S0.out ?_
    refine tKf 5 S0.out ?_
    refine tKf 6 S0.out ?_
    refine tKf 7 S0.out ?_
    refine tKf 8 S0.out ?_
    refine tKf 9 S0.out ?_
    refine tKf 10 S0.out ?_
    refine tKf 11 S0.out ?_
    refine tKf 12 S0.out ?_
    refine tKf 13 S0.out ?_
    refine tKf 14 S0.out ?_
    refine tKf 15 S0.out ?_
    refine tKf 16 S0.out ?_
    refine tKf 17 S0.out ?_
    refine tKf 18 S0.out ?_
    refine tKf 19 S0.out ?_
    refine tKf 20 S0.out ?_
    refine tKf 21 S0.out ?_
    refine until_done (by kernel_rfl) ?_ _
    go_wp2_with fail
    refine wp_region_until (fun w' => w'.cell? ⟨gv, 0, none⟩ = some (.int .i64 (z0 : Int)) ∧ w'.cell? ⟨gv, 1, none⟩ = some (.int .i64 (z1 : Int))) (fun _ => false) 18 (by rfl) (by kernel_rfl) ?_
    refine tKf 0 S1.out ?_
    refine tKf 1 S1.out ?_
    refine tKf 2 S1.out ?_
    refine tKf 3 S1.out ?_
    refine tKf 4 S1.out ?_
    refine tKf 5 S1.out ?_
    refine tKf 6 S1.out ?_
    refine tKf 7 S1.out ?_
    refine tKf 8 S1.out ?_
    refine tKf 9 S1.out ?_
    refine pUf 10 ?_
    refine pUf 11 ?_
    refine uNe 12 (fun K hK => ?_)
    go_simp
    refine cb.mono ?_
    rintro e Y3 ⟨⟨u3, q3, ok3, hR3, rfl, hO3⟩, hb3⟩
    have BY3 : Hid (Below w.heap.size w Y3) := (BY2.out.drew.drew).trans (hb3.mono BY2.out.size)
    have OY3 : Hid (SerO Y3 w.heap.size u4 L) := (OY2.out.on (Below.refl _ Y2).drew.drew).on hb3
    have SY3 : Hid (Y3.cell? ⟨gv, 0, none⟩ = some (.int .i64 (z0 : Int)) ∧ Y3.cell? ⟨gv, 1, none⟩ = some (.int .i64 (z1 : Int))) := ⟨(hb3.cell (p := ⟨gv, 0, none⟩) HGV.out).trans HSV.out.1, (hb3.cell (p := ⟨gv, 1, none⟩) HGV.out).trans HSV.out.2⟩
    have HBl : Hid (∀ m, GoodF s m → ok3 = true ∧ q3 = (sAt m k).pts) := HBlk.out v n z0 z1 q3 ok3 HR.out HZ.out.1 HZ.out.2 hR3
    have HNx : Hid (OnW s (k + 1) (p + kk + nn + n) (L.map Prod.fst ++ [⟨s.extract (p + kk) (p + kk + nn), q3⟩])) := HNext.out v n z0 z1 q3 ok3 HR.out HZ.out.1 HZ.out.2 hR3
    have HQ3 : Hid (q3.length ≤ 60) := hR3.len
    have UY3 : Hid (Owns Y3 w.heap.size 98 2 u3 (ptR q3)) := hO3.mono BY2.out.size
    have AY3 : Hid (∀ q ∈ L, Apart q.2 u3) := fun q hq gg h1 h2 => by
     have := ((OY2.out.2.1 q hq).lt gg h1).2
     have := (hO3.lt gg h2).1
     have e : Y2.drew.drew.heap.size = Y2.heap.size := rfl
     omega
    clear hb3 hO3 hR3 cb
    go_wp2_with fail
    refine hK.out _ _ (fun _ _ => SY3.out) ?_
    clear hK K
    try simp only [Act.put, zQ1, zQ2, zQ3]
    refine pUf 13 ?_
    refine pUf 14 ?_
    refine pUf 15 ?_
    refine pUf 16 ?_
    refine pUf 17 ?_
    refine until_done (by kernel_rfl) ?_ _
    cases ok3 with
    | false =>
     have HN : Hid (∀ m, ¬ GoodF s m) := fun m hm => by have := (HBl.out m hm).1; cases this
     go_wp2_with fail
     exact bodyPost_ret (results_tmp2 rfl _ _ _) rfl ⟨⟨_, L, false, rfl, OY3.out, HLK.out, fun m hm => absurd hm (HN.out m), fun _ => rfl⟩, BY3.out⟩
    | true =>
    obtain ⟨A3, n3, c3, rfl⟩ := UY3.out.shape
    have Z3 : w.heap.size ≤ Y3.heap.size := BY3.out.size
    have L3 : Hid ((srR L).length ≤ 2097152) := by unfold Hid; rw [srR_length, HLL.out]; omega
    generalize hkey : s.extract (p + kk) (p + kk + nn) = xk at *
    have HKs : Hid (xk.size ≤ s.size) := by unfold Hid; rw [← hkey, ByteArray.size_extract]; omega
    have hpc : ∀ y ∈ ([.string xk, .slice A3 n3 c3] : List Value), y.oneCell' = true := by intro y hy; simp only [List.mem_cons, List.not_mem_nil, or_false] at hy; rcases hy with rfl | rfl <;> rfl
    go_wp2_with (at_builtin; refine wpList_append_row (w := Y3) rfl (.tmp 124) (.tmp 128) 33 101 (.agg #[.string ⟨#[]⟩, .slice none 0 0]) 2 40 rfl Tryz.underlying33 Tryz.infoSr rfl (by omega) w.heap.size u4 (srR L) rfl OY3.out.1 [.string xk, .slice A3 n3 c3] rfl hpc rfl L3.out (by omega) Z3 ?_; intro v2 w4 hO4 hb4 hk4 hw4; refine Shut.out ?_)
    unfold Shut
    have hne4 : ∀ (v : Value) (b : Nat) (e : TypeId) (sz : Nat) (r : List (List Value)), Owns Y3 b e sz v r → e ≠ 101 → Owns w4 b e sz v r := fun v b e sz r ho hne => ho.kept fun gg hg hv => hk4 gg hg (fun hu => ho.apartT OY3.out.1 hne gg hv hu)
    have O4 : Hid (SerO w4 w.heap.size v2 (L ++ [(⟨xk, q3⟩, .slice A3 n3 c3)])) := SerO.snoc (w1 := Y3) (v := u4) hO4 (fun q hq => hne4 _ _ _ _ _ (OY3.out.2.1 q hq) (by decide)) OY3.out.2.2 (hne4 _ _ _ _ _ UY3.out (by decide)) AY3.out
    have B4 : Hid (Below w.heap.size w w4) := BY3.out.trans hb4
    have LK4 : Hid (LKey s (L ++ [(⟨xk, q3⟩, Value.slice A3 n3 c3)])) := HLK.out.snoc (by rw [HLL.out]; exact hk5) HQ3.out HKs.out
    have LL4 : Hid ((L ++ [((⟨xk, q3⟩ : Ser), Value.slice A3 n3 c3)]).length = k + 1) := by unfold Hid; rw [List.length_append, HLL.out]; rfl
    have HNm : Hid (OnW s (k + 1) (p + kk + nn + n) ((L ++ [((⟨xk, q3⟩ : Ser), Value.slice A3 n3 c3)]).map Prod.fst)) := by unfold Hid; rw [List.map_append]; exact HNx.out
    obtain ⟨A4, c4, e4, _⟩ := sr_look O4.out.lies.1
    rw [LL4.out] at e4
    subst e4
    clear hO4 hb4 hk4 hw4 hne4 hpc
    by_cases hk6 : (5 : Int) < ((k + 1 : Nat) : Int)
    ·have HN : Hid (∀ m, ¬ GoodF s m) := fun m hm => by have := HK5.out m hm; omega
     go_wp2_with fail
     exact bodyPost_ret (results_tmp2 rfl _ _ _) rfl ⟨⟨_, _, false, rfl, O4.out, LK4.out, fun m hm => absurd hm (HN.out m), fun _ => rfl⟩, B4.out⟩
    have q12 : (k : Int) + 1 ≤ 5 := by omega
    have q13 : k + 1 ≤ 5 := by omega
    clear hk6
    have HM : Hid (((p + kk + nn + n : Nat) : Int) = (p : Int) + (kk : Int) + (nn : Int) + (n : Int)) := by unfold Hid; omega
    go_wp2_with fail
    go_roundw
    case rel => exact ⟨k + 1, p + kk + nn + n, _, LL4.out, by omega, by omega, by rw [HM.out], O4.out, LK4.out, HNm.out, B4.out⟩
    case measure => simp [intOf]; have := HP2.out; have := HPE.out; omega
   ·have HN : Hid (∀ m, ¬ GoodF s m) := HNo4.out hno
    go_wp2_with fail
    refine wp_region_until (fun _ => True) (fun _ => false) 22 (by rfl) (by kernel_rfl) ?_
    refine tKf 0 trivial ?_
    refine tKf 1 trivial ?_
    refine tKf 2 trivial ?_
    refine sKf 3 ?_
    refine sKf 4 ?_
    refine sKf 5 ?_
    refine sKf 6 ?_
    refine sKf 7 ?_
    refine sKf 8 ?_
    refine tKf 9 trivial ?_
    refine tKf 10 trivial ?_
    refine sKf 11 ?_
    refine sKf 12 ?_
    refine sKf 13 ?_
    refine sKf 14 ?_
    refine sKf 15 ?_
    refine sKf 16 ?_
    refine sKf 17 ?_
    refine sKf 18 ?_
    refine sKf 19 ?_
    refine sKf 20 ?_
    refine tKf 21 trivial ?_
    refine until_done (by kernel_rfl) ?_ _
    go_wp2_with fail
    exact bodyPost_ret (results_tmp2 rfl _ _ _) rfl ⟨⟨_, L, false, rfl, OY2.out, HLK.out, fun m hm => absurd hm (HN.out m), fun _ => rfl⟩, BY2.out.drew⟩
  ·have q5 : ¬ (p : Int) < (s.size : Int) - 8 := by omega
   have d5 : decide ((p : Int) < (s.size : Int) - 8) = false := decide_eq_false q5
   have HF : Hid (∀ m, GoodF s m → L.map Prod.fst = m) := HX.out.end hpe
   go_wp2_with fail
   refine bodyPost_ret (results_tmp2 rfl _ _ _) rfl ?_
   refine ⟨⟨_, L, true, rfl, HO.out, HLK.out, fun m hm => ⟨rfl, HF.out m hm⟩, fun h => absurd h H12.out⟩, HB1.out⟩
end Go.Proofs.YthhamlahdjokkaaGreatDoor
