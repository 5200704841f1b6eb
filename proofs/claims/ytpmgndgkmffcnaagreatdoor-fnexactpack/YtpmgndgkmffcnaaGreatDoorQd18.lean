/- EgS3 FlAid FlWrite -/
import Derived.Test.YtpmgndgkmffcnaaGreatDoorQd17
import Derived.Test.YtpmgndgkmffcnaaGreatDoorQd11
import Derived.Test.YtpmgndgkmffcnaaGreatDoorQd9
import Derived.WalkKit
import Derived.ProofKit
import Derived.OpenShut
import Derived.Below
import Derived.WalkSmall
import Derived.BigQuiet
import Derived.Deep.QuietTactic
import Derived.Deep.RegionWith
import Derived.Handy
import Derived.Test.YtpmgndgkmffcnaaGreatDoorRows
import Derived.Test.YtpmgndgkmffcnaaGreatDoorQd15
import Derived.Test.YtpmgndgkmffcnaaGreatDoorQd3
import Derived.Test.YtpmgndgkmffcnaaGreatDoorQd7
open List (setIfInBounds_toArray set_cons_zero set_cons_succ)
namespace Go.Proofs.YtpmgndgkmffcnaaGreatDoor
open Go.ChangeShapes Go.WideShapes Go.ChangeAt Go.RowKit Go.PlainAid
set_option linter.unusedVariables false
def preK (ls : List (List Ser)) (i k : Nat) : List ByteArray := keysOf (ls.take i) ++ ((ls.getD i []).take k).map Ser.key
theorem keysOf_snoc (ls : List (List Ser)) (l : List Ser) : keysOf (ls ++ [l]) = keysOf ls ++ l.map Ser.key := by unfold keysOf; rw [List.flatten_append, List.map_append]; simp
theorem preK_zero (ls : List (List Ser)) : preK ls 0 0 = [] := by simp [preK, keysOf]
theorem preK_step (ls : List (List Ser)) (i k : Nat) (h : k < (ls.getD i []).length) : preK ls i (k + 1) = preK ls i k ++ [((ls.getD i []).getD k default).key] := by
 unfold preK
 rw [take_getD _ k h, List.map_append, List.append_assoc]
 rfl
theorem preK_next (ls : List (List Ser)) (i : Nat) (h : i < ls.length) : preK ls i (ls.getD i []).length = preK ls (i + 1) 0 := by
 unfold preK
 rw [List.take_length, List.take_zero, List.map_nil, List.append_nil]
 have e : ls.take (i + 1) = ls.take i ++ [ls.getD i []] := by
  rw [List.take_add_one, List.getElem?_eq_getElem h, List.getD_eq_getElem?_getD, List.getElem?_eq_getElem h]
  rfl
 rw [e, keysOf_snoc]
theorem preK_all (ls : List (List Ser)) : preK ls ls.length 0 = keysOf ls := by
 unfold preK
 rw [List.take_length, List.take_zero, List.map_nil, List.append_nil]
theorem allK_snoc (ks : List ByteArray) (k : ByteArray) : allK (ks ++ [k]) = insK (allK ks) k := by unfold allK; rw [List.foldl_append]; rfl
theorem insK_len (k : ByteArray) : ∀ l : List ByteArray, (insK l k).length ≤ l.length + 1
 | [] => by simp [insK]
 | x :: l => by
  have ih := insK_len k l
  rw [insK]
  split
  ·omega
  ·split
   ·simp
   ·simp; omega
theorem foldK_len : ∀ (ks a : List ByteArray), (ks.foldl insK a).length ≤ a.length + ks.length
 | [], a => by simp
 | k :: ks, a => by
  have h1 := foldK_len ks (insK a k)
  have h2 := insK_len k a
  rw [List.foldl_cons, List.length_cons]
  omega
theorem keysOf_len : ∀ (ls : List (List Ser)), (∀ l ∈ ls, l.length ≤ 10) → (keysOf ls).length ≤ 10 * ls.length
 | [], _ => by simp [keysOf]
 | l :: ls, h => by
  have h1 := keysOf_len ls fun m hm => h m (by simp [hm])
  have h2 := h l (by simp)
  have e : keysOf (l :: ls) = l.map Ser.key ++ keysOf ls := by simp [keysOf]
  rw [e, List.length_append, List.length_map, List.length_cons]
  omega
theorem getD_memL (ls : List (List Ser)) (i : Nat) (h : i < ls.length) : ls.getD i [] ∈ ls := by
 rw [List.getD_eq_getElem?_getD, List.getElem?_eq_getElem h]
 exact List.getElem_mem h
theorem preK_len (ls : List (List Ser)) (hl : ∀ l ∈ ls, l.length ≤ 10) (hn : ls.length ≤ 10) (i k : Nat) (hi : i ≤ ls.length) : (allK (preK ls i k)).length ≤ 200 := by
 have h1 := foldK_len (preK ls i k) []
 have h2 := keysOf_len (ls.take i) fun l hm => hl l (List.mem_of_mem_take hm)
 have h3 : (ls.take i).length ≤ 10 := by rw [List.length_take]; omega
 have h4 : ((ls.getD i []).take k).length ≤ 10 := by
  rw [List.length_take]
  by_cases h : i < ls.length
  ·have := hl _ (getD_memL ls i h)
   omega
  ·have e : ls.getD i [] = [] := by rw [List.getD_eq_getElem?_getD, List.getElem?_eq_none (by omega)]; rfl
   rw [e]; simp
 have h5 : (preK ls i k).length ≤ 200 := by
  unfold preK
  rw [List.length_append, List.length_map]
  omega
 unfold allK
 simp only [List.length_nil] at h1
 omega
set_option maxHeartbeats 2000000 in
theorem specKeys (ls : List (List Ser)) (v : Value) (w : World) (B : Nat) (hv : LayV w B v ls) (hn : ls.length ≤ 10) (hs : ∀ l ∈ ls, l.length ≤ 10) (hB : B ≤ w.heap.size) :
  Calls Tryz.prog 71 #[v] w fun e w' => (∃ u, e = .returned u ∧ Owns w' w.heap.size 9 1 u (stR (keysL ls))) ∧ Below w.heap.size w w' := by
 obtain ⟨A, cap, rfl, hl⟩ := hv.look
 have HL : Hid (∀ j, j < ls.length → ∃ g off u, A = some ⟨g, off, none⟩ ∧ g < B ∧ w.cell? ⟨g, off + j, none⟩ = some u ∧ SerV w B u (ls.getD j [])) := hl
 have HB : Hid (B ≤ w.heap.size) := hB
 have HP : Hid (∀ i k, i ≤ ls.length → (allK (preK ls i k)).length ≤ 200) := fun i k hi => preK_len ls hs hn i k hi
 have H0 : Hid (allK (preK ls 0 0) = []) := by unfold Hid; rw [preK_zero]; rfl
 have HSt : Hid (∀ i k, k < (ls.getD i []).length → allK (preK ls i (k + 1)) = insK (allK (preK ls i k)) ((ls.getD i []).getD k default).key) := fun i k h => by rw [preK_step ls i k h, allK_snoc]
 have HNx : Hid (∀ i, i < ls.length → allK (preK ls i (ls.getD i []).length) = allK (preK ls (i + 1) 0)) := fun i h => by rw [preK_next ls i h]
 have HA : Hid (allK (preK ls ls.length 0) = keysL ls) := by unfold Hid; rw [preK_all]; rfl
 have HL1 : Hid (∀ i, i < ls.length → (ls.getD i []).length ≤ 10) := fun i hi => hs _ (getD_memL ls i hi)
 have q1 : (ls.length : Int) ≤ 10 := by omega
 clear hl hv hs hB hn
 generalize hN : ls.length = n at *
 clear hN
 have BE : Hid (Below w.heap.size w (w.alloc (.cells #[] 9))) := (Below.refl _ w).alloc (Nat.le_refl _) _
 have OE : Hid (Owns (w.alloc (.cells #[] 9)) w.heap.size 9 1 (.slice (some ⟨w.heap.size, 0, none⟩) 0 0) (stR [])) := Owns.empty w w.heap.size 9 1 (Nat.le_refl _)
 go_enter Tryz.func71, Tryz.ntmps71
 go_wp2_with fail
 go_loopw [3, 4] (fun v3 v4 wr => ∃ i : Nat, i ≤ n ∧ v4 = .int .i64 (i : Int) ∧ Owns wr w.heap.size 9 1 v3 (stR (allK (preK ls i 0))) ∧ Below w.heap.size w wr) (fun _ i _ => n - (intOf i).toNat)
 case atStart => exact ⟨0, by omega, rfl, by rw [H0.out]; exact OE.out, BE.out⟩
 case round =>
  obtain ⟨i, hi, rfl, hO, hb⟩ := hrel
  have HO : Hid (Owns wr w.heap.size 9 1 u3 (stR (allK (preK ls i 0)))) := hO
  have HBr : Hid (Below w.heap.size w wr) := hb
  obtain ⟨A3, n3, c3, rfl⟩ := hO.shape
  clear hO hb
  by_cases hlt : i < n
  ·have q4 : (i : Int) < (n : Int) := by omega
   obtain ⟨g, off, u, rfl, hg, e1, hu⟩ := HL.out i hlt
   have hgw : g < w.heap.size := Nat.lt_of_lt_of_le hg HB.out
   have HE1 : Hid (w.cell? ⟨g, off + i, none⟩ = some u) := e1
   obtain ⟨A', c', rfl, hlu⟩ := hu.look
   have HU : Hid (∀ j, j < (ls.getD i []).length → ∃ g off u, A' = some ⟨g, off, none⟩ ∧ g < B ∧ w.cell? ⟨g, off + j * 2, none⟩ = some (.string ((ls.getD i []).getD j default).key) ∧ w.cell? ⟨g, off + j * 2 + 1, none⟩ = some u ∧ Lies w B 2 u (ptR ((ls.getD i []).getD j default).pts)) := hlu
   have hmm := HL1.out i hlt
   have HNi : Hid (allK (preK ls i (ls.getD i []).length) = allK (preK ls (i + 1) 0)) := HNx.out i hlt
   have HSi : Hid (∀ k, k < (ls.getD i []).length → allK (preK ls i (k + 1)) = insK (allK (preK ls i k)) ((ls.getD i []).getD k default).key) := fun k h => HSt.out i k h
   have HPi : Hid (∀ k, (allK (preK ls i k)).length ≤ 200) := fun k => HP.out i k hi
   clear e1 hu hlu
   generalize ls.getD i [] = li at *
   generalize hm : li.length = m at *
   clear hm
   go_wp2_with fail
   go_loopw [3, 5] (fun v3 v5 wr' => ∃ k : Nat, k ≤ m ∧ v5 = .int .i64 (k : Int) ∧ Owns wr' w.heap.size 9 1 v3 (stR (allK (preK ls i k))) ∧ Below w.heap.size w wr') (fun _ i _ => m - (intOf i).toNat)
   case atStart => exact ⟨0, by omega, rfl, HO.out, HBr.out⟩
   case round =>
    obtain ⟨k, hk, rfl, hO, hb⟩ := hrel
    have HO2 : Hid (Owns wr w.heap.size 9 1 u3 (stR (allK (preK ls i k)))) := hO
    have HB2 : Hid (Below w.heap.size w wr) := hb
    obtain ⟨A4, n4, c4, rfl⟩ := hO.shape
    clear hO hb
    have e1 := HE1.out
    rw [← HB2.out.cell (p := ⟨_, _, none⟩) hgw] at e1
    by_cases hkm : k < m
    ·have q5 : (k : Int) < (m : Int) := by omega
     obtain ⟨g2, off2, u2, rfl, hg2, d1, d2, _⟩ := HU.out k hkm
     rw [← HB2.out.cell (p := ⟨_, _, none⟩) (Nat.lt_of_lt_of_le hg2 HB.out)] at d1
     have c1 := specName (allK (preK ls i k)) (li.getD k default).key (.slice A4 n4 c4) wr w.heap.size HO2.out (by have := HPi.out k; omega) (rise_allK _) HB2.out.size
     have HE : Hid (allK (preK ls i (k + 1)) = insK (allK (preK ls i k)) (li.getD k default).key) := HSi.out k hkm
     generalize (li.getD k default).key = x at d1 c1 HE
     go_wp2_with fail
     refine c1.mono ?_
     rintro e w2 ⟨⟨u, rfl, hO⟩, hb⟩
     have O3 : Hid (Owns w2 w.heap.size 9 1 u (stR (allK (preK ls i (k + 1))))) := by unfold Hid; rw [HE.out]; exact hO
     have B3 : Hid (Below w.heap.size w w2) := HB2.out.trans (hb.mono HB2.out.size)
     clear hO hb c1
     go_wp2_with fail
     go_roundw
     case rel => exact ⟨k + 1, by omega, by go_num, O3.out, B3.out⟩
     case measure => simp [intOf]; omega
    ·obtain rfl : k = m := by omega
     go_wp2_with fail
     go_roundw
     case rel => exact ⟨i + 1, by omega, by go_num, by rw [← HNi.out]; exact HO2.out, HB2.out⟩
     case measure => simp [intOf]; omega
  ·obtain rfl : i = n := by omega
   go_wp2_with fail
   go_ret
   refine ⟨⟨_, rfl, ?_⟩, HBr.out⟩
   rw [← HA.out]
   exact HO.out
theorem hasAll_take (ls : List (List Ser)) (key : ByteArray) (i : Nat) (h : i < ls.length) : hasAll (ls.take (i + 1)) key = mrg (hasAll (ls.take i) key) (ptsAt (ls.getD i []) key) := by
 have e : ls.take (i + 1) = ls.take i ++ [ls.getD i []] := by
  rw [List.take_add_one, List.getElem?_eq_getElem h, List.getD_eq_getElem?_getD, List.getElem?_eq_getElem h]
  rfl
 rw [e, hasAll_snoc]
def LFew (ls : List (List Ser)) : Prop := ls.length ≤ 10 ∧ ∀ l ∈ ls, l.length ≤ 10 ∧ ∀ x ∈ l, x.pts.length ≤ 200
theorem ptsAt_few {l : List Ser} (h : ∀ x ∈ l, x.pts.length ≤ 200) (k : ByteArray) : (ptsAt l k).length ≤ 200 := by
 rcases ptsAt_some (k := k) (l := l) with e | ⟨x, hx, _, e⟩
 ·rw [e]; simp
 ·rw [e]; exact h x hx
theorem LFew.has {ls : List (List Ser)} (h : LFew ls) (key : ByteArray) (i : Nat) : (hasAll (ls.take i) key).length ≤ 2000 := by
 have h1 := hasAll_len key 200 (ls.take i) [] fun l hl => ptsAt_few (h.2 l (List.mem_of_mem_take hl)).2 key
 have h2 : (ls.take i).length ≤ 10 := by rw [List.length_take]; have := h.1; omega
 unfold hasAll
 simp only [List.length_nil] at h1
 omega
set_option maxHeartbeats 2000000 in
theorem specHas (ls : List (List Ser)) (f : Int) (key : ByteArray) (v : Value) (w : World) (B : Nat) (hv : LayV w B v ls) (hf : LFew ls) (hB : B ≤ w.heap.size) :
  Calls Tryz.prog 46 #[v, .int .i64 f, .string key] w fun e w' => (∃ u, e = .returned u ∧ Owns w' w.heap.size 56 2 u (ptR ((hasAll ls key).filter (inP f 1099511627777)))) ∧ Below w.heap.size w w' := by
 obtain ⟨A, cap, rfl, hl⟩ := hv.look
 have HL : Hid (∀ j, j < ls.length → ∃ g off u, A = some ⟨g, off, none⟩ ∧ g < B ∧ w.cell? ⟨g, off + j, none⟩ = some u ∧ SerV w B u (ls.getD j [])) := hl
 have HB : Hid (B ≤ w.heap.size) := hB
 have HF : Hid (LFew ls) := hf
 have HH : Hid (∀ i, (hasAll (ls.take i) key).length ≤ 2000) := hf.has key
 have HT : Hid (∀ i, i < ls.length → hasAll (ls.take (i + 1)) key = mrg (hasAll (ls.take i) key) (ptsAt (ls.getD i []) key)) := hasAll_take ls key
 have HA : Hid (hasAll (ls.take ls.length) key = hasAll ls key) := by unfold Hid; rw [List.take_length]
 have H0 : Hid (hasAll (ls.take 0) key = []) := rfl
 have q1 : (ls.length : Int) ≤ 10 := by have := hf.1; omega
 clear hl hv hB hf
 generalize hN : ls.length = n at *
 have HN : Hid (ls.length = n) := hN
 clear hN
 have BE : Hid (Below w.heap.size w (w.alloc (.cells #[] 56))) := (Below.refl _ w).alloc (Nat.le_refl _) _
 have OE : Hid (Owns (w.alloc (.cells #[] 56)) w.heap.size 56 2 (.slice (some ⟨w.heap.size, 0, none⟩) 0 0) (ptR [])) := Owns.empty w w.heap.size 56 2 (Nat.le_refl _)
 go_enter Tryz.func46, Tryz.ntmps46
 go_wp2_with fail
 go_loopw [7, 8] (fun v7 v8 wr => ∃ i : Nat, i ≤ n ∧ v8 = .int .i64 (i : Int) ∧ Owns wr w.heap.size 56 2 v7 (ptR (hasAll (ls.take i) key)) ∧ Below w.heap.size w wr) (fun _ i _ => n - (intOf i).toNat)
 case atStart => exact ⟨0, by omega, rfl, by rw [H0.out]; exact OE.out, BE.out⟩
 case round =>
  obtain ⟨i, hi, rfl, hO, hb⟩ := hrel
  have HO : Hid (Owns wr w.heap.size 56 2 u7 (ptR (hasAll (ls.take i) key))) := hO
  have HBr : Hid (Below w.heap.size w wr) := hb
  obtain ⟨A3, n3, c3, rfl⟩ := hO.shape
  clear hO hb
  by_cases hlt : i < n
  ·have q4 : (i : Int) < (n : Int) := by omega
   obtain ⟨g, off, u, rfl, hg, e1, hu⟩ := HL.out i hlt
   have hgw : g < w.heap.size := Nat.lt_of_lt_of_le hg HB.out
   rw [← HBr.out.cell (p := ⟨_, _, none⟩) hgw] at e1
   have hfi := HF.out.2 _ (getD_memL ls i (by rw [HN.out]; exact hlt))
   have huw : SerV wr B u (ls.getD i []) := hu.on (HBr.out.mono HB.out)
   have c1 := specAt (ls.getD i []) key u wr B huw (by have := hfi.1; omega)
   obtain ⟨A', c', rfl, hlu⟩ := huw.look
   have HU : Hid (∀ j, j < (ls.getD i []).length → ∃ g off u, A' = some ⟨g, off, none⟩ ∧ g < B ∧ wr.cell? ⟨g, off + j * 2, none⟩ = some (.string ((ls.getD i []).getD j default).key) ∧ wr.cell? ⟨g, off + j * 2 + 1, none⟩ = some u ∧ Lies wr B 2 u (ptR ((ls.getD i []).getD j default).pts)) := hlu
   have HTi : Hid (hasAll (ls.take (i + 1)) key = mrg (hasAll (ls.take i) key) (ptsAt (ls.getD i []) key)) := HT.out i hlt
   have HFi : Hid (∀ x ∈ ls.getD i [], x.pts.length ≤ 200) := hfi.2
   have HHi : Hid ((hasAll (ls.take i) key).length ≤ 2000) := HH.out i
   have qm := hfi.1
   clear hu huw hlu hfi
   generalize ls.getD i [] = li at *
   generalize hasAll (ls.take i) key = a at *
   generalize hm : li.length = m at *
   have HM : Hid (li.length = m) := hm
   clear hm
   have qm' : (m : Int) ≤ 10 := by omega
   go_wp2_with fail
   refine c1.mono ?_
   rintro e w2 ⟨⟨r, rfl, HR⟩, rfl⟩
   rcases HR.out with ⟨rfl, hno⟩ | ⟨j, rfl, hj, hk, hnk⟩
   ·have HE : Hid (hasAll (ls.take (i + 1)) key = a) := by unfold Hid; rw [HTi.out, ptsAt_none hno, mrg_nil]
    clear hno HTi c1 HR
    go_wp2_with fail
    go_roundw
    case rel => exact ⟨i + 1, by omega, by go_num, by rw [HE.out]; exact HO.out, HBr.out⟩
    case measure => simp [intOf]; omega
   ·rw [HM.out] at hj
    have q5 : (j : Int) < (m : Int) := by omega
    obtain ⟨g2, off2, u2, rfl, hg2, d1, d2, hu2⟩ := HU.out j hj
    have HE : Hid (hasAll (ls.take (i + 1)) key = mrg a (li.getD j default).pts) := by unfold Hid; rw [HTi.out, ptsAt_at (by rw [HM.out]; exact hj) hk hnk]
    have hpl := HFi.out _ (getD_mem li j (by rw [HM.out]; exact hj))
    have c2 := specMergeL a (li.getD j default).pts (.slice A3 n3 c3) u2 wr wr.heap.size HO.out.lies (hu2.mono (Nat.le_trans HB.out HBr.out.size)) (by have := HHi.out; omega) (Nat.le_refl _)
    obtain ⟨A6, c6, rfl, _⟩ := pt_look hu2
    have Z : Hid (w.heap.size ≤ wr.heap.size) := HBr.out.size
    clear hk hnk HTi c1 HR d1 hu2
    generalize (li.getD j default).pts = pj at *
    generalize pj.length = pl at *
    go_wp2_with fail
    refine c2.mono ?_
    rintro e w2 ⟨⟨u, rfl, hO⟩, hb⟩
    have O3 : Hid (Owns w2 w.heap.size 56 2 u (ptR (hasAll (ls.take (i + 1)) key))) := by unfold Hid; rw [HE.out]; exact hO.mono Z.out
    have B3 : Hid (Below w.heap.size w w2) := HBr.out.trans (hb.mono Z.out)
    clear hO hb c2
    go_wp2_with fail
    go_roundw
    case rel => exact ⟨i + 1, by omega, by go_num, O3.out, B3.out⟩
    case measure => simp [intOf]; omega
  ·obtain rfl : i = n := by omega
   have c2 := specSliceL (hasAll (ls.take i) key) f 1099511627777 (.slice A3 n3 c3) wr wr.heap.size HO.out.lies (by have := HH.out i; omega) (Nat.le_refl _)
   rw [HA.out] at c2
   have Z : Hid (w.heap.size ≤ wr.heap.size) := HBr.out.size
   go_wp2_with fail
   refine c2.mono ?_
   rintro e w2 ⟨⟨u, rfl, hO⟩, hb⟩
   have O3 : Hid (Owns w2 w.heap.size 56 2 u (ptR ((hasAll ls key).filter (inP f 1099511627777)))) := hO.mono Z.out
   have B3 : Hid (Below w.heap.size w w2) := HBr.out.trans (hb.mono Z.out)
   clear hO hb c2
   go_wp2_with fail
   go_ret
   exact ⟨⟨_, rfl, O3.out⟩, B3.out⟩
end Go.Proofs.YtpmgndgkmffcnaaGreatDoor
namespace Go.Proofs.YtpmgndgkmffcnaaGreatDoor
open Go.ChangeShapes Go.WideShapes Go.ChangeAt Go.RowKit Go.PlainAid
set_option linter.unusedVariables false
def KeptBut (g : Nat) (w w' : World) : Prop := Below g w w' ∧ ∀ b, b ≠ g → b < w.heap.size → w'.heap[b]? = w.heap[b]?
theorem KeptBut.of {g : Nat} {w w' : World} (h : Below w.heap.size w w') (hg : g < w.heap.size) : KeptBut g w w' := ⟨h.mono (Nat.le_of_lt hg), fun b _ hb => h.block b hb⟩
theorem KeptBut.refl (g : Nat) (w : World) : KeptBut g w w := ⟨Below.refl _ _, fun _ _ _ => rfl⟩
theorem KeptBut.trans {g : Nat} {w w' w'' : World} (h : KeptBut g w w') (h' : KeptBut g w' w'') : KeptBut g w w'' := ⟨h.1.trans h'.1, fun b hb hl => by rw [h'.2 b hb (Nat.lt_of_lt_of_le hl h.1.size), h.2 b hb hl]⟩
theorem KeptBut.set {g : Nat} {w w' : World} (h : KeptBut g w w') (i : Nat) (x : Value) : KeptBut g w (w'.setCell ⟨g, i, none⟩ x) := ⟨h.1.setCell (Nat.le_refl _) _, fun b hb hl => by rw [Below.heap_setCell _ _ _ _ hb]; exact h.2 b hb hl⟩
theorem KeptBut.setNew {g k : Nat} {w w' : World} (h : KeptBut g w w') (hk : w.heap.size ≤ k) (hg : g ≤ k) (i : Nat) (x : Value) : KeptBut g w (w'.setCell ⟨k, i, none⟩ x) := ⟨h.1.setCell hg _, fun b hb hl => by rw [Below.heap_setCell _ _ _ _ (show b ≠ k by omega)]; exact h.2 b hb hl⟩
theorem KeptBut.drew {g : Nat} {w w' : World} (h : KeptBut g w w') : KeptBut g w w'.drew := ⟨h.1.drew, h.2⟩
theorem KeptBut.size {g : Nat} {w w' : World} (h : KeptBut g w w') : w.heap.size ≤ w'.heap.size := h.1.size
theorem KeptBut.owns {g : Nat} {w w' : World} {base : Nat} {e : TypeId} {sz : Nat} {v : Value} {rows : List (List Value)} (h : KeptBut g w w') (ho : Owns w base e sz v rows) (hne : v.ownBlock ≠ some g) : Owns w' base e sz v rows := ho.kept fun k hk hv => h.2 k (fun e => hne (by rw [hv, e])) hk
theorem KeptBut.blk {g b : Nat} {w w' : World} {cs : Array Value} {t : TypeId} (h : KeptBut g w w') (hb : Blk w b cs t) (hne : b ≠ g) : Blk w' b cs t := (h.2 b hne hb.lt).trans hb
theorem Owns.notBlk {w : World} {base : Nat} {e t : TypeId} {sz g : Nat} {cs : Array Value} {v : Value} {rows : List (List Value)} (h : Owns w base e sz v rows) (hb : Blk w g cs t) (hne : e ≠ t) : v.ownBlock ≠ some g := fun hv => by
 rcases h.2.2 with ⟨rfl, _⟩ | ⟨g1, c1, cur1, rfl, _, k1, _⟩
 ·cases hv
 ·cases hv
  rw [hb] at k1
  cases k1
  exact hne rfl
def spC (x : Spot) : List Value := [.string x.key, .int .i64 (x.at' : Int), .int .i64 (x.size : Int), .int .i64 (x.first : Int), .int .i64 (x.last : Int)]
def spR (l : List Spot) : List (List Value) := l.map spC
theorem spR_length (l : List Spot) : (spR l).length = l.length := by simp [spR]
theorem spR_append (l m : List Spot) : spR (l ++ m) = spR l ++ spR m := by simp [spR]
theorem sp_one (x : Spot) : ∀ u ∈ spC x, u.oneCell' = true := by
 intro u hu
 simp only [spC, List.mem_cons, List.not_mem_nil, or_false] at hu
 rcases hu with rfl | rfl | rfl | rfl | rfl <;> rfl
theorem sp_look {w : World} {B : Nat} {v : Value} {l : List Spot} (h : Lies w B 5 v (spR l)) : ∃ A cap, v = .slice A l.length cap ∧ ∀ j, j < l.length → ∃ g off, A = some ⟨g, off, none⟩ ∧ g < B ∧
  w.cell? ⟨g, off + j * 5, none⟩ = some (.string (l.getD j default).key) ∧ w.cell? ⟨g, off + j * 5 + 1, none⟩ = some (.int .i64 ((l.getD j default).at' : Int)) ∧ w.cell? ⟨g, off + j * 5 + 2, none⟩ = some (.int .i64 ((l.getD j default).size : Int)) ∧
  w.cell? ⟨g, off + j * 5 + 3, none⟩ = some (.int .i64 ((l.getD j default).first : Int)) ∧ w.cell? ⟨g, off + j * 5 + 4, none⟩ = some (.int .i64 ((l.getD j default).last : Int)) := by
 obtain ⟨A, cap, e, h⟩ := h.look
 refine ⟨A, cap, by rw [e]; simp [spR], fun j hj => ?_⟩
 rw [← getD_at l j hj]
 obtain ⟨g, off, e, hg, hc⟩ := h j (by simpa [spR] using hj)
 refine ⟨g, off, e, hg, ?_, ?_, ?_, ?_, ?_⟩
 ·have := hc 0 _ (by omega) (by simp [spR, spC]; rfl); simpa [Nat.add_assoc] using this
 ·have := hc 1 _ (by omega) (by simp [spR, spC]; rfl); simpa [Nat.add_assoc] using this
 ·have := hc 2 _ (by omega) (by simp [spR, spC]; rfl); simpa [Nat.add_assoc] using this
 ·have := hc 3 _ (by omega) (by simp [spR, spC]; rfl); simpa [Nat.add_assoc] using this
 ·have := hc 4 _ (by omega) (by simp [spR, spC]; rfl); simpa [Nat.add_assoc] using this
def vSp (x : Spot) : Value := .agg #[.string x.key, .int .i64 (x.at' : Int), .int .i64 (x.size : Int), .int .i64 (x.first : Int), .int .i64 (x.last : Int)]
theorem Tryz.infoSp : (Tryz.prog.info? 116).map (fun i => (i.zero, i.size, i.bytes)) = some (some (.agg #[.string ⟨#[]⟩, .int .i64 0, .int .i64 0, .int .i64 0, .int .i64 0]), 5, 48) := by kernel_rfl
def SpFits (x : Spot) : Prop := x.key.size ≤ 1048576 ∧ x.at' ≤ 562949953421311 ∧ x.size ≤ 562949953421311 ∧ x.first ≤ 562949953421311 ∧ x.last ≤ 562949953421311
def CurB (w : World) (g : Nat) (t : ByteArray) (p : Nat) (ty : TypeId) : Prop := Blk w g #[.string t, .int .i64 (p : Int)] ty
end Go.Proofs.YtpmgndgkmffcnaaGreatDoor
namespace Go.Proofs.YtpmgndgkmffcnaaGreatDoor
open Go.ChangeShapes Go.WideShapes Go.ChangeAt Go.RowKit Go.PlainAid
set_option linter.unusedVariables false
set_option maxHeartbeats 1000000 in
theorem placeV (w : World) (g p : Nat) (hc : w.cell? ⟨g, 1, none⟩ = some (.int .i64 (p : Int))) : Calls Tryz.prog 94 #[.pointer (some ⟨g, 0, none⟩)] w fun e w' => e = .returned (.int .i64 (p : Int)) ∧ w = w' := by
 go_enter Tryz.func94, Tryz.ntmps94
 go_wp2
 go_ret
 exact ⟨rfl, rfl⟩
set_option maxHeartbeats 1000000 in
theorem goToV (t : ByteArray) (p a : Nat) (w : World) (g : Nat) (ty : TypeId) (hb : CurB w g t p ty) (hs : t.size ≤ 1048576) (ha : a ≤ 9007199254740992) : Calls Tryz.prog 114 #[.pointer (some ⟨g, 0, none⟩), .int .i64 (a : Int)] w fun e w' => (∃ u, e = .returned u) ∧ w' = w.setCell ⟨g, 1, none⟩ (.int .i64 ((min a t.size : Nat) : Int)) := by
 have c0 : w.cell? ⟨g, 0, none⟩ = some (.string t) := Blk.cell hb 0 _ rfl
 have c1 : w.cell? ⟨g, 1, none⟩ = some (.int .i64 (p : Int)) := Blk.cell hb 1 _ rfl
 have f1 := Blk.free hb 1
 have q0 : (t.size : Int) ≤ 1048576 := by omega
 have q1 : (a : Int) ≤ 9007199254740992 := by omega
 have hm : ((min a t.size : Nat) : Int) = min (a : Int) (t.size : Int) := by omega
 clear hb
 rw [hm]
 go_enter Tryz.func114, Tryz.ntmps114
 go_wp2_with fail
 exact bodyPost_end (v := .tuple #[]) (by simp [results, go_sem]) rfl ⟨⟨_, rfl⟩, rfl⟩
set_option maxHeartbeats 1000000 in
theorem writeV (t part : ByteArray) (w : World) (g p : Nat) (hb : CurB w g t p 113) (hs : t.size + part.size ≤ 1000000) : Calls Tryz.prog 92 #[.pointer (some ⟨g, 0, none⟩), .string part] w fun e w' => (∃ u, e = .returned u) ∧ CurB w' g (t ++ part) (t ++ part).size 113 ∧ KeptBut g w w' := by
 have HB : Hid (CurB w g t p 113) := hb
 have c0 : w.cell? ⟨g, 0, none⟩ = some (.string t) := Blk.cell hb 0 _ rfl
 have f0 := Blk.free hb 0
 have q0 : (t.size : Int) + (part.size : Int) ≤ 1000000 := by omega
 have HN : Hid ((t ++ part).size = t.size + part.size) := ByteArray.size_append
 clear hb hs
 have b1 := Blk.set HB.out 0 (.string (t ++ part))
 have B1 : Hid (CurB (w.setCell ⟨g, 0, none⟩ (.string (t ++ part))) g (t ++ part) p 113) := b1
 have K1 : Hid (KeptBut g w (w.setCell ⟨g, 0, none⟩ (.string (t ++ part)))) := (KeptBut.refl g w).set 0 _
 clear b1
 have q1 : ((t ++ part).size : Int) ≤ 1048576 := by have := HN.out; omega
 generalize htp : t ++ part = tp at *
 generalize hW : w.setCell ⟨g, 0, none⟩ (.string tp) = W1 at *
 have S0 : Hid (W1.drew.cell? ⟨g, 0, none⟩ = some (.string tp)) := Blk.cell B1.out 0 _ rfl
 have c1 := goToV tp p tp.size W1.drew g 113 B1.out (by omega) (by omega)
 have HM : Hid (min tp.size tp.size = tp.size) := Nat.min_self _
 rw [HM.out] at c1
 go_enter Tryz.func92, Tryz.ntmps92
 go_wp2_with fail
 refine wp_region_until (fun w' => w'.cell? ⟨g, 0, none⟩ = some (.string tp)) (fun _ => false) 10 (by rfl) (by kernel_rfl) ?_
 refine until_take 0 (v := ?_) (by rfl) (by kernel_rfl) (by exact fun _ _ _ h => h) (by rfl) ?_ S0.out ?_
 rotate_left
 ·intro w hSw
  try dsimp only at hSw
  go_simp
  try with_reducible rfl
 try simp only [Act.put, setIfInBounds_toArray, set_cons_zero, set_cons_succ]
 refine until_take 1 (v := ?_) (by rfl) (by kernel_rfl) (by exact fun _ _ _ h => h) (by rfl) ?_ S0.out ?_
 rotate_left
 ·intro w hSw
  try dsimp only at hSw
  go_simp
  try with_reducible rfl
 try simp only [Act.put, setIfInBounds_toArray, set_cons_zero, set_cons_succ]
 refine until_take 2 (v := ?_) (by rfl) (by kernel_rfl) (by exact fun _ _ _ h => h) (by rfl) ?_ S0.out ?_
 rotate_left
 ·intro w hSw
  try dsimp only at hSw
  go_simp
  try with_reducible rfl
 try simp only [Act.put, setIfInBounds_toArray, set_cons_zero, set_cons_succ]
 refine until_take 3 (v := ?_) (by rfl) (by kernel_rfl) (by exact fun _ _ _ h => h) (by rfl) ?_ S0.out ?_
 rotate_left
 ·intro w hSw
  try dsimp only at hSw
  go_simp
  try with_reducible rfl
 try simp only [Act.put, setIfInBounds_toArray, set_cons_zero, set_cons_succ]
 refine until_take 4 (v := ?_) (by rfl) (by kernel_rfl) (by exact fun _ _ _ h => h) (by rfl) ?_ S0.out ?_
 rotate_left
 ·intro w hSw
  try dsimp only at hSw
  go_simp
  try with_reducible rfl
 try simp only [Act.put, setIfInBounds_toArray, set_cons_zero, set_cons_succ]
 refine until_take 5 (v := ?_) (by rfl) (by kernel_rfl) (by exact fun _ _ _ h => h) (by rfl) ?_ S0.out ?_
 rotate_left
 ·intro w hSw
  try dsimp only at hSw
  go_simp
  try with_reducible rfl
 try simp only [Act.put, setIfInBounds_toArray, set_cons_zero, set_cons_succ]
 refine until_take 6 (v := ?_) (by rfl) (by kernel_rfl) (by exact fun _ _ _ h => h) (by rfl) ?_ S0.out ?_
 rotate_left
 ·intro w hSw
  try dsimp only at hSw
  go_simp
  try with_reducible rfl
 try simp only [Act.put, setIfInBounds_toArray, set_cons_zero, set_cons_succ]
 refine until_take 7 (v := ?_) (by rfl) (by kernel_rfl) (by exact fun _ _ _ h => h) (by rfl) ?_ S0.out ?_
 rotate_left
 ·intro w hSw
  try dsimp only at hSw
  go_simp
  try with_reducible rfl
 try simp only [Act.put, setIfInBounds_toArray, set_cons_zero, set_cons_succ]
 refine until_take 8 (v := ?_) (by rfl) (by kernel_rfl) (by exact fun _ _ _ h => h) (by rfl) ?_ S0.out ?_
 rotate_left
 ·intro w hSw
  try dsimp only at hSw
  go_simp
  try with_reducible rfl
 try simp only [Act.put, setIfInBounds_toArray, set_cons_zero, set_cons_succ]
 refine until_one 9 (by rfl) (by kernel_rfl) (fun K hK => ?_)
 go_simp
 refine c1.mono ?_
 rintro e w2 ⟨⟨u, rfl⟩, rfl⟩
 have B2 : Hid (CurB (W1.drew.setCell ⟨g, 1, none⟩ (.int .i64 (tp.size : Int))) g tp tp.size 113) := Blk.set B1.out 1 _
 have K2 : Hid (KeptBut g w (W1.drew.setCell ⟨g, 1, none⟩ (.int .i64 (tp.size : Int)))) := K1.out.drew.set 1 _
 go_wp2_with fail
 refine hK.out _ _ (fun _ _ => Blk.cell B2.out 0 _ rfl) ?_
 clear hK K
 try simp only [Act.put, setIfInBounds_toArray, set_cons_zero, set_cons_succ]
 refine until_done (by kernel_rfl) ?_ _
 go_wp2_with fail
 exact bodyPost_end (v := .tuple #[]) (by simp [results, go_sem]) rfl ⟨⟨_, rfl⟩, B2.out, K2.out⟩
end Go.Proofs.YtpmgndgkmffcnaaGreatDoor
