/- EgS4 -/
import Derived.Test.YtpmgndgkmffcnaaGreatDoorQd18
import Derived.Test.YtpmgndgkmffcnaaGreatDoorQd30
import Derived.Test.YtpmgndgkmffcnaaGreatDoorQd34
import Derived.WalkKit
import Derived.ProofKit
import Derived.OpenShut
import Derived.Below
import Derived.WalkSmall
import Derived.BigQuiet
import Derived.Deep.QuietTactic
import Derived.Deep.RegionWith
import Derived.Handy
namespace Go.Proofs.YtpmgndgkmffcnaaGreatDoor
open Go.ChangeShapes Go.WideShapes Go.ChangeAt Go.RowKit Go.PlainAid
set_option linter.unusedVariables false
def LOk (ls : List (List Ser)) : Prop := LFew ls ∧ LRis ls ∧ ∀ l ∈ ls, ∀ x ∈ l, ∀ p ∈ x.pts, inB p
theorem LOk.filter {ls : List (List Ser)} (h : LOk ls) (f : Int) (k : ByteArray) : (hasAll ls k).filter (inP f 1099511627777) = has ls f k := by
 unfold has fromF
 refine List.filter_congr fun p hp => ?_
 rcases mem_hasAll h.2.1 hp with h1 | ⟨l, hl, h1⟩
 ·cases h1
 ·rcases ptsAt_some (k := k) (l := l) with e | ⟨x, hx, _, e⟩
  ·rw [e] at h1; cases h1
  ·rw [e] at h1
   have := (h.2.2 l hl x hx p h1).1.2
   unfold inP
   rw [decide_eq_true (show p.t < 1099511627777 by omega), Bool.and_true]
theorem LOk.has_len {ls : List (List Ser)} (h : LOk ls) (f : Int) (k : ByteArray) : (has ls f k).length ≤ 2000 := by
 have h1 := h.1.has k ls.length
 rw [List.take_length] at h1
 exact Nat.le_trans (List.length_filter_le _ _) h1
theorem LFew.keys {ls : List (List Ser)} (h : LFew ls) : (keysL ls).length ≤ 200 := by
 have := preK_len ls (fun l hl => (h.2 l hl).1) h.1 ls.length 0 (Nat.le_refl _)
 rw [preK_all] at this
 exact this
theorem plainK_no {ls : List (List Ser)} {f : Int} (ks : List ByteArray) (i : Nat) (hi : i < ks.length) (h : has ls f (ks.getD i default) = []) : plainK ls f (ks.take (i + 1)) = plainK ls f (ks.take i) := by
 unfold plainK
 rw [take_getD ks i hi, List.filterMap_append]
 generalize ks.getD i default = k at *
 rw [List.filterMap_cons, serK, if_pos h]
 simp
theorem plainK_yes {ls : List (List Ser)} {f : Int} (ks : List ByteArray) (i : Nat) (hi : i < ks.length) (h : has ls f (ks.getD i default) ≠ []) : plainK ls f (ks.take (i + 1)) = plainK ls f (ks.take i) ++ [⟨ks.getD i default, has ls f (ks.getD i default)⟩] := by
 unfold plainK
 rw [take_getD ks i hi, List.filterMap_append]
 generalize ks.getD i default = k at *
 rw [List.filterMap_cons, serK, if_neg h]
 rfl
theorem plainK_len (ls : List (List Ser)) (f : Int) (ks : List ByteArray) : (plainK ls f ks).length ≤ ks.length := List.length_filterMap_le _ _
theorem sr_cells (k : ByteArray) {u : Value} (h : u.oneCell' = true) : ∀ y ∈ ([.string k, u] : List Value), y.oneCell' = true := by
 intro y hy
 simp only [List.mem_cons, List.not_mem_nil, or_false] at hy
 rcases hy with rfl | rfl
 ·rfl
 ·exact h
set_option maxHeartbeats 4000000 in
theorem specPlainL (ls : List (List Ser)) (f : Int) (v : Value) (w : World) (B : Nat) (hv : LayV w B v ls) (hf : LOk ls) (hB : B ≤ w.heap.size) :
  Calls Tryz.prog 40 #[v, .int .i64 f] w fun e w' => (∃ u L, e = .returned u ∧ L.map Prod.fst = plainR ls f ∧ SerO w' w.heap.size u L) ∧ Below w.heap.size w w' := by
 have HV : Hid (LayV w B v ls) := hv
 have HF : Hid (LOk ls) := hf
 have HB : Hid (B ≤ w.heap.size) := hB
 obtain ⟨A, cap, rfl, _⟩ := hv.look
 have BE : Hid (Below w.heap.size w (w.alloc (.cells #[] 58))) := (Below.refl _ w).alloc (Nat.le_refl _) _
 have OE : Hid (SerO (w.alloc (.cells #[] 58)) w.heap.size (.slice (some ⟨w.heap.size, 0, none⟩) 0 0) []) := ⟨Owns.empty w w.heap.size 58 2 (Nat.le_refl _), fun p hp => (by cases hp), List.Pairwise.nil⟩
 have cK := specKeys ls _ (w.alloc (.cells #[] 58)) B (HV.out.on (BE.out.mono HB.out)) hf.1.1 (fun l hl => (hf.1.2 l hl).1) (Nat.le_trans hB BE.out.size)
 clear hv hf hB
 go_enter Tryz.func40, Tryz.ntmps40
 go_wp2_with fail
 refine cK.mono ?_
 rintro e w1 ⟨⟨u6, rfl, hO6⟩, hb6⟩
 have O6 : Hid (Owns w1 w.heap.size 9 1 u6 (stR (keysL ls))) := hO6.mono BE.out.size
 have B1 : Hid (Below w.heap.size w w1) := BE.out.trans (hb6.mono BE.out.size)
 have S1 : Hid (SerO w1 w.heap.size (.slice (some ⟨w.heap.size, 0, none⟩) 0 0) []) := OE.out.on hb6
 obtain ⟨A6, c6, rfl, _⟩ := st_look hO6.lies
 have HKl : Hid ((keysL ls).length ≤ 200) := HF.out.1.keys
 clear hO6 hb6 cK BE OE
 generalize hks : keysL ls = ks at *
 have HKS : Hid (keysL ls = ks) := hks
 clear hks
 generalize hN : ks.length = n at *
 have HN : Hid (ks.length = n) := hN
 clear hN
 have q1 : (n : Int) ≤ 200 := by have := HKl.out; omega
 go_wp2_with fail
 go_loopw [5, 7] (fun v5 v7 wr => ∃ (i : Nat) (L : List (Ser × Value)), i ≤ n ∧ v7 = .int .i64 (i : Int) ∧ L.map Prod.fst = plainK ls f (ks.take i) ∧ SerO wr w.heap.size v5 L ∧ Owns wr w.heap.size 9 1 (.slice A6 n c6) (stR ks) ∧ Below w.heap.size w wr) (fun _ i _ => n - (intOf i).toNat)
 case atStart => exact ⟨0, [], by omega, rfl, rfl, S1.out, O6.out, B1.out⟩
 case round =>
  obtain ⟨i, L, hi, rfl, hL, hS, hO, hb⟩ := hrel
  have HL : Hid (L.map Prod.fst = plainK ls f (ks.take i)) := hL
  have HS : Hid (SerO wr w.heap.size u5 L) := hS
  have HO : Hid (Owns wr w.heap.size 9 1 (.slice A6 n c6) (stR ks)) := hO
  have HBr : Hid (Below w.heap.size w wr) := hb
  obtain ⟨A5, n5, c5, rfl⟩ := hS.1.shape
  have HLn : Hid (L.length ≤ 200) := by
   have h1 := congrArg List.length hL
   have h2 := plainK_len ls f (ks.take i)
   rw [List.length_map] at h1
   rw [List.length_take] at h2
   have := HKl.out
   unfold Hid
   omega
  clear hL hS hO hb
  by_cases hlt : i < n
  ·have q4 : (i : Int) < (n : Int) := by omega
   obtain ⟨g, off, rfl, hg, e1⟩ := st_cells HO.out.lies i (by rw [HN.out]; exact hlt)
   have HLi : Hid (∀ wx, Owns wx w.heap.size 9 1 (.slice (some ⟨g, off, none⟩) n c6) (stR ks) → wx.cell? ⟨g, off + i, none⟩ = some (.string (ks.getD i default))) := fun wx h => by
    obtain ⟨g1, off1, e3, _, h3⟩ := st_cells h.lies i (by rw [HN.out]; exact hlt)
    cases e3
    exact h3
   have c1 := specHas ls f (ks.getD i default) _ wr B (HV.out.on (HBr.out.mono HB.out)) HF.out.1 (Nat.le_trans HB.out HBr.out.size)
   rw [HF.out.filter] at c1
   have HNo : Hid (has ls f (ks.getD i default) = [] → plainK ls f (ks.take (i + 1)) = plainK ls f (ks.take i)) := fun h => plainK_no ks i (by rw [HN.out]; exact hlt) h
   have HYes : Hid (has ls f (ks.getD i default) ≠ [] → plainK ls f (ks.take (i + 1)) = plainK ls f (ks.take i) ++ [⟨ks.getD i default, has ls f (ks.getD i default)⟩]) := fun h => plainK_yes ks i (by rw [HN.out]; exact hlt) h
   have HHl : Hid ((has ls f (ks.getD i default)).length ≤ 2000) := HF.out.has_len f _
   clear hg
   generalize ks.getD i default = key at *
   generalize hh : has ls f key = hp at *
   clear hh
   go_wp2_with fail
   refine c1.mono ?_
   rintro e w2 ⟨⟨u, rfl, hO2⟩, hb2⟩
   have OP : Hid (Owns w2 wr.heap.size 56 2 u (ptR hp)) := hO2
   have HS2 : Hid (SerO w2 w.heap.size (.slice A5 n5 c5) L) := HS.out.on hb2
   have HO2 : Hid (Owns w2 w.heap.size 9 1 (.slice (some ⟨g, off, none⟩) n c6) (stR ks)) := HO.out.on hb2
   have B2 : Hid (Below w.heap.size w w2) := HBr.out.trans (hb2.mono HBr.out.size)
   have AP : Hid (∀ q ∈ L, Apart q.2 u) := fun q hq gg h1 h2 => by
    have := ((HS.out.2.1 q hq).lt gg h1).2
    have := (hO2.lt gg h2).1
    omega
   obtain ⟨Au, cu, rfl, _⟩ := pt_look hO2.lies
   have e2 := HLi.out w2 HO2.out
   have Z : Hid (w.heap.size ≤ wr.heap.size) := HBr.out.size
   clear hO2 hb2 c1 e1
   by_cases h0 : hp = []
   ·have HE : Hid (plainK ls f (ks.take (i + 1)) = plainK ls f (ks.take i)) := HNo.out h0
    subst h0
    go_wp2_with fail
    go_roundw
    case rel => exact ⟨i + 1, L, by omega, by go_num, by rw [HE.out]; exact HL.out, HS2.out, HO2.out, B2.out⟩
    case measure => simp [intOf]; omega
   ·have HE : Hid (plainK ls f (ks.take (i + 1)) = plainK ls f (ks.take i) ++ [⟨key, hp⟩]) := HYes.out h0
    have q6 : 0 < hp.length := len_pos h0
    have q7 : (hp.length : Int) ≤ 2000 := by have := HHl.out; omega
    have q8 : (0 : Int) < (hp.length : Int) := by omega
    have HPL : Hid (hp.length = hp.length) := rfl
    clear h0
    generalize hpl : hp.length = pl at *
    clear hpl
    have Z2 : w.heap.size ≤ w2.heap.size := B2.out.size
    have L2 : Hid ((srR L).length ≤ 2097152) := by have := HLn.out; unfold Hid; rw [srR_length]; omega
    go_wp2_with (at_builtin; refine wpList_append_row rfl (.tmp 28) (.tmp 35) 28 58 (.agg #[.string ⟨#[]⟩, .slice none 0 0]) 2 40 rfl Tryz.underlying28 Tryz.infoSr rfl (by omega) w.heap.size _ (srR L) rfl HS2.out.1 [.string key, .slice Au pl cu] rfl (sr_cells key rfl) rfl L2.out (by omega) Z2 ?_; intro v' w5 hO5 hb5 hk5 hw5; obtain ⟨A7, n7, c7, rfl⟩ := hO5.shape; refine Shut.out ?_)
    unfold Shut
    have hne5 : ∀ (v : Value) (b : Nat) (e : TypeId) (sz : Nat) (r : List (List Value)), Owns w2 b e sz v r → e ≠ 58 → Owns w5 b e sz v r := fun v b e sz r ho hne => ho.kept fun gg hg hv => hk5 gg hg (fun hu => ho.apartT HS2.out.1 hne gg hv hu)
    have S5 : Hid (SerO w5 w.heap.size (.slice A7 n7 c7) (L ++ [(⟨key, hp⟩, .slice Au pl cu)])) := SerO.snoc (w1 := w2) (v := .slice A5 n5 c5) hO5 (fun q hq => hne5 _ _ _ _ _ (HS2.out.2.1 q hq) (by decide)) HS2.out.2.2 (hne5 _ _ _ _ _ (OP.out.mono Z.out) (by decide)) AP.out
    have O5 : Hid (Owns w5 w.heap.size 9 1 (.slice (some ⟨g, off, none⟩) n c6) (stR ks)) := hne5 _ _ _ _ _ HO2.out (by decide)
    have B5 : Hid (Below w.heap.size w w5) := B2.out.trans hb5
    have HL5 : Hid ((L ++ [((⟨key, hp⟩ : Ser), Value.slice Au pl cu)]).map Prod.fst = plainK ls f (ks.take (i + 1))) := by unfold Hid; rw [HE.out, List.map_append, HL.out]; rfl
    clear hO5 hb5 hk5 hw5 hne5 e2
    go_wp2_with fail
    go_roundw
    case rel => exact ⟨i + 1, _, by omega, by go_num, HL5.out, S5.out, O5.out, B5.out⟩
    case measure => simp [intOf]; omega
  ·obtain rfl : i = n := by omega
   have HE : Hid (plainK ls f (ks.take i) = plainR ls f) := by unfold Hid plainR; rw [HKS.out, ← HN.out, List.take_length]
   go_wp2_with fail
   go_ret
   exact ⟨⟨_, L, rfl, HL.out.trans HE.out, HS.out⟩, HBr.out⟩
theorem infoLay : (Tryz.prog.info? 28).map (fun i => (i.zero, i.size, i.bytes)) = some (some (.slice none 0 0), 1, 24) := by kernel_rfl
def LayO (w : World) (base : Nat) (us : List Value) (ls : List (List Ser)) : Prop := us.length = ls.length ∧ ∀ j, j < ls.length → ∃ L, L.map Prod.fst = ls.getD j [] ∧ SerO w base (us.getD j default) L
theorem LayO.nil (w : World) (base : Nat) : LayO w base [] [] := ⟨rfl, fun j hj => by simp at hj⟩
theorem LayO.on {w w' : World} {base : Nat} {us : List Value} {ls : List (List Ser)} (h : LayO w base us ls) (hb : Below w.heap.size w w') : LayO w' base us ls := ⟨h.1, fun j hj => by obtain ⟨L, h1, h2⟩ := h.2 j hj; exact ⟨L, h1, h2.on hb⟩⟩
theorem LayO.lays {w : World} {base : Nat} {us : List Value} {ls : List (List Ser)} (h : LayO w base us ls) : LayL w w.heap.size us ls := ⟨h.1, fun j hj => by obtain ⟨L, h1, h2⟩ := h.2 j hj; rw [← h1]; exact h2.view⟩
theorem LayO.kept {w w' : World} {base : Nat} {us : List Value} {ls : List (List Ser)} (h : LayO w base us ls) (hk : ∀ (v : Value) (b : Nat) (e : TypeId) (sz : Nat) (r : List (List Value)), Owns w b e sz v r → e ≠ 28 → Owns w' b e sz v r) : LayO w' base us ls :=
 ⟨h.1, fun j hj => by obtain ⟨L, h1, h2, h3, h4⟩ := h.2 j hj; exact ⟨L, h1, hk _ _ _ _ _ h2 (by decide), fun p hp => hk _ _ _ _ _ (h3 p hp) (by decide), h4⟩⟩
theorem LayO.snoc {w : World} {base : Nat} {us : List Value} {ls : List (List Ser)} (h : LayO w base us ls) {u : Value} {L : List (Ser × Value)} (hu : SerO w base u L) : LayO w base (us ++ [u]) (ls ++ [L.map Prod.fst]) := by
 refine ⟨by simp [h.1], fun j hj => ?_⟩
 rw [List.length_append, List.length_singleton] at hj
 by_cases e : j < ls.length
 ·rw [List.getD_eq_getElem?_getD, List.getD_eq_getElem?_getD, List.getElem?_append_left e, List.getElem?_append_left (by rw [h.1]; exact e), ← List.getD_eq_getElem?_getD, ← List.getD_eq_getElem?_getD]
  exact h.2 j e
 ·obtain rfl : j = ls.length := by omega
  rw [List.getD_eq_getElem?_getD, List.getD_eq_getElem?_getD, List.getElem?_append_right (Nat.le_refl _), List.getElem?_append_right (by rw [h.1]; exact Nat.le_refl _), h.1, Nat.sub_self]
  exact ⟨L, rfl, hu⟩
def LyAns (e : Eng) (w' : World) (b : Ending) : Prop := ∃ u ok, b = .returned (.tuple #[u, .bool ok]) ∧ ((ok = true ∧ (∀ s ∈ e.files, isF s) ∧ LayV w' w'.heap.size u (lays e)) ∨ (ok = false ∧ ∃ s ∈ e.files, ¬ isF s))
theorem la_cell (u : Value) (h : u.oneCell' = true) : ∀ y ∈ ([u] : List Value), y.oneCell' = true := by
 intro y hy
 rw [List.mem_singleton.1 hy]; exact h
theorem rf_yes' {s : ByteArray} {l : List Ser} (h : RfAns s l true) : isF s ∧ fileM s = l := by
 rcases h with ⟨_, h⟩ | ⟨h, _⟩
 ·exact ⟨⟨l, h⟩, fileM_is h⟩
 ·cases h
theorem rf_no' {s : ByteArray} {l : List Ser} (h : RfAns s l false) : ¬ isF s := by
 rcases h with ⟨h, _⟩ | ⟨_, _, h⟩
 ·cases h
 ·rintro ⟨m, hm⟩; exact h m hm
set_option maxHeartbeats 4000000 in
theorem specLayers (e : Eng) (v : Value) (w : World) (B : Nat) (hv : EngV w B v e) (hn : e.files.length ≤ 10) (hs : ∀ s ∈ e.files, s.size ≤ 1048576) (hB : B ≤ w.heap.size) :
  Calls Tryz.prog 39 #[v] w fun b w' => LyAns e w' b ∧ Below w.heap.size w w' := by
 obtain ⟨vc, vf, rfl, hc, hl⟩ := hv
 unfold vE
 obtain ⟨Ac, cc, rfl, _⟩ := hc.look
 obtain ⟨A, cap, rfl, hll⟩ := st_look hl
 have HC : Hid (SerV w B (.slice Ac e.cache.length cc) e.cache) := hc
 have HL : Hid (∀ j, j < e.files.length → ∃ g off, A = some ⟨g, off, none⟩ ∧ g < B ∧ w.cell? ⟨g, off + j, none⟩ = some (.string (e.files.getD j default))) := hll
 have HB : Hid (B ≤ w.heap.size) := hB
 have HSz : Hid (∀ j, j < e.files.length → (e.files.getD j default).size ≤ 1048576) := fun j hj => hs _ (getD_mem _ j hj)
 have HTk : Hid (∀ i, i < e.files.length → e.files.take (i + 1) = e.files.take i ++ [e.files.getD i default]) := fun i hi => take_getD _ i hi
 have HM : Hid (∀ i, i < e.files.length → e.files.getD i default ∈ e.files) := fun i hi => getD_mem _ i hi
 have HTn : Hid (e.files.take e.files.length = e.files) := List.take_length
 have q1 : (e.files.length : Int) ≤ 10 := by omega
 clear hc hl hll hB hs hn
 have HLys : Hid (lays e = laysF e.files ++ [e.cache]) := rfl
 generalize hN : e.files.length = n at *
 have HN : Hid (e.files.length = n) := hN
 clear hN
 generalize e.cache.length = nc at *
 generalize e.floor = f at *
 obtain ⟨X0, hX0⟩ : ∃ X0, X0 = w.alloc (.cells #[.int .i64 f, .slice Ac nc cc, .slice A n cap] 30) := ⟨_, rfl⟩
 have BX : Hid (Below w.heap.size w X0) := by unfold Hid; rw [hX0]; exact (Below.refl _ w).alloc (Nat.le_refl _) _
 have KX : Hid (Blk X0 w.heap.size #[.int .i64 f, .slice Ac nc cc, .slice A n cap] 30) := by unfold Hid; rw [hX0]; exact Blk.new w _ _
 have OE : Hid (Owns (X0.alloc (.cells #[] 28)) X0.heap.size 28 1 (.slice (some ⟨w.heap.size + 1, 0, none⟩) 0 0) (laR [])) := by
  have hs : X0.heap.size = w.heap.size + 1 := by rw [hX0, World.size_alloc]
  unfold Hid
  rw [← hs]
  exact Owns.empty X0 X0.heap.size 28 1 (Nat.le_refl _)
 have BE : Hid (Below X0.heap.size X0 (X0.alloc (.cells #[] 28))) := (Below.refl _ X0).alloc (Nat.le_refl _) _
 go_enter Tryz.func39, Tryz.ntmps39
 go_wp2_with fail
 rw [← hX0]
 clear hX0
 go_loopw [4, 5, 6, 7, 16, 22, 23, 24] (fun v4 v5 _ _ _ _ _ _ wr => ∃ (i : Nat) (us : List Value), i ≤ n ∧ v5 = .int .i64 (i : Int) ∧ Owns wr X0.heap.size 28 1 v4 (laR us) ∧ LayO wr X0.heap.size us (laysF (e.files.take i)) ∧ us.length = i ∧ Hid (∀ s ∈ e.files.take i, isF s) ∧ Below X0.heap.size X0 wr) (fun _ i _ _ _ _ _ _ _ => n - (intOf i).toNat)
 case atStart => exact ⟨0, [], by omega, rfl, OE.out, LayO.nil _ _, rfl, fun s hs => (by simp at hs), BE.out⟩
 case round =>
  obtain ⟨i, us, hi, rfl, hO, hLy, hul, HI, hb⟩ := hrel
  have HO : Hid (Owns wr X0.heap.size 28 1 u4 (laR us)) := hO
  have HLy : Hid (LayO wr X0.heap.size us (laysF (e.files.take i))) := hLy
  have HUl : Hid (us.length = i) := hul
  have HBr : Hid (Below X0.heap.size X0 wr) := hb
  obtain ⟨A4, n4, c4, rfl⟩ := hO.shape
  have BW : Hid (Below w.heap.size w wr) := BX.out.trans (hb.mono BX.out.size)
  have KR : Hid (Blk wr w.heap.size #[.int .i64 f, .slice Ac nc cc, .slice A n cap] 30) := KX.out.on hb KX.out.lt
  have k1 := KR.out.cell 1 _ rfl
  have k2 := KR.out.cell 2 _ rfl
  clear hO hLy hul hb
  by_cases hlt : i < n
  ·have q4 : (i : Int) < (n : Int) := by omega
   obtain ⟨g, off, rfl, hg, e1⟩ := HL.out i hlt
   have hgw : g < w.heap.size := Nat.lt_of_lt_of_le hg HB.out
   rw [← BW.out.cell (p := ⟨_, _, none⟩) hgw] at e1
   have c1 := specReadFile (e.files.getD i default) wr (HSz.out i hlt)
   have HTi : Hid (e.files.take (i + 1) = e.files.take i ++ [e.files.getD i default]) := HTk.out i hlt
   have HMi : Hid (e.files.getD i default ∈ e.files) := HM.out i hlt
   generalize e.files.getD i default = s at *
   go_wp2_with fail
   refine c1.mono ?_
   rintro b w2 ⟨⟨u, L, ok, hR, rfl, hS⟩, hb2⟩
   have HR : Hid (RfAns s (L.map Prod.fst) ok) := hR
   have HS : Hid (SerO w2 wr.heap.size u L) := hS
   have B2 : Hid (Below X0.heap.size X0 w2) := HBr.out.trans (hb2.mono HBr.out.size)
   have BW2 : Hid (Below w.heap.size w w2) := BX.out.trans (B2.out.mono BX.out.size)
   have O2 : Hid (Owns w2 X0.heap.size 28 1 (.slice A4 n4 c4) (laR us)) := HO.out.on hb2
   have L2 : Hid (LayO w2 X0.heap.size us (laysF (e.files.take i))) := HLy.out.on hb2
   have Z : Hid (X0.heap.size ≤ wr.heap.size) := HBr.out.size
   obtain ⟨Au, nu, cu, rfl⟩ := hS.1.shape
   clear hR hS hb2 c1 e1 k1 k2
   cases ok with
   | false =>
    have HNo : Hid (¬ isF s) := rf_no' HR.out
    go_wp2_with fail
    refine bodyPost_ret (results_tmp2 rfl _ _ _) rfl ?_
    exact ⟨⟨_, false, rfl, .inr ⟨rfl, s, HMi.out, HNo.out⟩⟩, BW2.out⟩
   | true =>
    obtain ⟨hF, hFM⟩ := rf_yes' HR.out
    have HF : Hid (isF s) := hF
    have HFM : Hid (fileM s = L.map Prod.fst) := hFM
    have Z2 : X0.heap.size ≤ w2.heap.size := B2.out.size
    have L3 : Hid ((laR us).length ≤ 2097152) := by have := HUl.out; unfold Hid; rw [laR_length]; omega
    clear hF hFM
    go_wp2_with (at_builtin; refine wpList_append_row rfl (.tmp 28) (.tmp 30) 59 28 (.slice none 0 0) 1 24 rfl Tryz.underlying59 infoLay rfl (by omega) X0.heap.size _ (laR us) rfl O2.out [.slice Au nu cu] rfl (la_cell _ rfl) rfl L3.out (by omega) Z2 ?_; intro v' w5 hO5 hb5 hk5 hw5; obtain ⟨A7, n7, c7, rfl⟩ := hO5.shape; refine Shut.out ?_)
    unfold Shut
    have hne5 : ∀ (v : Value) (b : Nat) (e : TypeId) (sz : Nat) (r : List (List Value)), Owns w2 b e sz v r → e ≠ 28 → Owns w5 b e sz v r := fun v b e sz r ho hne => ho.kept fun gg hg hv => hk5 gg hg (fun hu => ho.apartT O2.out hne gg hv hu)
    have O5 : Hid (Owns w5 X0.heap.size 28 1 (.slice A7 n7 c7) (laR (us ++ [.slice Au nu cu]))) := by unfold Hid; rw [laR_append]; exact hO5
    have L5 : Hid (LayO w5 X0.heap.size (us ++ [.slice Au nu cu]) (laysF (e.files.take (i + 1)))) := by
     unfold Hid
     rw [HTi.out, laysF_snoc, HFM.out]
     have h2 := HS.out.mono Z.out
     exact (L2.out.kept hne5).snoc ⟨hne5 _ _ _ _ _ h2.1 (by decide), fun p hp => hne5 _ _ _ _ _ (h2.2.1 p hp) (by decide), h2.2.2⟩
    have B5 : Hid (Below X0.heap.size X0 w5) := B2.out.trans hb5
    have HI5 : Hid (∀ s ∈ e.files.take (i + 1), isF s) := fun x hx => by
     rw [HTi.out] at hx
     rcases List.mem_append.1 hx with h | h
     ·exact HI.out x h
     ·rw [List.mem_singleton.1 h]; exact HF.out
    have HU5 : Hid ((us ++ [Value.slice Au nu cu]).length = i + 1) := by unfold Hid; rw [List.length_append, HUl.out]; rfl
    clear hO5 hb5 hk5 hw5 hne5
    go_wp2_with fail
    go_roundw
    case rel => exact ⟨i + 1, _, by omega, by go_num, O5.out, L5.out, HU5.out, HI5, B5.out⟩
    case measure => simp [intOf]; omega
  ·obtain rfl : i = n := by omega
   have Z2 : X0.heap.size ≤ wr.heap.size := HBr.out.size
   have L3 : Hid ((laR us).length ≤ 2097152) := by have := HUl.out; unfold Hid; rw [laR_length]; omega
   have HCr : Hid (SerV wr B (.slice Ac nc cc) e.cache) := HC.out.on (BW.out.mono HB.out)
   go_wp2_with (at_builtin; refine wpList_append_row rfl (.tmp 32) (.tmp 35) 59 28 (.slice none 0 0) 1 24 rfl Tryz.underlying59 infoLay rfl (by omega) X0.heap.size _ (laR us) rfl HO.out [.slice Ac nc cc] rfl (la_cell _ rfl) rfl L3.out (by omega) Z2 ?_; intro v' w5 hO5 hb5 hk5 hw5; obtain ⟨A7, n7, c7, rfl⟩ := hO5.shape; refine Shut.out ?_)
   unfold Shut
   have hne5 : ∀ (v : Value) (b : Nat) (e : TypeId) (sz : Nat) (r : List (List Value)), Owns wr b e sz v r → e ≠ 28 → Owns w5 b e sz v r := fun v b e sz r ho hne => ho.kept fun gg hg hv => hk5 gg hg (fun hu => ho.apartT HO.out hne gg hv hu)
   have B5 : Hid (Below X0.heap.size X0 w5) := HBr.out.trans hb5
   have BW5 : Hid (Below w.heap.size w w5) := BX.out.trans (B5.out.mono BX.out.size)
   have HAns : Hid (LayV w5 w5.heap.size (.slice A7 n7 c7) (lays e)) := by
    unfold Hid
    rw [HLys.out]
    refine ⟨us ++ [.slice Ac nc cc], by rw [laR_append]; exact hO5.lies, ?_⟩
    have h1 := (HLy.out.kept hne5).lays
    rw [HTn.out] at h1
    exact h1.snoc ((HC.out.on (BW5.out.mono HB.out)).mono (Nat.le_trans HB.out BW5.out.size))
   have HIa : Hid (∀ s ∈ e.files, isF s) := by have := HI.out; rw [HTn.out] at this; exact this
   clear hO5 hb5 hk5 hw5 hne5
   go_wp2_with fail
   refine bodyPost_ret (results_tmp2 rfl _ _ _) rfl ?_
   exact ⟨⟨_, true, rfl, .inl ⟨rfl, HIa.out, HAns.out⟩⟩, BW5.out⟩
end Go.Proofs.YtpmgndgkmffcnaaGreatDoor
