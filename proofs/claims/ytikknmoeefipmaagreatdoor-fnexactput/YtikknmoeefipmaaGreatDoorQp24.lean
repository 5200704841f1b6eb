/- EgI4 -/
import Derived.Test.YtikknmoeefipmaaGreatDoorQp23
import Derived.Test.YtikknmoeefipmaaGreatDoorQp19
import Derived.WalkKit
import Derived.ProofKit
import Derived.OpenShut
import Derived.Below
import Derived.WalkSmall
import Derived.BigQuiet
import Derived.Deep.QuietTactic
import Derived.Deep.RegionWith
import Derived.Handy
namespace Go.Proofs.YtikknmoeefipmaaGreatDoor
open Go.ChangeShapes Go.WideShapes Go.ChangeAt Go.RowKit Go.PlainAid
set_option linter.unusedVariables false
def SrcV (w : World) (B : Nat) (v : Value) (l : List Ser) : Prop :=
 (∃ u, v = .iface 99 u ∧ SerV w B u l) ∨ (∃ s u, v = .iface 166 (.agg #[.string s, u]) ∧ s.size ≤ 1048576 ∧ GoodF s l ∧ Lies w B 5 u (spR (idxF l)))
theorem SrcV.on {w w' : World} {B : Nat} {v : Value} {l : List Ser} (h : SrcV w B v l) (hb : Below B w w') : SrcV w' B v l := by
 rcases h with ⟨u, h1, h2⟩ | ⟨s, u, h1, h2, h3, h4⟩
 ·exact .inl ⟨u, h1, h2.on hb⟩
 ·exact .inr ⟨s, u, h1, h2, h3, h4.on hb⟩
theorem SrcV.mono {w : World} {B C : Nat} {v : Value} {l : List Ser} (h : SrcV w B v l) (hB : B ≤ C) : SrcV w C v l := by
 rcases h with ⟨u, h1, h2⟩ | ⟨s, u, h1, h2, h3, h4⟩
 ·exact .inl ⟨u, h1, h2.mono hB⟩
 ·exact .inr ⟨s, u, h1, h2, h3, h4.mono hB⟩
theorem SrcV.one {w : World} {B : Nat} {v : Value} {l : List Ser} (h : SrcV w B v l) : v.oneCell' = true := by
 rcases h with ⟨u, rfl, _⟩ | ⟨s, u, rfl, _⟩ <;> rfl
def SrcL (w : World) (B : Nat) (us : List Value) (ls : List (List Ser)) : Prop := us.length = ls.length ∧ ∀ j, j < ls.length → SrcV w B (us.getD j default) (ls.getD j [])
def SrcsV (w : World) (B : Nat) (v : Value) (ls : List (List Ser)) : Prop := ∃ us, Lies w B 1 v (laR us) ∧ SrcL w B us ls
theorem SrcL.on {w w' : World} {B : Nat} {us : List Value} {ls : List (List Ser)} (h : SrcL w B us ls) (hb : Below B w w') : SrcL w' B us ls := ⟨h.1, fun j hj => (h.2 j hj).on hb⟩
theorem SrcL.mono {w : World} {B C : Nat} {us : List Value} {ls : List (List Ser)} (h : SrcL w B us ls) (hB : B ≤ C) : SrcL w C us ls := ⟨h.1, fun j hj => (h.2 j hj).mono hB⟩
theorem SrcsV.on {w w' : World} {B : Nat} {v : Value} {ls : List (List Ser)} (h : SrcsV w B v ls) (hb : Below B w w') : SrcsV w' B v ls := h.imp fun _ h => ⟨h.1.on hb, h.2.on hb⟩
theorem SrcsV.mono {w : World} {B C : Nat} {v : Value} {ls : List (List Ser)} (h : SrcsV w B v ls) (hB : B ≤ C) : SrcsV w C v ls := h.imp fun _ h => ⟨h.1.mono hB, h.2.mono hB⟩
theorem SrcL.snoc {w : World} {B : Nat} {us : List Value} {ls : List (List Ser)} (h : SrcL w B us ls) {u : Value} {l : List Ser} (hu : SrcV w B u l) : SrcL w B (us ++ [u]) (ls ++ [l]) := by
 refine ⟨by simp [h.1], fun j hj => ?_⟩
 rw [List.length_append, List.length_singleton] at hj
 by_cases e : j < ls.length
 ·rw [List.getD_eq_getElem?_getD, List.getD_eq_getElem?_getD, List.getElem?_append_left (by rw [h.1]; exact e), List.getElem?_append_left e, ← List.getD_eq_getElem?_getD, ← List.getD_eq_getElem?_getD]
  exact h.2 j e
 ·obtain rfl : j = ls.length := by omega
  rw [List.getD_eq_getElem?_getD, List.getD_eq_getElem?_getD, List.getElem?_append_right (by rw [h.1]; exact Nat.le_refl _), List.getElem?_append_right (Nat.le_refl _), h.1, Nat.sub_self]
  exact hu
theorem SrcsV.look {w : World} {B : Nat} {v : Value} {ls : List (List Ser)} (h : SrcsV w B v ls) : ∃ A cap, v = .slice A ls.length cap ∧ ∀ j, j < ls.length → ∃ g off u, A = some ⟨g, off, none⟩ ∧ g < B ∧ w.cell? ⟨g, off + j, none⟩ = some u ∧ SrcV w B u (ls.getD j []) := by
 obtain ⟨us, h1, h2⟩ := h
 obtain ⟨A, cap, e, hl⟩ := la_look h1
 refine ⟨A, cap, by rw [e, h2.1], fun j hj => ?_⟩
 obtain ⟨g, off, e, hg, hc⟩ := hl j (by rw [h2.1]; exact hj)
 exact ⟨g, off, _, e, hg, hc, h2.2 j hj⟩
theorem SrcsV.cells {w : World} {B n c : Nat} {A : Option Addr} {ls : List (List Ser)} (h : SrcsV w B (.slice A n c) ls) : ∀ j, j < ls.length → ∃ g off u, A = some ⟨g, off, none⟩ ∧ g < B ∧ w.cell? ⟨g, off + j, none⟩ = some u ∧ SrcV w B u (ls.getD j []) := by
 obtain ⟨A', c', e, hl⟩ := h.look
 cases e
 exact hl
theorem keysOf_take (ls : List (List Ser)) (i : Nat) (h : i < ls.length) : keysOf (ls.take (i + 1)) = keysOf (ls.take i) ++ (ls.getD i []).map Ser.key := by
 have e : ls.take (i + 1) = ls.take i ++ [ls.getD i []] := by
  rw [List.take_add_one, List.getElem?_eq_getElem h, List.getD_eq_getElem?_getD, List.getElem?_eq_getElem h]
  rfl
 rw [e, keysOf_snoc]
set_option maxHeartbeats 4000000 in
theorem implKeysOf (ls : List (List Ser)) (v : Value) (w : World) (B : Nat) (hv : SrcsV w B v ls) (hf : LFew ls) (hB : B ≤ w.heap.size) :
  Calls Tryz.prog 91 #[v] w fun e w' => (∃ u, e = .returned u ∧ Owns w' w.heap.size 9 1 u (stR (keysL ls))) ∧ Below w.heap.size w w' := by
 obtain ⟨A, cap, rfl, _⟩ := hv.look
 have HL : Hid (∀ wx, Below w.heap.size w wx → ∀ j, j < ls.length → ∃ g off u, A = some ⟨g, off, none⟩ ∧ g < B ∧ wx.cell? ⟨g, off + j, none⟩ = some u ∧ SrcV wx B u (ls.getD j [])) := fun wx hx => (hv.on (hx.mono hB)).cells
 have HB : Hid (B ≤ w.heap.size) := hB
 have HT : Hid (∀ i, i < ls.length → keysOf (ls.take (i + 1)) = keysOf (ls.take i) ++ (ls.getD i []).map Ser.key) := keysOf_take ls
 have HA : Hid (∀ i, i = ls.length → keysOf (ls.take i) = keysOf ls) := fun i hi => by rw [hi, List.take_length]
 have HLn : Hid (∀ i, i < ls.length → (ls.getD i []).length ≤ 10) := fun i hi => (hf.2 _ (getD_memL ls i hi)).1
 have HKl : Hid (∀ i, (keysOf (ls.take i)).length ≤ 100) := fun i => by
  have h1 := keysOf_len (ls.take i) fun l hl => (hf.2 l (List.mem_of_mem_take hl)).1
  have h2 : (ls.take i).length ≤ 10 := by rw [List.length_take]; have := hf.1; omega
  omega
 have q1 : (ls.length : Int) ≤ 10 := by have := hf.1; omega
 clear hv hB hf
 generalize hN : ls.length = n at *
 clear hN
 go_enter Tryz.func91, Tryz.ntmps91
 go_wp2_with fail
 go_loopw [3, 8] (fun v3 v8 wr => ∃ i : Nat, i ≤ n ∧ v8 = .int .i64 (i : Int) ∧ Owns wr w.heap.size 9 1 v3 (stR (keysOf (ls.take i))) ∧ Below w.heap.size w wr) (fun _ i _ => n - (intOf i).toNat)
 case atStart => exact ⟨0, by omega, rfl, Owns.nil _ _ _ _, Below.refl _ _⟩
 case round =>
  obtain ⟨i, hi, rfl, hO, hb⟩ := hrel
  have HO : Hid (Owns wr w.heap.size 9 1 u3 (stR (keysOf (ls.take i)))) := hO
  have HBr : Hid (Below w.heap.size w wr) := hb
  obtain ⟨A3, n3, c3, rfl⟩ := hO.shape
  clear hO hb
  by_cases hlt : i < n
  ·have q4 : (i : Int) < (n : Int) := by omega
   obtain ⟨g, off, u, rfl, hg, e1, hu⟩ := HL.out wr HBr.out i hlt
   have HE : Hid (keysOf (ls.take (i + 1)) = keysOf (ls.take i) ++ (ls.getD i []).map Ser.key) := HT.out i hlt
   have hli := HLn.out i hlt
   have hkl := HKl.out i
   have HKi : Hid ((stR (keysOf (ls.take i))).length + (stR ((ls.getD i []).map Ser.key)).length ≤ 2097152) := by unfold Hid; rw [stR_length, stR_length, List.length_map]; omega
   have Z : Hid (B ≤ wr.heap.size) := Nat.le_trans HB.out HBr.out.size
   generalize keysOf (ls.take i) = o at *
   generalize ls.getD i [] = li at *
   rcases hu with ⟨u', rfl, hS⟩ | ⟨s, u', rfl, hs1, hG, hX⟩
   ·have c1 := cachedKeys li u' wr B hS (by omega) Z.out
    clear hS
    go_wp2_with fail
    refine c1.mono ?_
    rintro e w2 ⟨⟨u2, rfl, hO2⟩, hb2⟩
    have OK : Hid (Owns w2 wr.heap.size 9 1 u2 (stR (li.map Ser.key))) := hO2
    have HO2 : Hid (Owns w2 w.heap.size 9 1 (.slice A3 n3 c3) (stR o)) := HO.out.on hb2
    have B2 : Hid (Below w.heap.size w w2) := HBr.out.trans (hb2.mono HBr.out.size)
    have Z2 : w.heap.size ≤ w2.heap.size := B2.out.size
    obtain ⟨A4, n4, c4, rfl⟩ := hO2.shape
    clear hO2 hb2 c1
    go_wp2_with (at_builtin; refine wpList_append_all rfl (.tmp 12) (.tmp 14) 24 9 (.string ⟨#[]⟩) 1 16 rfl Tryz.underlying24 infoStr rfl (by omega) w.heap.size (.slice A3 n3 c3) (.slice A4 n4 c4) (stR o) (stR (li.map Ser.key)) w2.heap.size rfl HO2.out OK.out.lies (st_one _) rfl HKi.out (by omega) Z2 ?_; intro v' w3 hO3 hb3 hk3 hw3; obtain ⟨A5, n5, c5, rfl⟩ := hO3.shape; refine Shut.out ?_)
    unfold Shut
    have O3 : Hid (Owns w3 w.heap.size 9 1 (.slice A5 n5 c5) (stR (o ++ li.map Ser.key))) := by unfold Hid; rw [stR_append]; exact hO3
    have B3 : Hid (Below w.heap.size w w3) := B2.out.trans hb3
    clear hO3 hb3 hk3 hw3
    go_wp2_with fail
    go_roundw
    case rel => exact ⟨i + 1, by omega, by go_num, by rw [HE.out]; exact O3.out, B3.out⟩
    case measure => simp [intOf]; omega
   ·have c1 := filedKeys s (idxF li) u' wr B hX (by rw [idxF_length]; omega) Z.out
    rw [idxF_keys] at c1
    clear hX hG hs1
    go_wp2_with fail
    refine c1.mono ?_
    rintro e w2 ⟨⟨u2, rfl, hO2⟩, hb2⟩
    have OK : Hid (Owns w2 wr.heap.size 9 1 u2 (stR (li.map Ser.key))) := hO2
    have HO2 : Hid (Owns w2 w.heap.size 9 1 (.slice A3 n3 c3) (stR o)) := HO.out.on hb2
    have B2 : Hid (Below w.heap.size w w2) := HBr.out.trans (hb2.mono HBr.out.size)
    have Z2 : w.heap.size ≤ w2.heap.size := B2.out.size
    obtain ⟨A4, n4, c4, rfl⟩ := hO2.shape
    clear hO2 hb2 c1
    go_wp2_with (at_builtin; refine wpList_append_all rfl (.tmp 12) (.tmp 14) 24 9 (.string ⟨#[]⟩) 1 16 rfl Tryz.underlying24 infoStr rfl (by omega) w.heap.size (.slice A3 n3 c3) (.slice A4 n4 c4) (stR o) (stR (li.map Ser.key)) w2.heap.size rfl HO2.out OK.out.lies (st_one _) rfl HKi.out (by omega) Z2 ?_; intro v' w3 hO3 hb3 hk3 hw3; obtain ⟨A5, n5, c5, rfl⟩ := hO3.shape; refine Shut.out ?_)
    unfold Shut
    have O3 : Hid (Owns w3 w.heap.size 9 1 (.slice A5 n5 c5) (stR (o ++ li.map Ser.key))) := by unfold Hid; rw [stR_append]; exact hO3
    have B3 : Hid (Below w.heap.size w w3) := B2.out.trans hb3
    clear hO3 hb3 hk3 hw3
    go_wp2_with fail
    go_roundw
    case rel => exact ⟨i + 1, by omega, by go_num, by rw [HE.out]; exact O3.out, B3.out⟩
    case measure => simp [intOf]; omega
  ·obtain rfl : i = n := by omega
   have HAi : Hid (keysOf (ls.take i) = keysOf ls) := HA.out i rfl
   have HKi : Hid ((keysOf (ls.take i)).length ≤ 100) := HKl.out i
   have c1 := sortV (keysOf (ls.take i)) (.slice A3 n3 c3) wr w.heap.size HO.out (by have := HKi.out; omega)
   go_wp2_with fail
   refine c1.mono ?_
   rintro e w2 ⟨rfl, hO2, hb2⟩
   have B2 : Hid (Below w.heap.size w w2) := HBr.out.trans hb2
   have c2 := compactV (((keysOf (ls.take i)).map toL).mergeSort fun x y => decide (x ≤ y)) (.slice A3 n3 c3) w2 w.heap.size hO2 (by rw [List.length_mergeSort, List.length_map]; have := HKi.out; omega)
   have HEn : Hid ((Lib.compact (((keysOf (ls.take i)).map toL).mergeSort fun x y => decide (x ≤ y))).map ofL = keysL ls) := by unfold Hid; rw [HAi.out]; exact once_all _
   clear hO2 hb2 c1
   go_wp2_with fail
   refine c2.mono ?_
   rintro e w3 ⟨⟨u, rfl, hO3⟩, hb3⟩
   have O3 : Hid (Owns w3 w.heap.size 9 1 u (stR (keysL ls))) := by unfold Hid; rw [← HEn.out]; exact hO3
   have B3 : Hid (Below w.heap.size w w3) := B2.out.trans hb3
   clear hO3 hb3 c2 HEn
   go_wp2_with fail
   go_ret
   exact ⟨⟨_, rfl, O3.out⟩, B3.out⟩
end Go.Proofs.YtikknmoeefipmaaGreatDoor
