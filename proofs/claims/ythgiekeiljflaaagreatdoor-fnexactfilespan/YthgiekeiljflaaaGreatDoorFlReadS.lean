/-
  Contract of spec.ReadFile.
-/
import Derived.Test.YthgiekeiljflaaaGreatDoorFlIdxS
import Derived.Test.YthgiekeiljflaaaGreatDoorFlTextS
import Derived.WalkKit
import Derived.ProofKit
import Derived.OpenShut
import Derived.Below
import Derived.WalkSmall
import Derived.BigQuiet
import Derived.Deep.QuietTactic
import Derived.Deep.RegionWith
import Derived.Handy
namespace Go.Proofs.YthgiekeiljflaaaGreatDoor
open Go.ChangeShapes Go.WideShapes Go.ChangeAt Go.RowKit Go.PlainAid
set_option linter.unusedVariables false

theorem LKey.short {s : ByteArray} {L : List (Ser × Value)} (h : LKey s L) : SShort (L.map Prod.fst) := by
  refine ⟨by rw [List.length_map]; have := h.1; omega, fun x hx => ?_⟩
  obtain ⟨q, hq, rfl⟩ := List.mem_map.1 hx
  have := (h.2 q hq).1
  omega
theorem LKey.keys {s : ByteArray} {L : List (Ser × Value)} (h : LKey s L) (hs : s.size ≤ 1048576) : ∀ x ∈ L.map Prod.fst, x.key.size ≤ maxLen := by
  intro x hx
  obtain ⟨q, hq, rfl⟩ := List.mem_map.1 hx
  have := (h.2 q hq).2
  unfold maxLen
  omega
theorem rfs_no {s : ByteArray} {l : List Ser} (h : ∀ m, GoodF s m → l = m) (hne : fileT l ≠ s) : RfAns s [] false := .inr ⟨rfl, rfl, fun m hm => hne (by rw [h m hm]; exact hm.2.2)⟩
theorem rfs_yes {s : ByteArray} {l : List Ser} (h12 : 12 ≤ s.size) (he : fileT l = s) : RfAns s l true := by
  refine .inl ⟨rfl, GoodF.of ?_ (by omega) he⟩
  rcases Nat.eq_zero_or_pos l.length with h | h
  · exfalso
    rw [fileT, if_neg (fun hh => by omega)] at he
    rw [← he, txt_size] at h12
    simp at h12
  · exact h
set_option maxHeartbeats 2000000 in
theorem specReadFile (s : ByteArray) (w : World) (hs : s.size ≤ 1048576) : Calls Tryz.prog 6 #[.string s] w fun e w' => (∃ u L ok, RfAns s (L.map Prod.fst) ok ∧ e = .returned (.tuple #[u, .bool ok]) ∧ SerO w' w.heap.size u L) ∧ Below w.heap.size w w' := by
  have HS : Hid (s.size ≤ 1048576) := hs
  have c1 := specIndex s w hs
  clear hs
  go_enter Tryz.func6, Tryz.ntmps6
  go_wp2_with fail
  refine c1.mono ?_
  rintro e X1 ⟨⟨u, L, ok, rfl, hO, hK, hG, h12⟩, hb⟩
  have HO : Hid (SerO X1 w.heap.size u L) := hO
  have HK : Hid (LKey s L) := hK
  have HG : Hid (∀ m, GoodF s m → ok = true ∧ L.map Prod.fst = m) := hG
  have H12 : Hid (s.size < 12 → ok = false) := h12
  have B1 : Hid (Below w.heap.size w X1) := hb
  have BE : Hid (Below w.heap.size w (X1.alloc (.cells #[] 46))) := hb.alloc hb.size _
  have OE : Hid (SerO (X1.alloc (.cells #[] 46)) w.heap.size (.slice (some ⟨X1.heap.size, 0, none⟩) 0 0) []) := ⟨Owns.empty X1 w.heap.size 46 2 hb.size, fun p hp => (by cases hp), List.Pairwise.nil⟩
  clear hO hK hG h12 hb c1
  cases ok with
  | false =>
    have HN : Hid (RfAns s [] false) := .inr ⟨rfl, rfl, fun m hm => by have := (HG.out m hm).1; cases this⟩
    go_wp2_with fail
    refine bodyPost_ret (results_tmp2 rfl _ _ _) rfl ?_
    exact ⟨⟨_, [], false, HN.out, rfl, OE.out⟩, BE.out⟩
  | true =>
  have cF := specFileText (L.map Prod.fst) u X1 X1.heap.size HO.out.view HK.out.short (HK.out.keys HS.out) (Nat.le_refl _)
  have h12 : 12 ≤ s.size := by
    rcases Nat.lt_or_ge s.size 12 with h | h
    · have := H12.out h
      cases this
    · exact h
  have HH : Hid (12 ≤ s.size) := h12
  clear h12 BE OE
  by_cases hEq : fileT (L.map Prod.fst) = s
  · have HY : Hid (RfAns s (L.map Prod.fst) true) := rfs_yes HH.out hEq
    rw [hEq] at cF
    clear hEq
    go_wp2_with fail
    refine cF.mono ?_
    rintro e Y ⟨rfl, hbY⟩
    have BY : Hid (Below w.heap.size w Y) := B1.out.trans (hbY.mono B1.out.size)
    have OY : Hid (SerO Y w.heap.size u L) := HO.out.on hbY
    clear hbY cF
    go_wp2_with fail
    refine bodyPost_ret (results_tmp2 rfl _ _ _) rfl ?_
    exact ⟨⟨_, L, true, HY.out, rfl, OY.out⟩, BY.out⟩
  · have HN : Hid (RfAns s [] false) := rfs_no (fun m hm => (HG.out m hm).2) hEq
    have hne := bytes_ne hEq
    clear hEq
    go_wp2_with fail
    refine cF.mono ?_
    rintro e Y ⟨rfl, hbY⟩
    have BE : Hid (Below w.heap.size w (Y.alloc (.cells #[] 46))) := (B1.out.trans (hbY.mono B1.out.size)).alloc (Nat.le_trans B1.out.size hbY.size) _
    have OE : Hid (SerO (Y.alloc (.cells #[] 46)) w.heap.size (.slice (some ⟨Y.heap.size, 0, none⟩) 0 0) []) := ⟨Owns.empty Y w.heap.size 46 2 (Nat.le_trans B1.out.size hbY.size), fun p hp => (by cases hp), List.Pairwise.nil⟩
    clear hbY cF
    go_wp2_with fail
    refine bodyPost_ret (results_tmp2 rfl _ _ _) rfl ?_
    exact ⟨⟨_, [], false, HN.out, rfl, OE.out⟩, BE.out⟩
end Go.Proofs.YthgiekeiljflaaaGreatDoor
