/- EgS2 SrMk StrEqL EgL1 EgL2 -/
import Derived.Test.YtikknmoeefipmaaGreatDoorQs8
import Derived.WalkKit
import Derived.ProofKit
import Derived.OpenShut
import Derived.Below
import Derived.WalkSmall
import Derived.BigQuiet
import Derived.Deep.QuietTactic
import Derived.Deep.RegionWith
import Derived.Handy
import Derived.Test.YtikknmoeefipmaaGreatDoorRows
import Derived.Test.YtikknmoeefipmaaGreatDoorQs0
import Derived.Test.YtikknmoeefipmaaGreatDoorQs7
import Derived.WalkLawsBesides
import Derived.Outline
import Derived.Test.YtikknmoeefipmaaGreatDoorQs2
import Derived.Test.YtikknmoeefipmaaGreatDoorQs4
import Derived.Test.YtikknmoeefipmaaGreatDoorQs14
namespace Go.Proofs.YtikknmoeefipmaaGreatDoor
open Go.ChangeShapes Go.WideShapes Go.ChangeAt Go.RowKit Go.PlainAid
set_option linter.unusedVariables false
theorem infoStr : (Tryz.prog.info? 9).map (fun i => (i.zero, i.size, i.bytes)) = some (some (.string ⟨#[]⟩), 1, 16) := by kernel_rfl
def nmF (key : ByteArray) (s : List ByteArray × Bool) (x : ByteArray) : List ByteArray × Bool := if s.2 = false ∧ ahd key x = true then (s.1 ++ [key] ++ [x], true) else (s.1 ++ [x], s.2)
def nmS (l : List ByteArray) (key : ByteArray) (k : Nat) : List ByteArray × Bool := (l.take k).foldl (nmF key) ([], false)
theorem nmS_succ (l : List ByteArray) (key : ByteArray) (k : Nat) (h : k < l.length) : nmS l key (k + 1) = nmF key (nmS l key k) (l.getD k default) := by
 unfold nmS
 rw [take_getD l k h, List.foldl_append]
 rfl
def nmFin (key : ByteArray) (s : List ByteArray × Bool) : List ByteArray := if s.2 then s.1 else s.1 ++ [key]
theorem nm_done (key : ByteArray) : ∀ (l o : List ByteArray), l.foldl (nmF key) (o, true) = (o ++ l, true)
 | [], o => by simp
 | x :: l, o => by
  have e : nmF key (o, true) x = (o ++ [x], true) := by simp [nmF]
  rw [List.foldl_cons, e, nm_done key l]
  simp
theorem nm_open (key : ByteArray) : ∀ (l o : List ByteArray), (∀ x ∈ l, x ≠ key) → nmFin key (l.foldl (nmF key) (o, false)) = o ++ insK l key
 | [], o, _ => by simp [nmFin, insK]
 | x :: l, o, h => by
  have hx := h x (by simp)
  by_cases h2 : ahd key x = true
  ·have e : nmF key (o, false) x = (o ++ [key] ++ [x], true) := by simp [nmF, h2]
   rw [List.foldl_cons, e, nm_done, insK, if_neg hx, if_pos h2]
   simp [nmFin]
  ·have e : nmF key (o, false) x = (o ++ [x], false) := by simp [nmF, h2]
   rw [List.foldl_cons, e, nm_open key l _ fun y hy => h y (by simp [hy]), insK, if_neg hx, if_neg h2]
   simp
theorem nm_all {l : List ByteArray} {key : ByteArray} (h : ∀ x ∈ l, x ≠ key) : nmFin key (nmS l key l.length) = insK l key := by
 unfold nmS
 rw [List.take_length, nm_open key l [] h, List.nil_append]
theorem insK_mem {key : ByteArray} : ∀ {l : List ByteArray}, RiseK l → key ∈ l → insK l key = l
 | x :: l, hl, h => by
  have hl' := List.pairwise_cons.1 hl
  by_cases e : x = key
  ·rw [insK, if_pos e]
  ·have hk : key ∈ l := by
    rcases List.mem_cons.1 h with e2 | h2
    ·exact absurd e2.symm e
    ·exact h2
   have h2 : ¬ ahd key x = true := fun h2 => absurd rfl (ahd_ne (ahd_trans h2 (hl'.1 key hk)))
   rw [insK, if_neg e, if_neg h2, insK_mem hl'.2 hk]
theorem nmS_len (l : List ByteArray) (key : ByteArray) : ∀ k, k ≤ l.length → (nmS l key k).1.length ≤ 2 * k
 | 0, _ => by simp [nmS]
 | k + 1, h => by
  have ih := nmS_len l key k (by omega)
  rw [nmS_succ l key k (by omega), nmF]
  split
  ·simp; omega
  ·simp; omega
theorem st_cell (x : ByteArray) : ∀ u ∈ ([.string x] : List Value), u.oneCell' = true := by
 intro u hu
 simp only [List.mem_cons, List.not_mem_nil, or_false] at hu
 rw [hu]; rfl
set_option maxHeartbeats 2000000 in
theorem specName (l : List ByteArray) (key : ByteArray) (v : Value) (w : World) (base : Nat) (hv : Owns w base 9 1 v (stR l)) (hn : l.length ≤ 1000) (hr : RiseK l) (hb : base ≤ w.heap.size) :
  Calls Tryz.prog 151 #[v, .string key] w fun e w' => (∃ u, e = .returned u ∧ Owns w' base 9 1 u (stR (insK l key))) ∧ Below w.heap.size w w' := by
 obtain ⟨A, cap, rfl, hl⟩ := st_look hv.lies
 have HV : Hid (Owns w base 9 1 (.slice A l.length cap) (stR l)) := hv
 have HL : Hid (∀ j, j < l.length → ∃ g off, A = some ⟨g, off, none⟩ ∧ g < w.heap.size ∧ w.cell? ⟨g, off + j, none⟩ = some (.string (l.getD j default))) := hl
 have HR : Hid (RiseK l) := hr
 have HB : Hid (base ≤ w.heap.size) := hb
 have HS : Hid (∀ k, k < l.length → nmS l key (k + 1) = nmF key (nmS l key k) (l.getD k default)) := fun k hk => nmS_succ l key k hk
 have HSl : Hid (∀ k, k ≤ l.length → (nmS l key k).1.length ≤ 2 * k) := nmS_len l key
 have q1 : (l.length : Int) ≤ 1000 := by omega
 clear hl hv hr hb hn
 generalize hN : l.length = n at *
 have HN : Hid (l.length = n) := hN
 clear hN
 have BE : Hid (Below w.heap.size w (w.alloc (.cells #[] 9))) := (Below.refl _ w).alloc (Nat.le_refl _) _
 have OE : Hid (Owns (w.alloc (.cells #[] 9)) w.heap.size 9 1 (.slice (some ⟨w.heap.size, 0, none⟩) 0 0) (stR [])) := Owns.empty w w.heap.size 9 1 (Nat.le_refl _)
 go_enter Tryz.func151, Tryz.ntmps151
 go_wp2_with fail
 go_loopw [5, 6, 7] (fun v5 v6 v7 wr => ∃ k : Nat, k ≤ n ∧ v7 = .int .i64 (k : Int) ∧ v6 = .bool (nmS l key k).2 ∧ Hid (∀ i, i < k → l.getD i default ≠ key) ∧ Owns wr w.heap.size 9 1 v5 (stR (nmS l key k).1) ∧ Below w.heap.size w wr) (fun _ _ i _ => n - (intOf i).toNat)
 case atStart => exact ⟨0, by omega, rfl, rfl, fun i hi => by omega, OE.out, BE.out⟩
 case round =>
  obtain ⟨k, hk, rfl, rfl, HJ, hO, hB⟩ := hrel
  have HO : Hid (Owns wr w.heap.size 9 1 u5 (stR (nmS l key k).1)) := hO
  have HBr : Hid (Below w.heap.size w wr) := hB
  obtain ⟨A5, n5, c5, rfl⟩ := hO.shape
  clear hO hB
  by_cases hlt : k < n
  ·have q4 : (k : Int) < (n : Int) := by omega
   obtain ⟨g, off, rfl, hg, e1⟩ := HL.out k hlt
   rw [← HBr.out.cell (p := ⟨_, _, none⟩) hg] at e1
   by_cases hkey : l.getD k default = key
   ·have HF : Hid (insK l key = l) := insK_mem HR.out (by rw [← hkey]; exact getD_mem l k (by rw [HN.out]; exact hlt))
    rw [hkey] at e1
    clear hkey
    go_wp2_with fail
    go_ret
    refine ⟨⟨_, rfl, ?_⟩, HBr.out⟩
    rw [HF.out]
    exact HV.out.on HBr.out
   ·have HK : Hid (l.getD k default ≠ key) := hkey
    have hne := bytes_ne hkey
    have HSk := HS.out k hlt
    have HLk := HSl.out k hk
    have HSe : Hid (nmS l key (k + 1) = nmF key (nmS l key k) (l.getD k default)) := HSk
    have HJn : Hid (∀ i, i < k + 1 → l.getD i default ≠ key) := fun i hi => by
     by_cases e : i = k
     ·rw [e]; exact HK.out
     ·exact HJ.out i (by omega)
    clear hkey HSk HJ HK
    have Z : w.heap.size ≤ wr.heap.size := HBr.out.size
    have L2 : Hid ((stR (nmS l key k).1).length ≤ 2097152) := by unfold Hid; rw [stR_length]; omega
    clear HLk
    by_cases hput : (nmS l key k).2 = false ∧ ahd key (l.getD k default) = true
    ·have HE : Hid (nmS l key (k + 1) = ((nmS l key k).1 ++ [key] ++ [l.getD k default], true)) := by
      unfold Hid
      rw [HSe.out, nmF, if_pos hput]
     have HLk : Hid ((nmS l key k).1.length ≤ 2 * k) := HSl.out k hk
     obtain ⟨hp1, hp2⟩ := hput
     unfold ahd at hp2
     rw [hp1]
     generalize (nmS l key k).1 = o at *
     generalize l.getD k default = x at *
     have hW : ∀ z : World, Hid (w.heap.size ≤ z.heap.size ∧ (stR (o ++ [key])).length ≤ 2097152) → True := fun _ _ => trivial
     have L3 : Hid ((stR (o ++ [key])).length ≤ 2097152) := by have := HLk.out; unfold Hid; rw [stR_length, List.length_append, List.length_singleton]; omega
     clear hW hp1
     go_wp2_with (at_builtin; refine wpList_append_row rfl (.tmp 32) (.tmp 34) 24 9 (.string ⟨#[]⟩) 1 16 rfl Tryz.underlying24 infoStr rfl (by omega) w.heap.size _ (stR o) rfl HO.out [.string key] rfl (st_cell key) rfl L2.out (by omega) Z ?_; intro v' w2 hO2 hb2 hk2 hw2; obtain ⟨A2, n2, c2, rfl⟩ := hO2.shape; refine Shut.out ?_)
     unfold Shut
     have B2 : Hid (Below w.heap.size w w2) := HBr.out.trans hb2
     have hc2 := e1
     rw [← hb2.cell (p := ⟨_, _, none⟩) hg] at hc2
     have O2 : Hid (Owns w2 w.heap.size 9 1 (.slice A2 n2 c2) (stR (o ++ [key]))) := by rw [stR_append]; exact hO2
     have Z2 : w.heap.size ≤ w2.heap.size := B2.out.size
     clear hO2 hb2 hk2 hw2 e1
     go_wp2_with (at_builtin; refine wpList_append_row rfl (.tmp 36) (.tmp 41) 24 9 (.string ⟨#[]⟩) 1 16 rfl Tryz.underlying24 infoStr rfl (by omega) w.heap.size _ (stR (o ++ [key])) rfl O2.out [.string x] rfl (st_cell x) rfl L3.out (by omega) Z2 ?_; intro v3 w3 hO3 hb3 hk3 hw3; obtain ⟨A3, n3, c3, rfl⟩ := hO3.shape; refine Shut.out ?_)
     unfold Shut
     have O3 : Hid (Owns w3 w.heap.size 9 1 (.slice A3 n3 c3) (stR (o ++ [key] ++ [x]))) := by rw [stR_append (o ++ [key])]; exact hO3
     have B3 : Hid (Below w.heap.size w w3) := B2.out.trans hb3
     clear hO3 hb3 hk3 hw3 hc2
     go_wp2_with fail
     go_roundw
     case rel => exact ⟨k + 1, by omega, by go_num, by rw [HE.out], HJn, by rw [HE.out]; exact O3.out, B3.out⟩
     case measure => simp [intOf]; omega
    ·have HE : Hid (nmS l key (k + 1) = ((nmS l key k).1 ++ [l.getD k default], (nmS l key k).2)) := by
      unfold Hid
      rw [HSe.out, nmF, if_neg hput]
     have hb : (nmS l key k).2 = true ∨ (nmS l key k).2 = false ∧ Op.bytesLess key.toList (l.getD k default).toList = false := by
      cases e : (nmS l key k).2 with
      | true => exact .inl rfl
      | false =>
       refine .inr ⟨rfl, ?_⟩
       cases e2 : Op.bytesLess key.toList (l.getD k default).toList with
       | false => rfl
       | true => exact absurd ⟨e, e2⟩ hput
     clear hput
     generalize (nmS l key k).1 = o at *
     generalize l.getD k default = x at *
     have fin : ∀ (b : Bool) (A3 : Option Addr) (n3 c3 : Nat) (w3 : World), True := fun _ _ _ _ _ => trivial
     clear fin
     rcases hb with hb | ⟨hb, hb2⟩
     ·rw [hb] at HE ⊢
      clear hb
      go_wp2_with (at_builtin; refine wpList_append_row rfl (.tmp 36) (.tmp 41) 24 9 (.string ⟨#[]⟩) 1 16 rfl Tryz.underlying24 infoStr rfl (by omega) w.heap.size _ (stR o) rfl HO.out [.string x] rfl (st_cell x) rfl L2.out (by omega) Z ?_; intro v3 w3 hO3 hb3 hk3 hw3; obtain ⟨A3, n3, c3, rfl⟩ := hO3.shape; refine Shut.out ?_)
      unfold Shut
      have O3 : Hid (Owns w3 w.heap.size 9 1 (.slice A3 n3 c3) (stR (o ++ [x]))) := by rw [stR_append]; exact hO3
      have B3 : Hid (Below w.heap.size w w3) := HBr.out.trans hb3
      clear hO3 hb3 hk3 hw3 e1
      go_wp2_with fail
      go_roundw
      case rel => exact ⟨k + 1, by omega, by go_num, by rw [HE.out], HJn, by rw [HE.out]; exact O3.out, B3.out⟩
      case measure => simp [intOf]; omega
     ·rw [hb] at HE ⊢
      clear hb
      go_wp2_with (at_builtin; refine wpList_append_row rfl (.tmp 36) (.tmp 41) 24 9 (.string ⟨#[]⟩) 1 16 rfl Tryz.underlying24 infoStr rfl (by omega) w.heap.size _ (stR o) rfl HO.out [.string x] rfl (st_cell x) rfl L2.out (by omega) Z ?_; intro v3 w3 hO3 hb3 hk3 hw3; obtain ⟨A3, n3, c3, rfl⟩ := hO3.shape; refine Shut.out ?_)
      unfold Shut
      have O3 : Hid (Owns w3 w.heap.size 9 1 (.slice A3 n3 c3) (stR (o ++ [x]))) := by rw [stR_append]; exact hO3
      have B3 : Hid (Below w.heap.size w w3) := HBr.out.trans hb3
      clear hO3 hb3 hk3 hw3 e1
      go_wp2_with fail
      go_roundw
      case rel => exact ⟨k + 1, by omega, by go_num, by rw [HE.out], HJn, by rw [HE.out]; exact O3.out, B3.out⟩
      case measure => simp [intOf]; omega
  ·obtain rfl : k = n := by omega
   have HF : Hid (nmFin key (nmS l key k) = insK l key) := by
    unfold Hid
    rw [← HN.out]
    refine nm_all fun x hx => ?_
    obtain ⟨j, hj, rfl⟩ := List.getElem_of_mem hx
    rw [getD_at l j hj]
    exact HJ.out j (by rw [← HN.out]; exact hj)
   have HLk : Hid ((nmS l key k).1.length ≤ 2 * k) := HSl.out k hk
   have Z : w.heap.size ≤ wr.heap.size := HBr.out.size
   have L2 : Hid ((stR (nmS l key k).1).length ≤ 2097152) := by have := HLk.out; unfold Hid; rw [stR_length]; omega
   unfold nmFin at HF
   cases hb : (nmS l key k).2 with
   | true =>
    rw [hb] at HF
    go_wp2_with fail
    go_ret
    refine ⟨⟨_, rfl, ?_⟩, HBr.out⟩
    have := HF.out
    simp only [if_true] at this
    rw [← this]
    exact HO.out.mono HB.out
   | false =>
    rw [hb] at HF
    generalize (nmS l key k).1 = o at *
    go_wp2_with (at_builtin; refine wpList_append_row rfl (.tmp 45) (.tmp 47) 24 9 (.string ⟨#[]⟩) 1 16 rfl Tryz.underlying24 infoStr rfl (by omega) w.heap.size _ (stR o) rfl HO.out [.string key] rfl (st_cell key) rfl L2.out (by omega) Z ?_; intro v3 w3 hO3 hb3 hk3 hw3; obtain ⟨A3, n3, c3, rfl⟩ := hO3.shape; refine Shut.out ?_)
    unfold Shut
    have O3 : Hid (Owns w3 w.heap.size 9 1 (.slice A3 n3 c3) (stR (o ++ [key]))) := by rw [stR_append]; exact hO3
    have B3 : Hid (Below w.heap.size w w3) := HBr.out.trans hb3
    clear hO3 hb3 hk3 hw3
    go_wp2_with fail
    go_ret
    refine ⟨⟨_, rfl, ?_⟩, B3.out⟩
    have := HF.out
    rw [if_neg (by simp)] at this
    rw [← this]
    exact O3.out.mono HB.out
end Go.Proofs.YtikknmoeefipmaaGreatDoor
namespace Go.Proofs.YtikknmoeefipmaaGreatDoor
open Go.ChangeShapes Go.WideShapes Go.ChangeAt Go.RowKit Go.PlainAid
set_option linter.unusedVariables false
def kAt (k : Nat) (L : List (Ser × Value)) : Nat → Nat
 | 0 => k
 | j + 1 => kAt k L j + 1 + 2 * (L.getD j default).1.pts.length
def smR (k : Nat) (L : List (Ser × Value)) (j : Nat) : List Value := [.string (mark (kAt k L j)), (L.getD j default).2]
def SMk (w : World) (base k : Nat) (v : Value) (L : List (Ser × Value)) : Prop := Owns w base 98 2 v (newR (smR k L) L.length) ∧ ∀ j, j < L.length → Owns w base 90 2 (L.getD j default).2 (newR (mkPt (kAt k L j + 1)) (L.getD j default).1.pts.length)
theorem SMk.on {w w' : World} {base k : Nat} {v : Value} {L : List (Ser × Value)} (h : SMk w base k v L) (hb : Below w.heap.size w w') : SMk w' base k v L := ⟨h.1.on hb, fun j hj => (h.2 j hj).on hb⟩
end Go.Proofs.YtikknmoeefipmaaGreatDoor
namespace Go.Proofs.YtikknmoeefipmaaGreatDoor
open Go.ChangeShapes Go.WideShapes Go.ChangeAt Go.RowKit Go.PlainAid
set_option linter.unusedVariables false
theorem Strs.heap {w w' : World} {base : Nat} {v : Value} {l : List ByteArray} (h : Strs w base v l) (hh : w'.heap = w.heap) : Strs w' base v l := h.kept fun g _ _ => by rw [hh]
set_option maxHeartbeats 1000000 in
theorem eq_same (a b : Nat) (va vb : Value) (l : List ByteArray) (w : World) (ha : Strs w a va l) (hb : Strs w b vb l) (hl : l.length ≤ 2097152) :
  Calls Tryz.prog 59 #[va, vb] w fun e w' => e = .returned (.bool true) ∧ Like w w' := by
 by_cases h0 : l.length = 0
 ·obtain ⟨A, ca, rfl⟩ : ∃ A ca, va = .slice A 0 ca := by
   rcases ha.form with ⟨rfl, _⟩ | ⟨g, c, rfl, _⟩
   ·exact ⟨_, _, rfl⟩
   ·rw [h0]; exact ⟨_, _, rfl⟩
  obtain ⟨B, cb, rfl⟩ : ∃ B cb, vb = .slice B 0 cb := by
   rcases hb.form with ⟨rfl, _⟩ | ⟨g, c, rfl, _⟩
   ·exact ⟨_, _, rfl⟩
   ·rw [h0]; exact ⟨_, _, rfl⟩
  clear ha hb h0 hl
  go_enter Tryz.func59, Tryz.ntmps59
  go_wp2
  go_loop [5] (fun v5 => v5 = .int .i64 0) (fun _ => 0)
  case atStart => rfl
  case round =>
   subst hrel
   go_wp2
   go_ret
   exact ⟨rfl, Like.refl _⟩
 ·obtain ⟨g, ca, rfl, _, _⟩ : ∃ g cap, va = .slice (some ⟨g, 0, none⟩) l.length cap ∧ a ≤ g ∧ g < w.heap.size := by
   rcases ha.form with ⟨rfl, rfl⟩ | h
   ·exact absurd rfl h0
   ·exact h
  obtain ⟨g', cb, rfl, _, _⟩ : ∃ g cap, vb = .slice (some ⟨g, 0, none⟩) l.length cap ∧ b ≤ g ∧ g < w.heap.size := by
   rcases hb.form with ⟨rfl, rfl⟩ | h
   ·exact absurd rfl h0
   ·exact h
  have HA : Hid (Strs w a (.slice (some ⟨g, 0, none⟩) l.length ca) l) := ha
  have HB : Hid (Strs w b (.slice (some ⟨g', 0, none⟩) l.length cb) l) := hb
  have q1 : (l.length : Int) ≤ 2097152 := by omega
  clear ha hb hl
  generalize hn : l.length = n at *
  have HN : Hid (l.length = n) := hn
  clear hn
  go_enter Tryz.func59, Tryz.ntmps59
  go_wp2
  go_loopw [5] (fun v5 wr => ∃ k : Nat, k ≤ n ∧ v5 = .int .i64 k ∧ Like w wr) (fun i _ => n - (intOf i).toNat)
  case atStart => exact ⟨0, by omega, rfl, Like.refl _⟩
  case round =>
   obtain ⟨k, hk, rfl, hL⟩ := hrel
   by_cases hlt : k < n
   ·have q2 : (k : Int) < (n : Int) := by omega
    have hkl : k < l.length := by rw [HN.out]; exact hlt
    have c1 := HA.out
    have c2 := HB.out
    rw [← HN.out] at c1 c2
    have e1 := c1.cell k hkl
    have e2 := c2.cell k hkl
    rw [← cell?_heap hL.1] at e1 e2
    generalize l[k] = x at *
    clear c1 c2 hkl
    go_wp2
    go_quiet (fail)
    go_wp2
    go_roundw
    case rel => exact ⟨k + 1, by omega, by go_num, hL.drewN _⟩
    case measure => simp [intOf]; omega
   ·have hkk : k = n := by omega
    subst hkk
    go_wp2
    go_ret
    exact ⟨rfl, hL⟩
end Go.Proofs.YtikknmoeefipmaaGreatDoor
namespace Go.Proofs.YtikknmoeefipmaaGreatDoor
open Go.ChangeShapes Go.WideShapes Go.ChangeAt Go.RowKit Go.PlainAid
set_option linter.unusedVariables false
def wtT (l : List ByteArray) : Nat := (l.map fun s => s.size).sum
theorem wtT_snoc (l : List ByteArray) (k : Nat) (h : k < l.length) : wtT (l.take (k + 1)) = wtT (l.take k) + (l.getD k default).size := by
 unfold wtT
 rw [take_getD l k h, List.map_append, List.sum_append]
 simp
theorem wtT_mem (l : List ByteArray) (x : ByteArray) (h : x ∈ l) : x.size ≤ wtT l := by
 induction l with
 | nil => cases h
 | cons y l ih =>
  unfold wtT at ih ⊢
  rw [List.map_cons, List.sum_cons]
  rcases List.mem_cons.1 h with rfl | h
  ·omega
  ·have := ih h
   omega
set_option maxHeartbeats 1000000 in
theorem szStringS (l : List ByteArray) (v : Value) (left : Int) (w : World) (B : Nat) (hv : Lies w B 1 v (stR l)) (hn : l.length ≤ maxLen) (hm : ∀ s ∈ l, s.size ≤ maxLen) (h0 : 0 ≤ left) (h1 : left ≤ 1048576) :
  Calls Tryz.prog 44 #[v, .int .i64 left] w fun e w' => ∃ r : Int, e = .returned (.int .i64 r) ∧ (r = -1 ∨ 0 ≤ r ∧ r + ((l.length + wtT l : Nat) : Int) = left) ∧ w = w' := by
 obtain ⟨A, cap, rfl, hl⟩ := st_look hv
 have HL : Hid (∀ j, j < l.length → ∃ g off, A = some ⟨g, off, none⟩ ∧ g < B ∧ w.cell? ⟨g, off + j, none⟩ = some (.string (l.getD j default))) := hl
 have HS : Hid (∀ k, k < l.length → wtT (l.take (k + 1)) = wtT (l.take k) + (l.getD k default).size) := fun k hk => wtT_snoc l k hk
 have HM : Hid (∀ k, k < l.length → (l.getD k default).size ≤ 9223372036854775807) := fun k hk => by have := hm _ (getD_mem l k hk); unfold maxLen at this; omega
 have HT : Hid (wtT (l.take l.length) = wtT l) := by unfold Hid; rw [List.take_length]
 unfold maxLen at hn
 have q1 : (l.length : Int) ≤ 9223372036854775807 := by omega
 clear hl hv hm
 generalize hN : l.length = n at *
 clear hN
 have w2 : wrap64 (left - (n : Int)) = left - (n : Int) := by unfold wrap64; omega
 by_cases hs : left < (n : Int)
 ·have q2 : left - (n : Int) < 0 := by omega
  go_enter Tryz.func44, Tryz.ntmps44
  go_wp2_with fail
  go_ret
  exact ⟨-1, rfl, .inl rfl, rfl⟩
 ·have q2 : 0 ≤ left - (n : Int) := by omega
  have q3 : decide (left - (n : Int) < 0) = false := decide_eq_false (by omega)
  have HQ : Hid (0 ≤ left - (n : Int)) := q2
  go_enter Tryz.func44, Tryz.ntmps44
  go_wp2_with fail
  clear q2 q3 w2
  go_loop [1, 5] (fun v1 v5 => ∃ (k : Nat) (r : Int), k ≤ n ∧ v5 = .int .i64 (k : Int) ∧ v1 = .int .i64 r ∧ 0 ≤ r ∧ r + ((n + wtT (l.take k) : Nat) : Int) = left) (fun _ i => n - (intOf i).toNat)
  case atStart => exact ⟨0, left - (n : Int), by omega, rfl, rfl, HQ.out, by simp [wtT]⟩
  case round =>
   obtain ⟨k, r, hk, rfl, rfl, hr0, hr⟩ := hrel
   have HR : Hid (r + ((n + wtT (l.take k) : Nat) : Int) = left) := hr
   have q9 : r ≤ 1048576 := by omega
   clear hr
   by_cases hlt : k < n
   ·have q4 : (k : Int) < (n : Int) := by omega
    obtain ⟨g, off, rfl, hg, hc0⟩ := HL.out k hlt
    have HW : Hid (wtT (l.take (k + 1)) = wtT (l.take k) + (l.getD k default).size) := HS.out k hlt
    have hmk := HM.out k hlt
    generalize l.getD k default = x at *
    generalize hz : x.size = t at *
    have q10 : (t : Int) ≤ 9223372036854775807 := by omega
    have w3 : wrap64 (r - (t : Int)) = r - (t : Int) := by unfold wrap64; omega
    by_cases hlow : r < (t : Int)
    ·have q11 : r - (t : Int) < 0 := by omega
     go_wp2_with fail
     go_ret
     exact ⟨-1, rfl, .inl rfl, rfl⟩
    ·have q11 : decide (r - (t : Int) < 0) = false := decide_eq_false (by omega)
     have q12 : 0 ≤ r - (t : Int) := by omega
     have HQ2 : Hid (0 ≤ r - (t : Int)) := q12
     go_wp2_with fail
     go_round
     case rel => exact ⟨k + 1, r - (t : Int), by omega, by go_num, rfl, HQ2.out, by have := HR.out; rw [HW.out]; omega⟩
     case measure => simp [intOf]; omega
   ·obtain rfl : k = n := by omega
    go_wp2_with fail
    go_ret
    exact ⟨r, rfl, .inr ⟨hr0, by have := HR.out; rw [HT.out] at this; exact this⟩, rfl⟩
def EFits (e : Eng) : Prop := SFits e.cache ∧ e.files.length ≤ maxLen ∧ ∀ s ∈ e.files, s.size ≤ maxLen
def wtE (e : Eng) : Nat := e.cache.length + wtS e.cache + (e.files.length + wtT e.files)
theorem EFits.short {e : Eng} {n : Nat} (h : wtE e ≤ n) (hn : n ≤ 1048576) : EShort e := by
 unfold wtE at h
 refine ⟨SShort.of (n := n) (by omega) hn, fun x hx => ?_, by omega, fun s hs => ?_⟩
 ·have := wtS_mem e.cache x hx
  unfold wtS1 at this
  unfold maxLen
  omega
 ·have := wtT_mem e.files s hs
  omega
set_option maxHeartbeats 1000000 in
theorem szEngine (e : Eng) (v : Value) (left : Int) (w : World) (B : Nat) (hv : EngV w B v e) (hf : EFits e) (h0 : 0 ≤ left) (h1 : left ≤ 1048576) (hB : B ≤ w.heap.size) :
  Calls Tryz.prog 11 #[v, .int .i64 left] w fun b w' => ∃ r : Int, b = .returned (.int .i64 r) ∧ Hid (r = -1 ∨ 0 ≤ r ∧ r + (wtE e : Int) = left) ∧ Below w.heap.size w w' := by
 obtain ⟨vc, vf, rfl, hc, hl⟩ := hv
 unfold vE
 obtain ⟨Ac, cc, rfl, _⟩ := hc.look
 obtain ⟨A, cap, rfl, _⟩ := st_look hl
 have HF : Hid (EFits e) := hf
 have HLs : Hid (Lies w B 1 (.slice A e.files.length cap) (stR e.files)) := hl
 have HB : Hid (B ≤ w.heap.size) := hB
 have HW : Hid (wtE e = e.cache.length + wtS e.cache + (e.files.length + wtT e.files)) := rfl
 obtain ⟨X0, hX0⟩ : ∃ X0, X0 = w.alloc (.cells #[.int .i64 e.floor, .slice Ac e.cache.length cc, .slice A e.files.length cap] 26) := ⟨_, rfl⟩
 have BX : Hid (Below w.heap.size w X0) := by unfold Hid; rw [hX0]; exact (Below.refl _ w).alloc (Nat.le_refl _) _
 have KX : Hid (Blk X0 w.heap.size #[.int .i64 e.floor, .slice Ac e.cache.length cc, .slice A e.files.length cap] 26) := by unfold Hid; rw [hX0]; exact Blk.new w _ _
 have c1 := szSeriesS e.cache _ left X0 B (hc.on (BX.out.mono hB)) hf.1 h0 h1 (Nat.le_trans hB BX.out.size)
 have k1 := KX.out.cell 1 _ rfl
 clear hc hl hf hB
 generalize e.floor = f at *
 generalize hcl : e.cache.length = cl at *
 have q1 : left ≤ 1048576 := h1
 go_enter Tryz.func11, Tryz.ntmps11
 go_wp2_with fail
 rw [← hX0]
 clear hX0
 refine c1.mono ?_
 rintro b X1 ⟨r, rfl, hr, hb1⟩
 have B1 : Hid (Below w.heap.size w X1) := BX.out.trans (hb1.mono BX.out.size)
 have K1 := KX.out.on hb1 KX.out.lt
 have m2 := K1.cell 2 _ rfl
 clear hb1 c1 k1 K1
 rcases hr with rfl | ⟨hr0, hr1⟩
 ·go_wp2_with fail
  go_ret
  exact ⟨-1, rfl, .inl rfl, B1.out⟩
 ·have q2 : decide (r < 0) = false := decide_eq_false (by omega)
  have HR1 : Hid (r + ((cl + wtS e.cache : Nat) : Int) = left) := hr1
  have q3 : r ≤ 1048576 := by omega
  have c2 := szStringS e.files _ r X1 B (HLs.out.on (B1.out.mono HB.out)) HF.out.2.1 HF.out.2.2 hr0 q3
  clear hr1
  generalize hfl : e.files.length = fl at *
  go_wp2_with fail
  refine c2.mono ?_
  rintro b X2 ⟨r2, rfl, hr2, rfl⟩
  rcases hr2 with rfl | ⟨hr20, hr21⟩
  ·go_wp2_with fail
   go_ret
   exact ⟨-1, rfl, .inl rfl, B1.out⟩
  ·have q4 : decide (r2 < 0) = false := decide_eq_false (by omega)
   have HR2 : Hid (r2 + ((fl + wtT e.files : Nat) : Int) = r) := hr21
   clear hr21 c2
   go_wp2_with fail
   go_ret
   exact ⟨r2, rfl, .inr ⟨hr20, by have := HR1.out; have := HR2.out; rw [HW.out]; omega⟩, B1.out⟩
def stZ : List Value := [.string ⟨#[]⟩]
theorem st_made (n : Nat) : madeCells #[.string ⟨#[]⟩] (n * 1) = (List.replicate n stZ).flatten.toArray := by
 apply Array.ext'
 rw [List.toList_toArray]
 apply List.ext_getElem?
 intro k
 have hz : ∀ r ∈ List.replicate n stZ, r.length = 1 := fun r hr => by rw [List.eq_of_mem_replicate hr]; rfl
 by_cases hk : k < n * 1
 ·have hj : k < n := by omega
  have := flat_at 1 (List.replicate n stZ) hz k 0 (by simpa using hj) (by omega)
  rw [Nat.mul_one, Nat.add_zero] at this
  have hr : (List.replicate n stZ)[k]'(by simpa using hj) = stZ := by simp
  rw [this, hr]
  have hs : (madeCells #[.string ⟨#[]⟩] (n * 1)).toList[k]? = some (#[Value.string ⟨#[]⟩].getD (k % 1) default) := by simp [madeCells, hj]
  rw [hs, Nat.mod_one]
  rfl
 ·have hl : (List.replicate n stZ).flatten.length = n * 1 := by rw [flat_length 1 _ hz]; simp
  have hr : (List.replicate n stZ).flatten[k]? = none := List.getElem?_eq_none (by omega)
  rw [hr]
  apply List.getElem?_eq_none
  rw [Array.length_toList, size_madeCells]
  omega
def laidT (l : List ByteArray) (k : Nat) : List ByteArray := l.take k ++ List.replicate (l.length - k) ⟨#[]⟩
theorem laidT_length (l : List ByteArray) (k : Nat) (h : k ≤ l.length) : (laidT l k).length = l.length := by unfold laidT; rw [List.length_append, List.length_take, List.length_replicate]; omega
theorem laidT_set (l : List ByteArray) (k : Nat) (h : k < l.length) : (laidT l k).set k (l.getD k default) = laidT l (k + 1) := by
 unfold laidT
 rw [List.set_append_right _ _ (by rw [List.length_take]; omega), List.length_take, Nat.min_eq_left (by omega), Nat.sub_self, take_getD l k h]
 obtain ⟨m, hm⟩ : ∃ m, l.length - k = m + 1 := ⟨l.length - k - 1, by omega⟩
 rw [hm, show l.length - (k + 1) = m by omega, List.replicate_succ, List.set_cons_zero, List.append_assoc]
 rfl
theorem laidT_all (l : List ByteArray) : laidT l l.length = l := by unfold laidT; rw [List.take_length, Nat.sub_self]; simp
set_option maxHeartbeats 2000000 in
theorem toStringS (l : List ByteArray) (v : Value) (w : World) (B : Nat) (hv : Lies w B 1 v (stR l)) (hn : l.length ≤ 1048576) (hB : B ≤ w.heap.size) :
  Calls Tryz.prog 48 #[v] w fun e w' => (∃ u, e = .returned u ∧ Strs w' w.heap.size u l) ∧ Below w.heap.size w w' := by
 obtain ⟨A, cap, rfl, hl⟩ := st_look hv
 have HL : Hid (∀ wx, Below w.heap.size w wx → ∀ j, j < l.length → ∃ g off, A = some ⟨g, off, none⟩ ∧ g < B ∧ wx.cell? ⟨g, off + j, none⟩ = some (.string (l.getD j default))) := fun wx hx => st_cells (hv.on (hx.mono hB))
 have HSt : Hid (∀ k, k < l.length → (laidT l k).set k (l.getD k default) = laidT l (k + 1)) := laidT_set l
 have HLe : Hid (∀ k, k ≤ l.length → (laidT l k).length = l.length) := laidT_length l
 have HA : Hid (laidT l l.length = l) := laidT_all l
 have q1 : (l.length : Int) ≤ 1048576 := by omega
 clear hl hv hB
 obtain ⟨i0, hi, hz0, hz1, hz2⟩ := info_parts infoStr
 have hmk : ∀ wx : World, (Instr.makeSlice 24 (.int .i64 (l.length : Int)) (.int .i64 (l.length : Int))).run Tryz.prog wx = .ok (.slice (some ⟨wx.heap.size, 0, none⟩) l.length l.length) (wx.alloc (.cells (List.replicate l.length stZ).flatten.toArray 9)) := fun wx => by
  have h := run_make (P := Tryz.prog) wx 24 9 i0 _ Tryz.underlying24 hi hz0 .i64 .i64 (l.length : Int) (l.length : Int) (by omega) (by omega) (by rw [hz2]; omega) (by omega)
  rw [hz1] at h
  have e : (Value.string ⟨#[]⟩).cells = #[.string ⟨#[]⟩] := rfl
  rw [e, Int.toNat_natCast, st_made] at h
  exact h
 clear hi hz0 hz1 hz2
 have OM : Hid (Strs (w.alloc (.cells (List.replicate l.length stZ).flatten.toArray 9)) w.heap.size (.slice (some ⟨w.heap.size, 0, none⟩) l.length l.length) (laidT l 0)) := by
  have e : laidT l 0 = List.replicate l.length ⟨#[]⟩ := by unfold laidT; simp
  have e2 : strCells (List.replicate l.length ⟨#[]⟩) = (List.replicate l.length stZ).flatten := by
   rw [← stR_flat]
   unfold stR stC stZ
   rw [List.map_replicate]
  unfold Hid Strs
  rw [e, e2, List.length_replicate]
  have hfl : (List.replicate l.length stZ).flatten.length = l.length := by
   rw [flat_length 1 _ (fun r hr => by rw [List.eq_of_mem_replicate hr]; rfl)]; simp
  exact World.ownsRow_lit w _ l.length (Nat.le_refl _) (by unfold maxLen; omega) (by rw [List.size_toArray, hfl]; omega)
 have BM : Hid (Below w.heap.size w (w.alloc (.cells (List.replicate l.length stZ).flatten.toArray 9))) := (Below.refl _ w).alloc (Nat.le_refl _) _
 generalize hN : l.length = n at *
 clear hN
 go_enter Tryz.func48, Tryz.ntmps48
 go_wp2_with fail
 go_loopw [4] (fun v4 wr => ∃ k : Nat, k ≤ n ∧ v4 = .int .i64 (k : Int) ∧ Strs wr w.heap.size (.slice (some ⟨w.heap.size, 0, none⟩) n n) (laidT l k) ∧ Below w.heap.size w wr) (fun i _ => n - (intOf i).toNat)
 case atStart => exact ⟨0, by omega, rfl, OM.out, BM.out⟩
 case round =>
  obtain ⟨k, hk, rfl, hS, hb⟩ := hrel
  have HS : Hid (Strs wr w.heap.size (.slice (some ⟨w.heap.size, 0, none⟩) n n) (laidT l k)) := hS
  have HBr : Hid (Below w.heap.size w wr) := hb
  clear hS hb
  by_cases hlt : k < n
  ·have q4 : (k : Int) < (n : Int) := by omega
   obtain ⟨g, off, rfl, hg, e1⟩ := HL.out wr HBr.out k hlt
   have hll := HLe.out k hk
   have hS : Strs wr w.heap.size (.slice (some ⟨w.heap.size, 0, none⟩) (laidT l k).length n) (laidT l k) := by rw [hll]; exact HS.out
   have s0 := hS.cell k (by omega)
   have f0 := hS.frozen k
   have hS2 := hS.stored k (l.getD k default)
   rw [hll, HSt.out k hlt] at hS2
   generalize hx : l.getD k default = x at *
   have HS2 : Hid (Strs (wr.setCell ⟨w.heap.size, k, none⟩ (.string x)) w.heap.size (.slice (some ⟨w.heap.size, 0, none⟩) n n) (laidT l (k + 1))) := hS2
   have HB2 : Hid (Below w.heap.size w (wr.setCell ⟨w.heap.size, k, none⟩ (.string x))) := HBr.out.setCell (Nat.le_refl _) _
   generalize (laidT l k)[k] = y at *
   clear hS hS2 hll hx
   go_wp2_with fail
   go_roundw
   case rel => exact ⟨k + 1, by omega, by go_num, HS2.out, HB2.out⟩
   case measure => simp [intOf]; omega
  ·obtain rfl : k = n := by omega
   go_wp2_with fail
   go_ret
   exact ⟨⟨_, rfl, by have := HS.out; rw [HA.out] at this; exact this⟩, HBr.out⟩
end Go.Proofs.YtikknmoeefipmaaGreatDoor
namespace Go.Proofs.YtikknmoeefipmaaGreatDoor
open Go.ChangeShapes Go.WideShapes Go.ChangeAt Go.RowKit Go.PlainAid
set_option linter.unusedVariables false
set_option maxHeartbeats 4000000 in
theorem toEngine (e : Eng) (v : Value) (w : World) (B : Nat) (hv : EngV w B v e) (hs : EShort e) (hB : B ≤ w.heap.size) :
  Calls Tryz.prog 14 #[v] w fun b w' => (∃ u, b = .returned u ∧ EngO w' w.heap.size u e) ∧ Below w.heap.size w w' := by
 obtain ⟨vc, vf, rfl, hc, hl⟩ := hv
 unfold vE
 obtain ⟨Ac, cc, rfl, _⟩ := hc.look
 obtain ⟨A, cap, rfl, _⟩ := st_look hl
 have HLs : Hid (Lies w B 1 (.slice A e.files.length cap) (stR e.files)) := hl
 have HC : Hid (SerV w B (.slice Ac e.cache.length cc) e.cache) := hc
 have HB : Hid (B ≤ w.heap.size) := hB
 have HS : Hid (EShort e) := hs
 have HFl : Hid (e.floor = e.floor) := rfl
 clear hc hl hB hs
 generalize hcl : e.cache.length = cl at *
 clear hcl
 generalize hfl : e.files.length = fl at *
 clear hfl
 generalize hf : e.floor = f at *
 have HF : Hid (e.floor = f) := hf
 clear hf HFl
 obtain ⟨X1, hX1⟩ : ∃ X1, X1 = w.alloc (.cells #[.int .i64 f, .slice Ac cl cc, .slice A fl cap] 26) := ⟨_, rfl⟩
 obtain ⟨X2, hX2⟩ : ∃ X2, X2 = X1.alloc (.cells #[.int .i64 0, .slice none 0 0, .slice none 0 0] 35) := ⟨_, rfl⟩
 obtain ⟨X3, hX3⟩ : ∃ X3, X3 = X2.alloc (.cells #[.int .i64 f, .slice none 0 0, .slice none 0 0] 35) := ⟨_, rfl⟩
 have z1 : X1.heap.size = w.heap.size + 1 := by rw [hX1, World.size_alloc]
 have z2 : X2.heap.size = w.heap.size + 1 + 1 := by rw [hX2, World.size_alloc, z1]
 have z3 : X3.heap.size = w.heap.size + 1 + 1 + 1 := by rw [hX3, World.size_alloc, z2]
 have BX : Hid (Below w.heap.size w X3) := by
  unfold Hid
  rw [hX3, hX2, hX1]
  exact below_alloc3 _ _ _ _
 have KA : Hid (Blk X3 w.heap.size #[.int .i64 f, .slice Ac cl cc, .slice A fl cap] 26) := by
  unfold Hid
  rw [hX3, hX2, hX1]
  exact ((Blk.new w _ _).alloc _).alloc _
 have KR : Hid (Blk X3 (w.heap.size + 1) #[.int .i64 0, .slice none 0 0, .slice none 0 0] 35) := by
  unfold Hid
  rw [hX3, hX2, ← z1]
  exact (Blk.new X1 _ _).alloc _
 have KO : Hid (Blk X3 (w.heap.size + 1 + 1) #[.int .i64 f, .slice none 0 0, .slice none 0 0] 35) := by
  unfold Hid
  rw [hX3, ← z2]
  exact Blk.new X2 _ _
 have c1 := toSeriesS e.cache _ X3 B (HC.out.on (BX.out.mono HB.out)) HS.out.1 (Nat.le_trans HB.out BX.out.size)
 have ka := KA.out.cell 1 _ rfl
 go_enter Tryz.func14, Tryz.ntmps14
 go_wp2_with fail
 rw [← hX1, ← hX2, ← hX3]
 clear hX1 hX2 hX3 z1 z2
 refine c1.mono ?_
 rintro b X4 ⟨u4, L, rfl, hL, hS4, hb4⟩
 have HL : Hid (L.map Prod.fst = e.cache) := hL
 have S4 : Hid (SerO X4 X3.heap.size u4 L) := hS4
 have B4 : Hid (Below w.heap.size w X4) := BX.out.trans (hb4.mono BX.out.size)
 have KA4 : Hid (Blk X4 w.heap.size #[.int .i64 f, .slice Ac cl cc, .slice A fl cap] 26) := KA.out.on hb4 KA.out.lt
 have KR4 : Hid (Blk X4 (w.heap.size + 1) #[.int .i64 0, .slice none 0 0, .slice none 0 0] 35) := KR.out.on hb4 KR.out.lt
 have KO4 : Hid (Blk X4 (w.heap.size + 1 + 1) #[.int .i64 f, .slice none 0 0, .slice none 0 0] 35) := KO.out.on hb4 KO.out.lt
 obtain ⟨A4, n4, c4, rfl⟩ := hS4.1.shape
 have HZ : Hid (X3.heap.size = w.heap.size + 1 + 1 + 1) := z3
 clear hL hS4 hb4 c1 ka KA KR KO z3
 generalize hG : w.heap.size + 1 + 1 = G at *
 generalize hR : w.heap.size + 1 = R at *
 have HG : Hid (R + 1 = G ∧ w.heap.size + 1 = R) := ⟨hG, hR⟩
 clear hG hR
 obtain ⟨X5, hX5⟩ : ∃ X5, X5 = X4.setCell ⟨G, 1, none⟩ (.slice A4 n4 c4) := ⟨_, rfl⟩
 have m1 : _ = some (Value.slice none 0 0) := KO4.out.cell 1 _ rfl
 have f1 := KO4.out.free 1
 have KO5 : Hid (Blk X5 G #[.int .i64 f, .slice A4 n4 c4, .slice none 0 0] 35) := by unfold Hid; rw [hX5]; exact KO4.out.set 1 _
 have KR5 : Hid (Blk X5 R #[.int .i64 0, .slice none 0 0, .slice none 0 0] 35) := by unfold Hid; rw [hX5]; exact KR4.out.other (by have := HG.out; omega) 1 _
 have KA5 : Hid (Blk X5 w.heap.size #[.int .i64 f, .slice Ac cl cc, .slice A fl cap] 26) := by unfold Hid; rw [hX5]; exact KA4.out.other (by have := HG.out; omega) 1 _
 have S5 : Hid (SerO X5 X3.heap.size (.slice A4 n4 c4) L) := by unfold Hid; rw [hX5]; exact S4.out.others ((KeptBut.refl G X4).set 1 _) (by have := HG.out; have := HZ.out; omega)
 have B5 : Hid (Below w.heap.size w X5) := by unfold Hid; rw [hX5]; exact B4.out.setCell (show w.heap.size ≤ G by have := HG.out; omega) _
 have k2 := KA5.out.cell 2 _ rfl
 have c2 := toStringS e.files _ X5 B (HLs.out.on (B5.out.mono HB.out)) HS.out.2.2.1 (Nat.le_trans HB.out B5.out.size)
 rw [hX5] at k2
 clear KO4 KR4 KA4 S4 B4
 go_wp2_with fail
 rw [← hX5]
 clear hX5 m1 f1 k2
 refine c2.mono ?_
 rintro b X6 ⟨⟨u6, rfl, hS6⟩, hb6⟩
 obtain ⟨A6, n6, c6, rfl⟩ := (strs_owns hS6).shape
 have T6 : Hid (Strs X6 X5.heap.size (.slice A6 n6 c6) e.files) := hS6
 have S6 : Hid (SerO X6 X3.heap.size (.slice A4 n4 c4) L) := S5.out.on hb6
 have B6 : Hid (Below w.heap.size w X6) := B5.out.trans (hb6.mono B5.out.size)
 have KO6 := KO5.out.on hb6 KO5.out.lt
 have KR6 := KR5.out.on hb6 KR5.out.lt
 have HGz : Hid (G < X5.heap.size ∧ R < X5.heap.size) := ⟨KO5.out.lt, KR5.out.lt⟩
 clear hS6 hb6 c2 KO5 KR5 KA5 S5 B5
 have m2 : _ = some (Value.slice none 0 0) := KO6.cell 2 _ rfl
 have f2 := KO6.free 2
 have KO7 := KO6.set 2 (.slice A6 n6 c6)
 have o0 : _ = some (Value.int .i64 f) := KO7.cell 0 _ rfl
 have o1 : _ = some (Value.slice A4 n4 c4) := KO7.cell 1 _ rfl
 have o2 : _ = some (Value.slice A6 n6 c6) := KO7.cell 2 _ rfl
 have KR7 := KR6.other (show R ≠ G by have := HG.out; omega) 2 (.slice A6 n6 c6)
 have r0 : _ = some (Value.int .i64 0) := KR7.cell 0 _ rfl
 have g0 := KR7.free 0
 have KR8 := KR7.set 0 (.int .i64 f)
 have r1 : _ = some (Value.slice none 0 0) := KR8.cell 1 _ rfl
 have g1 := KR8.free 1
 have KR9 := KR8.set 1 (.slice A4 n4 c4)
 have r2 : _ = some (Value.slice none 0 0) := KR9.cell 2 _ rfl
 have g2 := KR9.free 2
 have KRx := KR9.set 2 (.slice A6 n6 c6)
 have e0 : _ = some (Value.int .i64 f) := KRx.cell 0 _ rfl
 have e1 : _ = some (Value.slice A4 n4 c4) := KRx.cell 1 _ rfl
 have e2 : _ = some (Value.slice A6 n6 c6) := KRx.cell 2 _ rfl
 have kG : KeptBut G X6 (X6.setCell ⟨G, 2, none⟩ (.slice A6 n6 c6)) := (KeptBut.refl G X6).set 2 _
 have kR : KeptBut R (X6.setCell ⟨G, 2, none⟩ (.slice A6 n6 c6)) ((((X6.setCell ⟨G, 2, none⟩ (.slice A6 n6 c6)).setCell ⟨R, 0, none⟩ (.int .i64 f)).setCell ⟨R, 1, none⟩ (.slice A4 n4 c4)).setCell ⟨R, 2, none⟩ (.slice A6 n6 c6)) := (((KeptBut.refl R _).set 0 _).set 1 _).set 2 _
 have SF : Hid (EngO ((((X6.setCell ⟨G, 2, none⟩ (.slice A6 n6 c6)).setCell ⟨R, 0, none⟩ (.int .i64 f)).setCell ⟨R, 1, none⟩ (.slice A4 n4 c4)).setCell ⟨R, 2, none⟩ (.slice A6 n6 c6)) w.heap.size (.agg #[.int .i64 f, .slice A4 n4 c4, .slice A6 n6 c6]) e) := by
  refine ⟨_, _, L, by rw [HF.out]; rfl, HL.out, ((S6.out.others kG (by have := HG.out; have := HZ.out; omega)).others kR (by have := HG.out; have := HZ.out; omega)).mono (by have := HG.out; have := HZ.out; omega), ?_⟩
  have h1 := kG.owns (strs_owns T6.out) ((strs_owns T6.out).below HGz.out.1)
  have h2 := kR.owns h1 (h1.below HGz.out.2)
  exact owns_strs (h2.mono (by have := HGz.out; have := HG.out; omega))
 have BF : Hid (Below w.heap.size w ((((X6.setCell ⟨G, 2, none⟩ (.slice A6 n6 c6)).setCell ⟨R, 0, none⟩ (.int .i64 f)).setCell ⟨R, 1, none⟩ (.slice A4 n4 c4)).setCell ⟨R, 2, none⟩ (.slice A6 n6 c6))) := (((B6.out.setCell (show w.heap.size ≤ G by have := HG.out; omega) _).setCell (show w.heap.size ≤ R by have := HG.out; omega) _).setCell (show w.heap.size ≤ R by have := HG.out; omega) _).setCell (show w.heap.size ≤ R by have := HG.out; omega) _
 clear KO6 KR6 KO7 KR7 KR8 KR9 KRx kG kR
 go_wp2_with fail
 exact bodyPost_ret (v := .agg #[.int .i64 f, .slice A4 n4 c4, .slice A6 n6 c6]) (by simp [results, go_sem, e0, e1, e2]) rfl ⟨⟨_, rfl, SF.out⟩, BF.out⟩
set_option maxHeartbeats 2000000 in
theorem eqEngine (e : Eng) (va vb : Value) (b1 b2 : Nat) (w : World) (ha : EngO w b1 va e) (hb : EngO w b2 vb e) (hs : EShort e) :
  Calls Tryz.prog 17 #[va, vb] w fun b w' => b = .returned (.bool true) ∧ Below w.heap.size w w' := by
 obtain ⟨vc, vf, L, rfl, hL, hS, hT⟩ := ha
 obtain ⟨vc', vf', L', rfl, hL', hS', hT'⟩ := hb
 unfold vE
 have S1 : Hid (SerV w w.heap.size vc e.cache) := by unfold Hid; rw [← hL]; exact hS.view
 have S2 : Hid (SerV w w.heap.size vc' e.cache) := by unfold Hid; rw [← hL']; exact hS'.view
 have T1 : Hid (Strs w b1 vf e.files) := hT
 have T2 : Hid (Strs w b2 vf' e.files) := hT'
 have HSh : Hid (EShort e) := hs
 obtain ⟨A1, n1, c1, rfl⟩ := hS.1.shape
 obtain ⟨A2, n2, c2, rfl⟩ := hS'.1.shape
 obtain ⟨A3, n3, c3, rfl⟩ := (strs_owns hT).shape
 obtain ⟨A4, n4, c4, rfl⟩ := (strs_owns hT').shape
 clear hL hL' hS hS' hT hT' hs
 generalize e.floor = f at *
 obtain ⟨X0, hX0⟩ : ∃ X0, X0 = (w.alloc (.cells #[.int .i64 f, .slice A1 n1 c1, .slice A3 n3 c3] 35)).alloc (.cells #[.int .i64 f, .slice A2 n2 c2, .slice A4 n4 c4] 35) := ⟨_, rfl⟩
 have BX : Hid (Below w.heap.size w X0) := by unfold Hid; rw [hX0]; exact below_alloc2 _ _ _
 have K1 : Hid (Blk X0 w.heap.size #[.int .i64 f, .slice A1 n1 c1, .slice A3 n3 c3] 35) := by unfold Hid; rw [hX0]; exact (Blk.new w _ _).alloc _
 have K2 : Hid (Blk X0 (w.heap.size + 1) #[.int .i64 f, .slice A2 n2 c2, .slice A4 n4 c4] 35) := by
  unfold Hid
  rw [hX0]
  have := Blk.new (w.alloc (.cells #[.int .i64 f, .slice A1 n1 c1, .slice A3 n3 c3] 35)) #[.int .i64 f, .slice A2 n2 c2, .slice A4 n4 c4] 35
  rw [World.size_alloc] at this
  exact this
 have cS := eqSeriesS e.cache (.slice A1 n1 c1) (.slice A2 n2 c2) X0 w.heap.size (S1.out.on BX.out) (S2.out.on BX.out) HSh.out.1 BX.out.size
 have a0 := K1.out.cell 0 _ rfl
 have a1 := K1.out.cell 1 _ rfl
 have d0 := K2.out.cell 0 _ rfl
 have d1 := K2.out.cell 1 _ rfl
 go_enter Tryz.func17, Tryz.ntmps17
 go_wp2_with fail
 rw [← hX0]
 clear hX0
 refine cS.mono ?_
 rintro b X1 ⟨rfl, hb1⟩
 have B1 : Hid (Below w.heap.size w X1) := BX.out.trans (hb1.mono BX.out.size)
 have K3 := K1.out.on hb1 K1.out.lt
 have K4 := K2.out.on hb1 K2.out.lt
 have a2 := K3.cell 2 _ rfl
 have d2 := K4.cell 2 _ rfl
 have cT := eq_same b1 b2 (.slice A3 n3 c3) (.slice A4 n4 c4) e.files X1 (T1.out.on B1.out) (T2.out.on B1.out) (by have := HSh.out.2.2.1; omega)
 clear hb1 cS a0 a1 d0 d1 K3 K4
 go_wp2_with fail
 refine cT.mono ?_
 rintro b X2 ⟨rfl, hlk⟩
 have B2 : Hid (Below w.heap.size w X2) := B1.out.trans (hlk.below.mono B1.out.size)
 clear hlk cT a2 d2
 go_wp2_with fail
 go_ret
 exact ⟨rfl, B2.out⟩
def EMk (w : World) (base k : Nat) (v : Value) (L : List (Ser × Value)) (n : Nat) : Prop := ∃ f vc vf, v = vE f vc vf ∧ SMk w base k vc L ∧ Strs w base vf (marks (kAt k L L.length) n)
theorem EMk.on {w w' : World} {base k : Nat} {v : Value} {L : List (Ser × Value)} {n : Nat} (h : EMk w base k v L n) (hb : Below w.heap.size w w') : EMk w' base k v L n := by
 obtain ⟨f, vc, vf, h1, h2, h3⟩ := h
 exact ⟨f, vc, vf, h1, h2.on hb, h3.on hb⟩
section
variable {H : Type} {enc : TypeId × Value → H} {w : World} {base : Nat} {spare : Nat → Bool} {held : Bool}
theorem cStr9 : Tryz.prog.cellsOf 9 = 1 := by kernel_rfl
theorem open_text (n : Nat) (cs : List Value) (y : DataW H × List MemPlace) (h : DataW.trod enc Tryz.prog w base spare held n 9 cs = some y) : ∃ s : ByteArray, cs = stC s ∧ s.size ≤ maxLen := by
 obtain ⟨s0, e0, _, hs⟩ := DataW.trod_string Tryz.underlying9 h
 exact ⟨s0, e0, hs⟩
end
end Go.Proofs.YtikknmoeefipmaaGreatDoor
