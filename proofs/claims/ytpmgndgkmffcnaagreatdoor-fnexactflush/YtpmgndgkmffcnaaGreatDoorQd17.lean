/- EgS1 EgS2 -/
import Derived.Test.YtpmgndgkmffcnaaGreatDoorQd16
import Derived.WalkKit
import Derived.ProofKit
import Derived.OpenShut
import Derived.Below
import Derived.WalkSmall
import Derived.BigQuiet
import Derived.Deep.QuietTactic
import Derived.Deep.RegionWith
import Derived.Handy
namespace Go.Proofs.YtpmgndgkmffcnaaGreatDoor
open Go.ChangeShapes Go.WideShapes Go.ChangeAt Go.RowKit Go.PlainAid
set_option linter.unusedVariables false
def AtR (l : List Ser) (k : ByteArray) (r : Int) : Prop := (r = -1 ∧ ∀ x ∈ l, x.key ≠ k) ∨ ∃ j : Nat, r = (j : Int) ∧ j < l.length ∧ (l.getD j default).key = k ∧ ∀ i, i < j → (l.getD i default).key ≠ k
theorem ptsAt_at {k : ByteArray} : ∀ {l : List Ser} {j : Nat}, j < l.length → (l.getD j default).key = k → (∀ i, i < j → (l.getD i default).key ≠ k) → ptsAt l k = (l.getD j default).pts
 | x :: l, 0, _, h, _ => by
  have hx : x.key = k := h
  rw [ptsAt, if_pos hx]
  rfl
 | x :: l, j + 1, hj, h, hi => by
  have hx : x.key ≠ k := hi 0 (by omega)
  rw [ptsAt, if_neg hx]
  exact ptsAt_at (l := l) (by simpa using hj) h fun i h' => hi (i + 1) (by omega)
set_option maxHeartbeats 1000000 in
theorem specAt (l : List Ser) (key : ByteArray) (v : Value) (w : World) (B : Nat) (hv : SerV w B v l) (hn : l.length ≤ 1048576) :
  Calls Tryz.prog 74 #[v, .string key] w fun e w' => (∃ r : Int, e = .returned (.int .i64 r) ∧ Hid (AtR l key r)) ∧ w = w' := by
 obtain ⟨A, cap, rfl, hl⟩ := hv.look
 have HL : Hid (∀ j, j < l.length → ∃ g off u, A = some ⟨g, off, none⟩ ∧ g < B ∧ w.cell? ⟨g, off + j * 2, none⟩ = some (.string (l.getD j default).key) ∧ w.cell? ⟨g, off + j * 2 + 1, none⟩ = some u ∧ Lies w B 2 u (ptR (l.getD j default).pts)) := hl
 have q1 : (l.length : Int) ≤ 1048576 := by omega
 clear hl hv hn
 generalize hN : l.length = n at *
 have HN : Hid (l.length = n) := hN
 clear hN
 go_enter Tryz.func74, Tryz.ntmps74
 go_wp2_with fail
 go_loop [5] (fun v5 => ∃ k : Nat, k ≤ n ∧ v5 = .int .i64 (k : Int) ∧ Hid (∀ i, i < k → (l.getD i default).key ≠ key)) (fun i => n - (intOf i).toNat)
 case atStart => exact ⟨0, by omega, rfl, fun i hi => by omega⟩
 case round =>
  obtain ⟨k, hk, rfl, HJ⟩ := hrel
  by_cases hlt : k < n
  ·have q4 : (k : Int) < (n : Int) := by omega
   obtain ⟨g, off, u, rfl, hg, e1, e2, _⟩ := HL.out k hlt
   by_cases hkey : (l.getD k default).key = key
   ·have HF : Hid (AtR l key (k : Int)) := .inr ⟨k, rfl, by rw [HN.out]; exact hlt, hkey, HJ.out⟩
    rw [hkey] at e1
    clear hkey
    go_wp2_with fail
    go_ret
    exact ⟨⟨_, rfl, HF⟩, rfl⟩
   ·have HK : Hid ((l.getD k default).key ≠ key) := hkey
    have hne := bytes_ne hkey
    clear hkey
    generalize (l.getD k default).key = xk at e1 hne
    go_wp2_with fail
    go_round
    case rel =>
     refine ⟨k + 1, by omega, by go_num, fun i hi => ?_⟩
     by_cases e : i = k
     ·rw [e]; exact HK.out
     ·exact HJ.out i (by omega)
    case measure => simp [intOf]; omega
  ·obtain rfl : k = n := by omega
   have HF : Hid (AtR l key (-1)) := .inl ⟨rfl, fun x hx => by
    obtain ⟨j, hj, rfl⟩ := List.getElem_of_mem hx
    rw [getD_at l j hj]
    exact HJ.out j (by rw [← HN.out]; exact hj)⟩
   go_wp2_with fail
   go_ret
   exact ⟨⟨_, rfl, HF⟩, rfl⟩
theorem cntS_le (l : List Ser) (h : ∀ x ∈ l, x.pts.length ≤ 1000) : ∀ k, k ≤ l.length → cntS (l.take k) ≤ 1000 * k
 | 0, _ => by simp [cntS]
 | k + 1, hk => by
  have ih := cntS_le l h k (by omega)
  have := h _ (getD_mem l k (by omega))
  rw [cntS_snoc l k (by omega)]
  omega
set_option maxHeartbeats 1000000 in
theorem specCount (l : List Ser) (v : Value) (w : World) (B : Nat) (hv : SerV w B v l) (hn : l.length ≤ 1000) (hs : ∀ x ∈ l, x.pts.length ≤ 1000) :
  Calls Tryz.prog 38 #[v] w fun e w' => e = .returned (.int .i64 (cntS l : Int)) ∧ w = w' := by
 obtain ⟨A, cap, rfl, hl⟩ := hv.look
 have HL : Hid (∀ j, j < l.length → ∃ g off u, A = some ⟨g, off, none⟩ ∧ g < B ∧ w.cell? ⟨g, off + j * 2, none⟩ = some (.string (l.getD j default).key) ∧ w.cell? ⟨g, off + j * 2 + 1, none⟩ = some u ∧ Lies w B 2 u (ptR (l.getD j default).pts)) := hl
 have HC : Hid (∀ k, k ≤ l.length → cntS (l.take k) ≤ 1000 * k) := cntS_le l hs
 have HS : Hid (∀ k, k < l.length → cntS (l.take (k + 1)) = cntS (l.take k) + (l.getD k default).pts.length) := fun k hk => cntS_snoc l k hk
 have HT : Hid (∀ k, k = l.length → cntS (l.take k) = cntS l) := fun k hk => by rw [hk, List.take_length]
 have HM : Hid (∀ k, k < l.length → (l.getD k default).pts.length ≤ 1000) := fun k hk => hs _ (getD_mem l k hk)
 have H0 : Hid (cntS (l.take 0) = 0) := by simp [Hid, cntS]
 have q1 : (l.length : Int) ≤ 1000 := by omega
 clear hl hv hs
 generalize hN : l.length = n at *
 clear hN
 go_enter Tryz.func38, Tryz.ntmps38
 go_wp2_with fail
 go_loop [3, 4] (fun v3 v4 => ∃ k : Nat, k ≤ n ∧ v4 = .int .i64 (k : Int) ∧ v3 = .int .i64 (cntS (l.take k) : Int)) (fun _ i => n - (intOf i).toNat)
 case atStart => exact ⟨0, by omega, rfl, by rw [H0.out]; rfl⟩
 case round =>
  obtain ⟨k, hk, rfl, rfl⟩ := hrel
  by_cases hlt : k < n
  ·have q4 : (k : Int) < (n : Int) := by omega
   obtain ⟨g, off, u, rfl, hg, e1, e2, hu⟩ := HL.out k hlt
   obtain ⟨A', c', rfl, _⟩ := pt_look hu
   have h1 := HC.out k hk
   have h2 := HM.out k hlt
   have h3 := HS.out k hlt
   have HE : Hid (cntS (l.take (k + 1)) = cntS (l.take k) + (l.getD k default).pts.length) := h3
   clear hu h3
   generalize cntS (l.take k) = c at *
   generalize (l.getD k default).pts.length = p at *
   have q5 : (c : Int) ≤ 1000000 := by omega
   have q6 : (p : Int) ≤ 1000 := by omega
   have w2 : wrap64 ((c : Int) + (p : Int)) = (c : Int) + (p : Int) := by unfold wrap64; omega
   go_wp2_with fail
   go_round
   case rel => exact ⟨k + 1, by omega, by go_num, by rw [HE.out]; go_num⟩
   case measure => simp [intOf]; omega
  ·obtain rfl : k = n := by omega
   have HE := HT.out k rfl
   go_wp2_with fail
   go_ret
   exact ⟨rfl, rfl⟩
end Go.Proofs.YtpmgndgkmffcnaaGreatDoor
namespace Go.Proofs.YtpmgndgkmffcnaaGreatDoor
open Go.ChangeShapes Go.WideShapes Go.ChangeAt Go.RowKit Go.PlainAid
set_option linter.unusedVariables false
theorem infoStr : (Tryz.prog.info? 9).map (fun i => (i.zero, i.size, i.bytes)) = some (some (.string ⟨#[]⟩), 1, 16) := by kernel_rfl
def nmF (key : ByteArray) (s : List ByteArray × Bool) (x : ByteArray) : List ByteArray × Bool := if s.2 = false ∧ ahd key x = true then (s.1 ++ [key] ++ [x], true) else (s.1 ++ [x], s.2)
def nmS (l : List ByteArray) (key : ByteArray) (k : Nat) : List ByteArray × Bool := (l.take k).foldl (nmF key) ([], false)
theorem nmS_succ (l : List ByteArray) (key : ByteArray) (k : Nat) (h : k < l.length) : nmS l key (k + 1) = nmF key (nmS l key k) (l.getD k default) := by
 unfold nmS
 rw [take_getD l k h, List.foldl_append]
 rfl
def nmFin (key : ByteArray) (s : List ByteArray × Bool) : List ByteArray := if s.2 then s.1 else s.1 ++ [key]
theorem nm_done (key : ByteArray) : ∀ (l o : List ByteArray), l.foldl (nmF key) (o, true) = (o ++ l, true)
 | [], o => by simp
 | x :: l, o => by
  have e : nmF key (o, true) x = (o ++ [x], true) := by simp [nmF]
  rw [List.foldl_cons, e, nm_done key l]
  simp
theorem nm_open (key : ByteArray) : ∀ (l o : List ByteArray), (∀ x ∈ l, x ≠ key) → nmFin key (l.foldl (nmF key) (o, false)) = o ++ insK l key
 | [], o, _ => by simp [nmFin, insK]
 | x :: l, o, h => by
  have hx := h x (by simp)
  by_cases h2 : ahd key x = true
  ·have e : nmF key (o, false) x = (o ++ [key] ++ [x], true) := by simp [nmF, h2]
   rw [List.foldl_cons, e, nm_done, insK, if_neg hx, if_pos h2]
   simp [nmFin]
  ·have e : nmF key (o, false) x = (o ++ [x], false) := by simp [nmF, h2]
   rw [List.foldl_cons, e, nm_open key l _ fun y hy => h y (by simp [hy]), insK, if_neg hx, if_neg h2]
   simp
theorem nm_all {l : List ByteArray} {key : ByteArray} (h : ∀ x ∈ l, x ≠ key) : nmFin key (nmS l key l.length) = insK l key := by
 unfold nmS
 rw [List.take_length, nm_open key l [] h, List.nil_append]
theorem insK_mem {key : ByteArray} : ∀ {l : List ByteArray}, RiseK l → key ∈ l → insK l key = l
 | x :: l, hl, h => by
  have hl' := List.pairwise_cons.1 hl
  by_cases e : x = key
  ·rw [insK, if_pos e]
  ·have hk : key ∈ l := by
    rcases List.mem_cons.1 h with e2 | h2
    ·exact absurd e2.symm e
    ·exact h2
   have h2 : ¬ ahd key x = true := fun h2 => absurd rfl (ahd_ne (ahd_trans h2 (hl'.1 key hk)))
   rw [insK, if_neg e, if_neg h2, insK_mem hl'.2 hk]
theorem nmS_len (l : List ByteArray) (key : ByteArray) : ∀ k, k ≤ l.length → (nmS l key k).1.length ≤ 2 * k
 | 0, _ => by simp [nmS]
 | k + 1, h => by
  have ih := nmS_len l key k (by omega)
  rw [nmS_succ l key k (by omega), nmF]
  split
  ·simp; omega
  ·simp; omega
theorem st_cell (x : ByteArray) : ∀ u ∈ ([.string x] : List Value), u.oneCell' = true := by
 intro u hu
 simp only [List.mem_cons, List.not_mem_nil, or_false] at hu
 rw [hu]; rfl
set_option maxHeartbeats 2000000 in
theorem specName (l : List ByteArray) (key : ByteArray) (v : Value) (w : World) (base : Nat) (hv : Owns w base 9 1 v (stR l)) (hn : l.length ≤ 1000) (hr : RiseK l) (hb : base ≤ w.heap.size) :
  Calls Tryz.prog 84 #[v, .string key] w fun e w' => (∃ u, e = .returned u ∧ Owns w' base 9 1 u (stR (insK l key))) ∧ Below w.heap.size w w' := by
 obtain ⟨A, cap, rfl, hl⟩ := st_look hv.lies
 have HV : Hid (Owns w base 9 1 (.slice A l.length cap) (stR l)) := hv
 have HL : Hid (∀ j, j < l.length → ∃ g off, A = some ⟨g, off, none⟩ ∧ g < w.heap.size ∧ w.cell? ⟨g, off + j, none⟩ = some (.string (l.getD j default))) := hl
 have HR : Hid (RiseK l) := hr
 have HB : Hid (base ≤ w.heap.size) := hb
 have HS : Hid (∀ k, k < l.length → nmS l key (k + 1) = nmF key (nmS l key k) (l.getD k default)) := fun k hk => nmS_succ l key k hk
 have HSl : Hid (∀ k, k ≤ l.length → (nmS l key k).1.length ≤ 2 * k) := nmS_len l key
 have q1 : (l.length : Int) ≤ 1000 := by omega
 clear hl hv hr hb hn
 generalize hN : l.length = n at *
 have HN : Hid (l.length = n) := hN
 clear hN
 have BE : Hid (Below w.heap.size w (w.alloc (.cells #[] 9))) := (Below.refl _ w).alloc (Nat.le_refl _) _
 have OE : Hid (Owns (w.alloc (.cells #[] 9)) w.heap.size 9 1 (.slice (some ⟨w.heap.size, 0, none⟩) 0 0) (stR [])) := Owns.empty w w.heap.size 9 1 (Nat.le_refl _)
 go_enter Tryz.func84, Tryz.ntmps84
 go_wp2_with fail
 go_loopw [5, 6, 7] (fun v5 v6 v7 wr => ∃ k : Nat, k ≤ n ∧ v7 = .int .i64 (k : Int) ∧ v6 = .bool (nmS l key k).2 ∧ Hid (∀ i, i < k → l.getD i default ≠ key) ∧ Owns wr w.heap.size 9 1 v5 (stR (nmS l key k).1) ∧ Below w.heap.size w wr) (fun _ _ i _ => n - (intOf i).toNat)
 case atStart => exact ⟨0, by omega, rfl, rfl, fun i hi => by omega, OE.out, BE.out⟩
 case round =>
  obtain ⟨k, hk, rfl, rfl, HJ, hO, hB⟩ := hrel
  have HO : Hid (Owns wr w.heap.size 9 1 u5 (stR (nmS l key k).1)) := hO
  have HBr : Hid (Below w.heap.size w wr) := hB
  obtain ⟨A5, n5, c5, rfl⟩ := hO.shape
  clear hO hB
  by_cases hlt : k < n
  ·have q4 : (k : Int) < (n : Int) := by omega
   obtain ⟨g, off, rfl, hg, e1⟩ := HL.out k hlt
   rw [← HBr.out.cell (p := ⟨_, _, none⟩) hg] at e1
   by_cases hkey : l.getD k default = key
   ·have HF : Hid (insK l key = l) := insK_mem HR.out (by rw [← hkey]; exact getD_mem l k (by rw [HN.out]; exact hlt))
    rw [hkey] at e1
    clear hkey
    go_wp2_with fail
    go_ret
    refine ⟨⟨_, rfl, ?_⟩, HBr.out⟩
    rw [HF.out]
    exact HV.out.on HBr.out
   ·have HK : Hid (l.getD k default ≠ key) := hkey
    have hne := bytes_ne hkey
    have HSk := HS.out k hlt
    have HLk := HSl.out k hk
    have HSe : Hid (nmS l key (k + 1) = nmF key (nmS l key k) (l.getD k default)) := HSk
    have HJn : Hid (∀ i, i < k + 1 → l.getD i default ≠ key) := fun i hi => by
     by_cases e : i = k
     ·rw [e]; exact HK.out
     ·exact HJ.out i (by omega)
    clear hkey HSk HJ HK
    have Z : w.heap.size ≤ wr.heap.size := HBr.out.size
    have L2 : Hid ((stR (nmS l key k).1).length ≤ 2097152) := by unfold Hid; rw [stR_length]; omega
    clear HLk
    by_cases hput : (nmS l key k).2 = false ∧ ahd key (l.getD k default) = true
    ·have HE : Hid (nmS l key (k + 1) = ((nmS l key k).1 ++ [key] ++ [l.getD k default], true)) := by
      unfold Hid
      rw [HSe.out, nmF, if_pos hput]
     have HLk : Hid ((nmS l key k).1.length ≤ 2 * k) := HSl.out k hk
     obtain ⟨hp1, hp2⟩ := hput
     unfold ahd at hp2
     rw [hp1]
     generalize (nmS l key k).1 = o at *
     generalize l.getD k default = x at *
     have hW : ∀ z : World, Hid (w.heap.size ≤ z.heap.size ∧ (stR (o ++ [key])).length ≤ 2097152) → True := fun _ _ => trivial
     have L3 : Hid ((stR (o ++ [key])).length ≤ 2097152) := by have := HLk.out; unfold Hid; rw [stR_length, List.length_append, List.length_singleton]; omega
     clear hW hp1
     go_wp2_with (at_builtin; refine wpList_append_row rfl (.tmp 32) (.tmp 34) 23 9 (.string ⟨#[]⟩) 1 16 rfl Tryz.underlying23 infoStr rfl (by omega) w.heap.size _ (stR o) rfl HO.out [.string key] rfl (st_cell key) rfl L2.out (by omega) Z ?_; intro v' w2 hO2 hb2 hk2 hw2; obtain ⟨A2, n2, c2, rfl⟩ := hO2.shape; refine Shut.out ?_)
     unfold Shut
     have B2 : Hid (Below w.heap.size w w2) := HBr.out.trans hb2
     have hc2 := e1
     rw [← hb2.cell (p := ⟨_, _, none⟩) hg] at hc2
     have O2 : Hid (Owns w2 w.heap.size 9 1 (.slice A2 n2 c2) (stR (o ++ [key]))) := by rw [stR_append]; exact hO2
     have Z2 : w.heap.size ≤ w2.heap.size := B2.out.size
     clear hO2 hb2 hk2 hw2 e1
     go_wp2_with (at_builtin; refine wpList_append_row rfl (.tmp 36) (.tmp 41) 23 9 (.string ⟨#[]⟩) 1 16 rfl Tryz.underlying23 infoStr rfl (by omega) w.heap.size _ (stR (o ++ [key])) rfl O2.out [.string x] rfl (st_cell x) rfl L3.out (by omega) Z2 ?_; intro v3 w3 hO3 hb3 hk3 hw3; obtain ⟨A3, n3, c3, rfl⟩ := hO3.shape; refine Shut.out ?_)
     unfold Shut
     have O3 : Hid (Owns w3 w.heap.size 9 1 (.slice A3 n3 c3) (stR (o ++ [key] ++ [x]))) := by rw [stR_append (o ++ [key])]; exact hO3
     have B3 : Hid (Below w.heap.size w w3) := B2.out.trans hb3
     clear hO3 hb3 hk3 hw3 hc2
     go_wp2_with fail
     go_roundw
     case rel => exact ⟨k + 1, by omega, by go_num, by rw [HE.out], HJn, by rw [HE.out]; exact O3.out, B3.out⟩
     case measure => simp [intOf]; omega
    ·have HE : Hid (nmS l key (k + 1) = ((nmS l key k).1 ++ [l.getD k default], (nmS l key k).2)) := by
      unfold Hid
      rw [HSe.out, nmF, if_neg hput]
     have hb : (nmS l key k).2 = true ∨ (nmS l key k).2 = false ∧ Op.bytesLess key.toList (l.getD k default).toList = false := by
      cases e : (nmS l key k).2 with
      | true => exact .inl rfl
      | false =>
       refine .inr ⟨rfl, ?_⟩
       cases e2 : Op.bytesLess key.toList (l.getD k default).toList with
       | false => rfl
       | true => exact absurd ⟨e, e2⟩ hput
     clear hput
     generalize (nmS l key k).1 = o at *
     generalize l.getD k default = x at *
     have fin : ∀ (b : Bool) (A3 : Option Addr) (n3 c3 : Nat) (w3 : World), True := fun _ _ _ _ _ => trivial
     clear fin
     rcases hb with hb | ⟨hb, hb2⟩
     ·rw [hb] at HE ⊢
      clear hb
      go_wp2_with (at_builtin; refine wpList_append_row rfl (.tmp 36) (.tmp 41) 23 9 (.string ⟨#[]⟩) 1 16 rfl Tryz.underlying23 infoStr rfl (by omega) w.heap.size _ (stR o) rfl HO.out [.string x] rfl (st_cell x) rfl L2.out (by omega) Z ?_; intro v3 w3 hO3 hb3 hk3 hw3; obtain ⟨A3, n3, c3, rfl⟩ := hO3.shape; refine Shut.out ?_)
      unfold Shut
      have O3 : Hid (Owns w3 w.heap.size 9 1 (.slice A3 n3 c3) (stR (o ++ [x]))) := by rw [stR_append]; exact hO3
      have B3 : Hid (Below w.heap.size w w3) := HBr.out.trans hb3
      clear hO3 hb3 hk3 hw3 e1
      go_wp2_with fail
      go_roundw
      case rel => exact ⟨k + 1, by omega, by go_num, by rw [HE.out], HJn, by rw [HE.out]; exact O3.out, B3.out⟩
      case measure => simp [intOf]; omega
     ·rw [hb] at HE ⊢
      clear hb
      go_wp2_with (at_builtin; refine wpList_append_row rfl (.tmp 36) (.tmp 41) 23 9 (.string ⟨#[]⟩) 1 16 rfl Tryz.underlying23 infoStr rfl (by omega) w.heap.size _ (stR o) rfl HO.out [.string x] rfl (st_cell x) rfl L2.out (by omega) Z ?_; intro v3 w3 hO3 hb3 hk3 hw3; obtain ⟨A3, n3, c3, rfl⟩ := hO3.shape; refine Shut.out ?_)
      unfold Shut
      have O3 : Hid (Owns w3 w.heap.size 9 1 (.slice A3 n3 c3) (stR (o ++ [x]))) := by rw [stR_append]; exact hO3
      have B3 : Hid (Below w.heap.size w w3) := HBr.out.trans hb3
      clear hO3 hb3 hk3 hw3 e1
      go_wp2_with fail
      go_roundw
      case rel => exact ⟨k + 1, by omega, by go_num, by rw [HE.out], HJn, by rw [HE.out]; exact O3.out, B3.out⟩
      case measure => simp [intOf]; omega
  ·obtain rfl : k = n := by omega
   have HF : Hid (nmFin key (nmS l key k) = insK l key) := by
    unfold Hid
    rw [← HN.out]
    refine nm_all fun x hx => ?_
    obtain ⟨j, hj, rfl⟩ := List.getElem_of_mem hx
    rw [getD_at l j hj]
    exact HJ.out j (by rw [← HN.out]; exact hj)
   have HLk : Hid ((nmS l key k).1.length ≤ 2 * k) := HSl.out k hk
   have Z : w.heap.size ≤ wr.heap.size := HBr.out.size
   have L2 : Hid ((stR (nmS l key k).1).length ≤ 2097152) := by have := HLk.out; unfold Hid; rw [stR_length]; omega
   unfold nmFin at HF
   cases hb : (nmS l key k).2 with
   | true =>
    rw [hb] at HF
    go_wp2_with fail
    go_ret
    refine ⟨⟨_, rfl, ?_⟩, HBr.out⟩
    have := HF.out
    simp only [if_true] at this
    rw [← this]
    exact HO.out.mono HB.out
   | false =>
    rw [hb] at HF
    generalize (nmS l key k).1 = o at *
    go_wp2_with (at_builtin; refine wpList_append_row rfl (.tmp 45) (.tmp 47) 23 9 (.string ⟨#[]⟩) 1 16 rfl Tryz.underlying23 infoStr rfl (by omega) w.heap.size _ (stR o) rfl HO.out [.string key] rfl (st_cell key) rfl L2.out (by omega) Z ?_; intro v3 w3 hO3 hb3 hk3 hw3; obtain ⟨A3, n3, c3, rfl⟩ := hO3.shape; refine Shut.out ?_)
    unfold Shut
    have O3 : Hid (Owns w3 w.heap.size 9 1 (.slice A3 n3 c3) (stR (o ++ [key]))) := by rw [stR_append]; exact hO3
    have B3 : Hid (Below w.heap.size w w3) := HBr.out.trans hb3
    clear hO3 hb3 hk3 hw3
    go_wp2_with fail
    go_ret
    refine ⟨⟨_, rfl, ?_⟩, B3.out⟩
    have := HF.out
    rw [if_neg (by simp)] at this
    rw [← this]
    exact O3.out.mono HB.out
end Go.Proofs.YtpmgndgkmffcnaaGreatDoor
