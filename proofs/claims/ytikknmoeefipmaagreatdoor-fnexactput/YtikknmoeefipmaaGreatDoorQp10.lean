/- EgRow EgS1 EgS2 EgS3 FlAid FlWrite -/
import Derived.Test.YtikknmoeefipmaaGreatDoorRows
import Derived.Test.YtikknmoeefipmaaGreatDoorQp2
import Derived.Test.YtikknmoeefipmaaGreatDoorQp3
import Derived.Test.YtikknmoeefipmaaGreatDoorQp9
import Derived.WalkKit
import Derived.ProofKit
import Derived.OpenShut
import Derived.Below
import Derived.WalkSmall
import Derived.BigQuiet
import Derived.Deep.QuietTactic
import Derived.Deep.RegionWith
import Derived.Handy
import Derived.Test.YtikknmoeefipmaaGreatDoorQp6
import Derived.Test.YtikknmoeefipmaaGreatDoorQp5
import Derived.Test.YtikknmoeefipmaaGreatDoorQp1
import Derived.Test.YtikknmoeefipmaaGreatDoorQp4
open List (setIfInBounds_toArray set_cons_zero set_cons_succ)
namespace Go.Proofs.YtikknmoeefipmaaGreatDoor
open Go.RowKit Go.PlainAid
def stC (s : ByteArray) : List Value := [.string s]
def stR (l : List ByteArray) : List (List Value) := l.map stC
theorem stR_length (l : List ByteArray) : (stR l).length = l.length := by simp [stR]
theorem stR_append (l m : List ByteArray) : stR (l ++ m) = stR l ++ stR m := by simp [stR]
theorem stR_flat (l : List ByteArray) : (stR l).flatten = strCells l := by
 induction l with
 | nil => rfl
 | cons x l ih => simp only [stR, strCells, List.map_cons, List.flatten_cons] at ih ⊢; rw [ih]; rfl
theorem stR_sz (l : List ByteArray) : ∀ r ∈ stR l, r.length = 1 := by
 intro r hr
 obtain ⟨x, _, rfl⟩ := List.mem_map.1 hr
 rfl
theorem st_one (l : List ByteArray) : ∀ r ∈ stR l, ∀ y ∈ r, y.oneCell' = true := by
 intro r hr y hy
 obtain ⟨x, _, rfl⟩ := List.mem_map.1 hr
 simp only [stC, List.mem_cons, List.not_mem_nil, or_false] at hy
 rw [hy]; rfl
theorem owns_strs {w : World} {base : Nat} {v : Value} {l : List ByteArray} (h : Owns w base 9 1 v (stR l)) : Strs w base v l := by
 have := h.2
 rw [stR_length, stR_flat] at this
 exact this
theorem strs_owns {w : World} {base : Nat} {v : Value} {l : List ByteArray} (h : Strs w base v l) : Owns w base 9 1 v (stR l) := ⟨stR_sz l, by rw [stR_length, stR_flat]; exact h⟩
theorem st_look {w : World} {B : Nat} {v : Value} {l : List ByteArray} (h : Lies w B 1 v (stR l)) : ∃ A cap, v = .slice A l.length cap ∧ ∀ j, j < l.length → ∃ g off, A = some ⟨g, off, none⟩ ∧ g < B ∧ w.cell? ⟨g, off + j, none⟩ = some (.string (l.getD j default)) := by
 obtain ⟨A, cap, e, h⟩ := h.look
 refine ⟨A, cap, by rw [e]; simp [stR], fun j hj => ?_⟩
 rw [← getD_at l j hj]
 obtain ⟨g, off, e, hg, hc⟩ := h j (by simpa [stR] using hj)
 refine ⟨g, off, e, hg, ?_⟩
 have := hc 0 _ (by omega) (by simp [stR, stC]; rfl)
 simpa using this
theorem st_cells {w : World} {B n c : Nat} {A : Option Addr} {l : List ByteArray} (h : Lies w B 1 (.slice A n c) (stR l)) : ∀ j, j < l.length → ∃ g off, A = some ⟨g, off, none⟩ ∧ g < B ∧ w.cell? ⟨g, off + j, none⟩ = some (.string (l.getD j default)) := by
 obtain ⟨A', c', e, hl⟩ := st_look h
 cases e
 exact hl
def laR (us : List Value) : List (List Value) := us.map fun u => [u]
theorem laR_length (us : List Value) : (laR us).length = us.length := by simp [laR]
theorem laR_append (l m : List Value) : laR (l ++ m) = laR l ++ laR m := by simp [laR]
theorem la_look {w : World} {B : Nat} {v : Value} {us : List Value} (h : Lies w B 1 v (laR us)) : ∃ A cap, v = .slice A us.length cap ∧ ∀ j, j < us.length → ∃ g off, A = some ⟨g, off, none⟩ ∧ g < B ∧ w.cell? ⟨g, off + j, none⟩ = some (us.getD j default) := by
 obtain ⟨A, cap, e, h⟩ := h.look
 refine ⟨A, cap, by rw [e]; simp [laR], fun j hj => ?_⟩
 rw [← getD_at us j hj]
 obtain ⟨g, off, e, hg, hc⟩ := h j (by simpa [laR] using hj)
 refine ⟨g, off, e, hg, ?_⟩
 have := hc 0 _ (by omega) (by simp [laR]; rfl)
 simpa using this
def LayL (w : World) (B : Nat) (us : List Value) (ls : List (List Ser)) : Prop := us.length = ls.length ∧ ∀ j, j < ls.length → SerV w B (us.getD j default) (ls.getD j [])
def LayV (w : World) (B : Nat) (v : Value) (ls : List (List Ser)) : Prop := ∃ us, Lies w B 1 v (laR us) ∧ LayL w B us ls
theorem LayL.on {w w' : World} {B : Nat} {us : List Value} {ls : List (List Ser)} (h : LayL w B us ls) (hb : Below B w w') : LayL w' B us ls := ⟨h.1, fun j hj => (h.2 j hj).on hb⟩
theorem LayL.mono {w : World} {B C : Nat} {us : List Value} {ls : List (List Ser)} (h : LayL w B us ls) (hB : B ≤ C) : LayL w C us ls := ⟨h.1, fun j hj => (h.2 j hj).mono hB⟩
theorem LayV.on {w w' : World} {B : Nat} {v : Value} {ls : List (List Ser)} (h : LayV w B v ls) (hb : Below B w w') : LayV w' B v ls := h.imp fun _ h => ⟨h.1.on hb, h.2.on hb⟩
theorem LayV.mono {w : World} {B C : Nat} {v : Value} {ls : List (List Ser)} (h : LayV w B v ls) (hB : B ≤ C) : LayV w C v ls := h.imp fun _ h => ⟨h.1.mono hB, h.2.mono hB⟩
theorem LayL.snoc {w : World} {B : Nat} {us : List Value} {ls : List (List Ser)} (h : LayL w B us ls) {u : Value} {l : List Ser} (hu : SerV w B u l) : LayL w B (us ++ [u]) (ls ++ [l]) := by
 refine ⟨by simp [h.1], fun j hj => ?_⟩
 rw [List.length_append, List.length_singleton] at hj
 by_cases e : j < ls.length
 ·rw [List.getD_eq_getElem?_getD, List.getD_eq_getElem?_getD, List.getElem?_append_left (by rw [h.1]; exact e), List.getElem?_append_left e, ← List.getD_eq_getElem?_getD, ← List.getD_eq_getElem?_getD]
  exact h.2 j e
 ·obtain rfl : j = ls.length := by omega
  rw [List.getD_eq_getElem?_getD, List.getD_eq_getElem?_getD, List.getElem?_append_right (by rw [h.1]; exact Nat.le_refl _), List.getElem?_append_right (Nat.le_refl _), h.1, Nat.sub_self]
  exact hu
theorem LayV.look {w : World} {B : Nat} {v : Value} {ls : List (List Ser)} (h : LayV w B v ls) : ∃ A cap, v = .slice A ls.length cap ∧ ∀ j, j < ls.length → ∃ g off u, A = some ⟨g, off, none⟩ ∧ g < B ∧ w.cell? ⟨g, off + j, none⟩ = some u ∧ SerV w B u (ls.getD j []) := by
 obtain ⟨us, h1, h2⟩ := h
 obtain ⟨A, cap, e, hl⟩ := la_look h1
 refine ⟨A, cap, by rw [e, h2.1], fun j hj => ?_⟩
 obtain ⟨g, off, e, hg, hc⟩ := hl j (by rw [h2.1]; exact hj)
 exact ⟨g, off, _, e, hg, hc, h2.2 j hj⟩
def vE (f : Int) (vc vf : Value) : Value := .agg #[.int .i64 f, vc, vf]
def EngV (w : World) (B : Nat) (v : Value) (e : Eng) : Prop := ∃ vc vf, v = vE e.floor vc vf ∧ SerV w B vc e.cache ∧ Lies w B 1 vf (stR e.files)
theorem EngV.on {w w' : World} {B : Nat} {v : Value} {e : Eng} (h : EngV w B v e) (hb : Below B w w') : EngV w' B v e := by
 obtain ⟨vc, vf, h1, h2, h3⟩ := h
 exact ⟨vc, vf, h1, h2.on hb, h3.on hb⟩
theorem EngV.mono {w : World} {B C : Nat} {v : Value} {e : Eng} (h : EngV w B v e) (hB : B ≤ C) : EngV w C v e := by
 obtain ⟨vc, vf, h1, h2, h3⟩ := h
 exact ⟨vc, vf, h1, h2.mono hB, h3.mono hB⟩
def EngO (w : World) (base : Nat) (v : Value) (e : Eng) : Prop := ∃ vc vf L, v = vE e.floor vc vf ∧ L.map Prod.fst = e.cache ∧ SerO w base vc L ∧ Strs w base vf e.files
theorem EngO.view {w : World} {base : Nat} {v : Value} {e : Eng} (h : EngO w base v e) : EngV w w.heap.size v e := by
 obtain ⟨vc, vf, L, h1, h2, h3, h4⟩ := h
 exact ⟨vc, vf, h1, by rw [← h2]; exact h3.view, (strs_owns h4).lies⟩
theorem EngO.on {w w' : World} {base : Nat} {v : Value} {e : Eng} (h : EngO w base v e) (hb : Below w.heap.size w w') : EngO w' base v e := by
 obtain ⟨vc, vf, L, h1, h2, h3, h4⟩ := h
 exact ⟨vc, vf, L, h1, h2, h3.on hb, h4.on hb⟩
theorem EngO.mono {w : World} {base base' : Nat} {v : Value} {e : Eng} (h : EngO w base v e) (hb : base' ≤ base) : EngO w base' v e := by
 obtain ⟨vc, vf, L, h1, h2, h3, h4⟩ := h
 exact ⟨vc, vf, L, h1, h2, h3.mono hb, h4.mono hb⟩
def EShort (e : Eng) : Prop := SShort e.cache ∧ (∀ x ∈ e.cache, x.key.size ≤ maxLen) ∧ e.files.length ≤ 1048576 ∧ ∀ s ∈ e.files, s.size ≤ 1048576
end Go.Proofs.YtikknmoeefipmaaGreatDoor
namespace Go.Proofs.YtikknmoeefipmaaGreatDoor
open Go.ChangeShapes Go.WideShapes Go.ChangeAt Go.RowKit Go.PlainAid
set_option linter.unusedVariables false
def AtR (l : List Ser) (k : ByteArray) (r : Int) : Prop := (r = -1 ∧ ∀ x ∈ l, x.key ≠ k) ∨ ∃ j : Nat, r = (j : Int) ∧ j < l.length ∧ (l.getD j default).key = k ∧ ∀ i, i < j → (l.getD i default).key ≠ k
theorem ptsAt_at {k : ByteArray} : ∀ {l : List Ser} {j : Nat}, j < l.length → (l.getD j default).key = k → (∀ i, i < j → (l.getD i default).key ≠ k) → ptsAt l k = (l.getD j default).pts
 | x :: l, 0, _, h, _ => by
  have hx : x.key = k := h
  rw [ptsAt, if_pos hx]
  rfl
 | x :: l, j + 1, hj, h, hi => by
  have hx : x.key ≠ k := hi 0 (by omega)
  rw [ptsAt, if_neg hx]
  exact ptsAt_at (l := l) (by simpa using hj) h fun i h' => hi (i + 1) (by omega)
set_option maxHeartbeats 1000000 in
theorem specAt (l : List Ser) (key : ByteArray) (v : Value) (w : World) (B : Nat) (hv : SerV w B v l) (hn : l.length ≤ 1048576) :
  Calls Tryz.prog 149 #[v, .string key] w fun e w' => (∃ r : Int, e = .returned (.int .i64 r) ∧ Hid (AtR l key r)) ∧ w = w' := by
 obtain ⟨A, cap, rfl, hl⟩ := hv.look
 have HL : Hid (∀ j, j < l.length → ∃ g off u, A = some ⟨g, off, none⟩ ∧ g < B ∧ w.cell? ⟨g, off + j * 2, none⟩ = some (.string (l.getD j default).key) ∧ w.cell? ⟨g, off + j * 2 + 1, none⟩ = some u ∧ Lies w B 2 u (ptR (l.getD j default).pts)) := hl
 have q1 : (l.length : Int) ≤ 1048576 := by omega
 clear hl hv hn
 generalize hN : l.length = n at *
 have HN : Hid (l.length = n) := hN
 clear hN
 go_enter Tryz.func149, Tryz.ntmps149
 go_wp2_with fail
 go_loop [5] (fun v5 => ∃ k : Nat, k ≤ n ∧ v5 = .int .i64 (k : Int) ∧ Hid (∀ i, i < k → (l.getD i default).key ≠ key)) (fun i => n - (intOf i).toNat)
 case atStart => exact ⟨0, by omega, rfl, fun i hi => by omega⟩
 case round =>
  obtain ⟨k, hk, rfl, HJ⟩ := hrel
  by_cases hlt : k < n
  ·have q4 : (k : Int) < (n : Int) := by omega
   obtain ⟨g, off, u, rfl, hg, e1, e2, _⟩ := HL.out k hlt
   by_cases hkey : (l.getD k default).key = key
   ·have HF : Hid (AtR l key (k : Int)) := .inr ⟨k, rfl, by rw [HN.out]; exact hlt, hkey, HJ.out⟩
    rw [hkey] at e1
    clear hkey
    go_wp2_with fail
    go_ret
    exact ⟨⟨_, rfl, HF⟩, rfl⟩
   ·have HK : Hid ((l.getD k default).key ≠ key) := hkey
    have hne := bytes_ne hkey
    clear hkey
    generalize (l.getD k default).key = xk at e1 hne
    go_wp2_with fail
    go_round
    case rel =>
     refine ⟨k + 1, by omega, by go_num, fun i hi => ?_⟩
     by_cases e : i = k
     ·rw [e]; exact HK.out
     ·exact HJ.out i (by omega)
    case measure => simp [intOf]; omega
  ·obtain rfl : k = n := by omega
   have HF : Hid (AtR l key (-1)) := .inl ⟨rfl, fun x hx => by
    obtain ⟨j, hj, rfl⟩ := List.getElem_of_mem hx
    rw [getD_at l j hj]
    exact HJ.out j (by rw [← HN.out]; exact hj)⟩
   go_wp2_with fail
   go_ret
   exact ⟨⟨_, rfl, HF⟩, rfl⟩
theorem cntS_le (l : List Ser) (h : ∀ x ∈ l, x.pts.length ≤ 1000) : ∀ k, k ≤ l.length → cntS (l.take k) ≤ 1000 * k
 | 0, _ => by simp [cntS]
 | k + 1, hk => by
  have ih := cntS_le l h k (by omega)
  have := h _ (getD_mem l k (by omega))
  rw [cntS_snoc l k (by omega)]
  omega
set_option maxHeartbeats 1000000 in
theorem specCount (l : List Ser) (v : Value) (w : World) (B : Nat) (hv : SerV w B v l) (hn : l.length ≤ 1000) (hs : ∀ x ∈ l, x.pts.length ≤ 1000) :
  Calls Tryz.prog 72 #[v] w fun e w' => e = .returned (.int .i64 (cntS l : Int)) ∧ w = w' := by
 obtain ⟨A, cap, rfl, hl⟩ := hv.look
 have HL : Hid (∀ j, j < l.length → ∃ g off u, A = some ⟨g, off, none⟩ ∧ g < B ∧ w.cell? ⟨g, off + j * 2, none⟩ = some (.string (l.getD j default).key) ∧ w.cell? ⟨g, off + j * 2 + 1, none⟩ = some u ∧ Lies w B 2 u (ptR (l.getD j default).pts)) := hl
 have HC : Hid (∀ k, k ≤ l.length → cntS (l.take k) ≤ 1000 * k) := cntS_le l hs
 have HS : Hid (∀ k, k < l.length → cntS (l.take (k + 1)) = cntS (l.take k) + (l.getD k default).pts.length) := fun k hk => cntS_snoc l k hk
 have HT : Hid (∀ k, k = l.length → cntS (l.take k) = cntS l) := fun k hk => by rw [hk, List.take_length]
 have HM : Hid (∀ k, k < l.length → (l.getD k default).pts.length ≤ 1000) := fun k hk => hs _ (getD_mem l k hk)
 have H0 : Hid (cntS (l.take 0) = 0) := by simp [Hid, cntS]
 have q1 : (l.length : Int) ≤ 1000 := by omega
 clear hl hv hs
 generalize hN : l.length = n at *
 clear hN
 go_enter Tryz.func72, Tryz.ntmps72
 go_wp2_with fail
 go_loop [3, 4] (fun v3 v4 => ∃ k : Nat, k ≤ n ∧ v4 = .int .i64 (k : Int) ∧ v3 = .int .i64 (cntS (l.take k) : Int)) (fun _ i => n - (intOf i).toNat)
 case atStart => exact ⟨0, by omega, rfl, by rw [H0.out]; rfl⟩
 case round =>
  obtain ⟨k, hk, rfl, rfl⟩ := hrel
  by_cases hlt : k < n
  ·have q4 : (k : Int) < (n : Int) := by omega
   obtain ⟨g, off, u, rfl, hg, e1, e2, hu⟩ := HL.out k hlt
   obtain ⟨A', c', rfl, _⟩ := pt_look hu
   have h1 := HC.out k hk
   have h2 := HM.out k hlt
   have h3 := HS.out k hlt
   have HE : Hid (cntS (l.take (k + 1)) = cntS (l.take k) + (l.getD k default).pts.length) := h3
   clear hu h3
   generalize cntS (l.take k) = c at *
   generalize (l.getD k default).pts.length = p at *
   have q5 : (c : Int) ≤ 1000000 := by omega
   have q6 : (p : Int) ≤ 1000 := by omega
   have w2 : wrap64 ((c : Int) + (p : Int)) = (c : Int) + (p : Int) := by unfold wrap64; omega
   go_wp2_with fail
   go_round
   case rel => exact ⟨k + 1, by omega, by go_num, by rw [HE.out]; go_num⟩
   case measure => simp [intOf]; omega
  ·obtain rfl : k = n := by omega
   have HE := HT.out k rfl
   go_wp2_with fail
   go_ret
   exact ⟨rfl, rfl⟩
end Go.Proofs.YtikknmoeefipmaaGreatDoor
namespace Go.Proofs.YtikknmoeefipmaaGreatDoor
open Go.ChangeShapes Go.WideShapes Go.ChangeAt Go.RowKit Go.PlainAid
set_option linter.unusedVariables false
theorem infoStr : (Tryz.prog.info? 9).map (fun i => (i.zero, i.size, i.bytes)) = some (some (.string ⟨#[]⟩), 1, 16) := by kernel_rfl
def nmF (key : ByteArray) (s : List ByteArray × Bool) (x : ByteArray) : List ByteArray × Bool := if s.2 = false ∧ ahd key x = true then (s.1 ++ [key] ++ [x], true) else (s.1 ++ [x], s.2)
def nmS (l : List ByteArray) (key : ByteArray) (k : Nat) : List ByteArray × Bool := (l.take k).foldl (nmF key) ([], false)
theorem nmS_succ (l : List ByteArray) (key : ByteArray) (k : Nat) (h : k < l.length) : nmS l key (k + 1) = nmF key (nmS l key k) (l.getD k default) := by
 unfold nmS
 rw [take_getD l k h, List.foldl_append]
 rfl
def nmFin (key : ByteArray) (s : List ByteArray × Bool) : List ByteArray := if s.2 then s.1 else s.1 ++ [key]
theorem nm_done (key : ByteArray) : ∀ (l o : List ByteArray), l.foldl (nmF key) (o, true) = (o ++ l, true)
 | [], o => by simp
 | x :: l, o => by
  have e : nmF key (o, true) x = (o ++ [x], true) := by simp [nmF]
  rw [List.foldl_cons, e, nm_done key l]
  simp
theorem nm_open (key : ByteArray) : ∀ (l o : List ByteArray), (∀ x ∈ l, x ≠ key) → nmFin key (l.foldl (nmF key) (o, false)) = o ++ insK l key
 | [], o, _ => by simp [nmFin, insK]
 | x :: l, o, h => by
  have hx := h x (by simp)
  by_cases h2 : ahd key x = true
  ·have e : nmF key (o, false) x = (o ++ [key] ++ [x], true) := by simp [nmF, h2]
   rw [List.foldl_cons, e, nm_done, insK, if_neg hx, if_pos h2]
   simp [nmFin]
  ·have e : nmF key (o, false) x = (o ++ [x], false) := by simp [nmF, h2]
   rw [List.foldl_cons, e, nm_open key l _ fun y hy => h y (by simp [hy]), insK, if_neg hx, if_neg h2]
   simp
theorem nm_all {l : List ByteArray} {key : ByteArray} (h : ∀ x ∈ l, x ≠ key) : nmFin key (nmS l key l.length) = insK l key := by
 unfold nmS
 rw [List.take_length, nm_open key l [] h, List.nil_append]
theorem insK_mem {key : ByteArray} : ∀ {l : List ByteArray}, RiseK l → key ∈ l → insK l key = l
 | x :: l, hl, h => by
  have hl' := List.pairwise_cons.1 hl
  by_cases e : x = key
  ·rw [insK, if_pos e]
  ·have hk : key ∈ l := by
    rcases List.mem_cons.1 h with e2 | h2
    ·exact absurd e2.symm e
    ·exact h2
   have h2 : ¬ ahd key x = true := fun h2 => absurd rfl (ahd_ne (ahd_trans h2 (hl'.1 key hk)))
   rw [insK, if_neg e, if_neg h2, insK_mem hl'.2 hk]
theorem nmS_len (l : List ByteArray) (key : ByteArray) : ∀ k, k ≤ l.length → (nmS l key k).1.length ≤ 2 * k
 | 0, _ => by simp [nmS]
 | k + 1, h => by
  have ih := nmS_len l key k (by omega)
  rw [nmS_succ l key k (by omega), nmF]
  split
  ·simp; omega
  ·simp; omega
theorem st_cell (x : ByteArray) : ∀ u ∈ ([.string x] : List Value), u.oneCell' = true := by
 intro u hu
 simp only [List.mem_cons, List.not_mem_nil, or_false] at hu
 rw [hu]; rfl
set_option maxHeartbeats 2000000 in
theorem specName (l : List ByteArray) (key : ByteArray) (v : Value) (w : World) (base : Nat) (hv : Owns w base 9 1 v (stR l)) (hn : l.length ≤ 1000) (hr : RiseK l) (hb : base ≤ w.heap.size) :
  Calls Tryz.prog 151 #[v, .string key] w fun e w' => (∃ u, e = .returned u ∧ Owns w' base 9 1 u (stR (insK l key))) ∧ Below w.heap.size w w' := by
 obtain ⟨A, cap, rfl, hl⟩ := st_look hv.lies
 have HV : Hid (Owns w base 9 1 (.slice A l.length cap) (stR l)) := hv
 have HL : Hid (∀ j, j < l.length → ∃ g off, A = some ⟨g, off, none⟩ ∧ g < w.heap.size ∧ w.cell? ⟨g, off + j, none⟩ = some (.string (l.getD j default))) := hl
 have HR : Hid (RiseK l) := hr
 have HB : Hid (base ≤ w.heap.size) := hb
 have HS : Hid (∀ k, k < l.length → nmS l key (k + 1) = nmF key (nmS l key k) (l.getD k default)) := fun k hk => nmS_succ l key k hk
 have HSl : Hid (∀ k, k ≤ l.length → (nmS l key k).1.length ≤ 2 * k) := nmS_len l key
 have q1 : (l.length : Int) ≤ 1000 := by omega
 clear hl hv hr hb hn
 generalize hN : l.length = n at *
 have HN : Hid (l.length = n) := hN
 clear hN
 have BE : Hid (Below w.heap.size w (w.alloc (.cells #[] 9))) := (Below.refl _ w).alloc (Nat.le_refl _) _
 have OE : Hid (Owns (w.alloc (.cells #[] 9)) w.heap.size 9 1 (.slice (some ⟨w.heap.size, 0, none⟩) 0 0) (stR [])) := Owns.empty w w.heap.size 9 1 (Nat.le_refl _)
 go_enter Tryz.func151, Tryz.ntmps151
 go_wp2_with fail
 go_loopw [5, 6, 7] (fun v5 v6 v7 wr => ∃ k : Nat, k ≤ n ∧ v7 = .int .i64 (k : Int) ∧ v6 = .bool (nmS l key k).2 ∧ Hid (∀ i, i < k → l.getD i default ≠ key) ∧ Owns wr w.heap.size 9 1 v5 (stR (nmS l key k).1) ∧ Below w.heap.size w wr) (fun _ _ i _ => n - (intOf i).toNat)
 case atStart => exact ⟨0, by omega, rfl, rfl, fun i hi => by omega, OE.out, BE.out⟩
 case round =>
  obtain ⟨k, hk, rfl, rfl, HJ, hO, hB⟩ := hrel
  have HO : Hid (Owns wr w.heap.size 9 1 u5 (stR (nmS l key k).1)) := hO
  have HBr : Hid (Below w.heap.size w wr) := hB
  obtain ⟨A5, n5, c5, rfl⟩ := hO.shape
  clear hO hB
  by_cases hlt : k < n
  ·have q4 : (k : Int) < (n : Int) := by omega
   obtain ⟨g, off, rfl, hg, e1⟩ := HL.out k hlt
   rw [← HBr.out.cell (p := ⟨_, _, none⟩) hg] at e1
   by_cases hkey : l.getD k default = key
   ·have HF : Hid (insK l key = l) := insK_mem HR.out (by rw [← hkey]; exact getD_mem l k (by rw [HN.out]; exact hlt))
    rw [hkey] at e1
    clear hkey
    go_wp2_with fail
    go_ret
    refine ⟨⟨_, rfl, ?_⟩, HBr.out⟩
    rw [HF.out]
    exact HV.out.on HBr.out
   ·have HK : Hid (l.getD k default ≠ key) := hkey
    have hne := bytes_ne hkey
    have HSk := HS.out k hlt
    have HLk := HSl.out k hk
    have HSe : Hid (nmS l key (k + 1) = nmF key (nmS l key k) (l.getD k default)) := HSk
    have HJn : Hid (∀ i, i < k + 1 → l.getD i default ≠ key) := fun i hi => by
     by_cases e : i = k
     ·rw [e]; exact HK.out
     ·exact HJ.out i (by omega)
    clear hkey HSk HJ HK
    have Z : w.heap.size ≤ wr.heap.size := HBr.out.size
    have L2 : Hid ((stR (nmS l key k).1).length ≤ 2097152) := by unfold Hid; rw [stR_length]; omega
    clear HLk
    by_cases hput : (nmS l key k).2 = false ∧ ahd key (l.getD k default) = true
    ·have HE : Hid (nmS l key (k + 1) = ((nmS l key k).1 ++ [key] ++ [l.getD k default], true)) := by
      unfold Hid
      rw [HSe.out, nmF, if_pos hput]
     have HLk : Hid ((nmS l key k).1.length ≤ 2 * k) := HSl.out k hk
     obtain ⟨hp1, hp2⟩ := hput
     unfold ahd at hp2
     rw [hp1]
     generalize (nmS l key k).1 = o at *
     generalize l.getD k default = x at *
     have hW : ∀ z : World, Hid (w.heap.size ≤ z.heap.size ∧ (stR (o ++ [key])).length ≤ 2097152) → True := fun _ _ => trivial
     have L3 : Hid ((stR (o ++ [key])).length ≤ 2097152) := by have := HLk.out; unfold Hid; rw [stR_length, List.length_append, List.length_singleton]; omega
     clear hW hp1
     go_wp2_with (at_builtin; refine wpList_append_row rfl (.tmp 32) (.tmp 34) 24 9 (.string ⟨#[]⟩) 1 16 rfl Tryz.underlying24 infoStr rfl (by omega) w.heap.size _ (stR o) rfl HO.out [.string key] rfl (st_cell key) rfl L2.out (by omega) Z ?_; intro v' w2 hO2 hb2 hk2 hw2; obtain ⟨A2, n2, c2, rfl⟩ := hO2.shape; refine Shut.out ?_)
     unfold Shut
     have B2 : Hid (Below w.heap.size w w2) := HBr.out.trans hb2
     have hc2 := e1
     rw [← hb2.cell (p := ⟨_, _, none⟩) hg] at hc2
     have O2 : Hid (Owns w2 w.heap.size 9 1 (.slice A2 n2 c2) (stR (o ++ [key]))) := by rw [stR_append]; exact hO2
     have Z2 : w.heap.size ≤ w2.heap.size := B2.out.size
     clear hO2 hb2 hk2 hw2 e1
     go_wp2_with (at_builtin; refine wpList_append_row rfl (.tmp 36) (.tmp 41) 24 9 (.string ⟨#[]⟩) 1 16 rfl Tryz.underlying24 infoStr rfl (by omega) w.heap.size _ (stR (o ++ [key])) rfl O2.out [.string x] rfl (st_cell x) rfl L3.out (by omega) Z2 ?_; intro v3 w3 hO3 hb3 hk3 hw3; obtain ⟨A3, n3, c3, rfl⟩ := hO3.shape; refine Shut.out ?_)
     unfold Shut
     have O3 : Hid (Owns w3 w.heap.size 9 1 (.slice A3 n3 c3) (stR (o ++ [key] ++ [x]))) := by rw [stR_append (o ++ [key])]; exact hO3
     have B3 : Hid (Below w.heap.size w w3) := B2.out.trans hb3
     clear hO3 hb3 hk3 hw3 hc2
     go_wp2_with fail
     go_roundw
     case rel => exact ⟨k + 1, by omega, by go_num, by rw [HE.out], HJn, by rw [HE.out]; exact O3.out, B3.out⟩
     case measure => simp [intOf]; omega
    ·have HE : Hid (nmS l key (k + 1) = ((nmS l key k).1 ++ [l.getD k default], (nmS l key k).2)) := by
      unfold Hid
      rw [HSe.out, nmF, if_neg hput]
     have hb : (nmS l key k).2 = true ∨ (nmS l key k).2 = false ∧ Op.bytesLess key.toList (l.getD k default).toList = false := by
      cases e : (nmS l key k).2 with
      | true => exact .inl rfl
      | false =>
       refine .inr ⟨rfl, ?_⟩
       cases e2 : Op.bytesLess key.toList (l.getD k default).toList with
       | false => rfl
       | true => exact absurd ⟨e, e2⟩ hput
     clear hput
     generalize (nmS l key k).1 = o at *
     generalize l.getD k default = x at *
     have fin : ∀ (b : Bool) (A3 : Option Addr) (n3 c3 : Nat) (w3 : World), True := fun _ _ _ _ _ => trivial
     clear fin
     rcases hb with hb | ⟨hb, hb2⟩
     ·rw [hb] at HE ⊢
      clear hb
      go_wp2_with (at_builtin; refine wpList_append_row rfl (.tmp 36) (.tmp 41) 24 9 (.string ⟨#[]⟩) 1 16 rfl Tryz.underlying24 infoStr rfl (by omega) w.heap.size _ (stR o) rfl HO.out [.string x] rfl (st_cell x) rfl L2.out (by omega) Z ?_; intro v3 w3 hO3 hb3 hk3 hw3; obtain ⟨A3, n3, c3, rfl⟩ := hO3.shape; refine Shut.out ?_)
      unfold Shut
      have O3 : Hid (Owns w3 w.heap.size 9 1 (.slice A3 n3 c3) (stR (o ++ [x]))) := by rw [stR_append]; exact hO3
      have B3 : Hid (Below w.heap.size w w3) := HBr.out.trans hb3
      clear hO3 hb3 hk3 hw3 e1
      go_wp2_with fail
      go_roundw
      case rel => exact ⟨k + 1, by omega, by go_num, by rw [HE.out], HJn, by rw [HE.out]; exact O3.out, B3.out⟩
      case measure => simp [intOf]; omega
     ·rw [hb] at HE ⊢
      clear hb
      go_wp2_with (at_builtin; refine wpList_append_row rfl (.tmp 36) (.tmp 41) 24 9 (.string ⟨#[]⟩) 1 16 rfl Tryz.underlying24 infoStr rfl (by omega) w.heap.size _ (stR o) rfl HO.out [.string x] rfl (st_cell x) rfl L2.out (by omega) Z ?_; intro v3 w3 hO3 hb3 hk3 hw3; obtain ⟨A3, n3, c3, rfl⟩ := hO3.shape; refine Shut.out ?_)
      unfold Shut
      have O3 : Hid (Owns w3 w.heap.size 9 1 (.slice A3 n3 c3) (stR (o ++ [x]))) := by rw [stR_append]; exact hO3
      have B3 : Hid (Below w.heap.size w w3) := HBr.out.trans hb3
      clear hO3 hb3 hk3 hw3 e1
      go_wp2_with fail
      go_roundw
      case rel => exact ⟨k + 1, by omega, by go_num, by rw [HE.out], HJn, by rw [HE.out]; exact O3.out, B3.out⟩
      case measure => simp [intOf]; omega
  ·obtain rfl : k = n := by omega
   have HF : Hid (nmFin key (nmS l key k) = insK l key) := by
    unfold Hid
    rw [← HN.out]
    refine nm_all fun x hx => ?_
    obtain ⟨j, hj, rfl⟩ := List.getElem_of_mem hx
    rw [getD_at l j hj]
    exact HJ.out j (by rw [← HN.out]; exact hj)
   have HLk : Hid ((nmS l key k).1.length ≤ 2 * k) := HSl.out k hk
   have Z : w.heap.size ≤ wr.heap.size := HBr.out.size
   have L2 : Hid ((stR (nmS l key k).1).length ≤ 2097152) := by have := HLk.out; unfold Hid; rw [stR_length]; omega
   unfold nmFin at HF
   cases hb : (nmS l key k).2 with
   | true =>
    rw [hb] at HF
    go_wp2_with fail
    go_ret
    refine ⟨⟨_, rfl, ?_⟩, HBr.out⟩
    have := HF.out
    simp only [if_true] at this
    rw [← this]
    exact HO.out.mono HB.out
   | false =>
    rw [hb] at HF
    generalize (nmS l key k).1 = o at *
    go_wp2_with (at_builtin; refine wpList_append_row rfl (.tmp 45) (.tmp 47) 24 9 (.string ⟨#[]⟩) 1 16 rfl Tryz.underlying24 infoStr rfl (by omega) w.heap.size _ (stR o) rfl HO.out [.string key] rfl (st_cell key) rfl L2.out (by omega) Z ?_; intro v3 w3 hO3 hb3 hk3 hw3; obtain ⟨A3, n3, c3, rfl⟩ := hO3.shape; refine Shut.out ?_)
    unfold Shut
    have O3 : Hid (Owns w3 w.heap.size 9 1 (.slice A3 n3 c3) (stR (o ++ [key]))) := by rw [stR_append]; exact hO3
    have B3 : Hid (Below w.heap.size w w3) := HBr.out.trans hb3
    clear hO3 hb3 hk3 hw3
    go_wp2_with fail
    go_ret
    refine ⟨⟨_, rfl, ?_⟩, B3.out⟩
    have := HF.out
    rw [if_neg (by simp)] at this
    rw [← this]
    exact O3.out.mono HB.out
end Go.Proofs.YtikknmoeefipmaaGreatDoor
namespace Go.Proofs.YtikknmoeefipmaaGreatDoor
open Go.ChangeShapes Go.WideShapes Go.ChangeAt Go.RowKit Go.PlainAid
set_option linter.unusedVariables false
def preK (ls : List (List Ser)) (i k : Nat) : List ByteArray := keysOf (ls.take i) ++ ((ls.getD i []).take k).map Ser.key
theorem keysOf_snoc (ls : List (List Ser)) (l : List Ser) : keysOf (ls ++ [l]) = keysOf ls ++ l.map Ser.key := by unfold keysOf; rw [List.flatten_append, List.map_append]; simp
theorem preK_zero (ls : List (List Ser)) : preK ls 0 0 = [] := by simp [preK, keysOf]
theorem preK_step (ls : List (List Ser)) (i k : Nat) (h : k < (ls.getD i []).length) : preK ls i (k + 1) = preK ls i k ++ [((ls.getD i []).getD k default).key] := by
 unfold preK
 rw [take_getD _ k h, List.map_append, List.append_assoc]
 rfl
theorem preK_next (ls : List (List Ser)) (i : Nat) (h : i < ls.length) : preK ls i (ls.getD i []).length = preK ls (i + 1) 0 := by
 unfold preK
 rw [List.take_length, List.take_zero, List.map_nil, List.append_nil]
 have e : ls.take (i + 1) = ls.take i ++ [ls.getD i []] := by
  rw [List.take_add_one, List.getElem?_eq_getElem h, List.getD_eq_getElem?_getD, List.getElem?_eq_getElem h]
  rfl
 rw [e, keysOf_snoc]
theorem preK_all (ls : List (List Ser)) : preK ls ls.length 0 = keysOf ls := by
 unfold preK
 rw [List.take_length, List.take_zero, List.map_nil, List.append_nil]
theorem allK_snoc (ks : List ByteArray) (k : ByteArray) : allK (ks ++ [k]) = insK (allK ks) k := by unfold allK; rw [List.foldl_append]; rfl
theorem insK_len (k : ByteArray) : ∀ l : List ByteArray, (insK l k).length ≤ l.length + 1
 | [] => by simp [insK]
 | x :: l => by
  have ih := insK_len k l
  rw [insK]
  split
  ·omega
  ·split
   ·simp
   ·simp; omega
theorem foldK_len : ∀ (ks a : List ByteArray), (ks.foldl insK a).length ≤ a.length + ks.length
 | [], a => by simp
 | k :: ks, a => by
  have h1 := foldK_len ks (insK a k)
  have h2 := insK_len k a
  rw [List.foldl_cons, List.length_cons]
  omega
theorem keysOf_len : ∀ (ls : List (List Ser)), (∀ l ∈ ls, l.length ≤ 10) → (keysOf ls).length ≤ 10 * ls.length
 | [], _ => by simp [keysOf]
 | l :: ls, h => by
  have h1 := keysOf_len ls fun m hm => h m (by simp [hm])
  have h2 := h l (by simp)
  have e : keysOf (l :: ls) = l.map Ser.key ++ keysOf ls := by simp [keysOf]
  rw [e, List.length_append, List.length_map, List.length_cons]
  omega
theorem getD_memL (ls : List (List Ser)) (i : Nat) (h : i < ls.length) : ls.getD i [] ∈ ls := by
 rw [List.getD_eq_getElem?_getD, List.getElem?_eq_getElem h]
 exact List.getElem_mem h
theorem preK_len (ls : List (List Ser)) (hl : ∀ l ∈ ls, l.length ≤ 10) (hn : ls.length ≤ 10) (i k : Nat) (hi : i ≤ ls.length) : (allK (preK ls i k)).length ≤ 200 := by
 have h1 := foldK_len (preK ls i k) []
 have h2 := keysOf_len (ls.take i) fun l hm => hl l (List.mem_of_mem_take hm)
 have h3 : (ls.take i).length ≤ 10 := by rw [List.length_take]; omega
 have h4 : ((ls.getD i []).take k).length ≤ 10 := by
  rw [List.length_take]
  by_cases h : i < ls.length
  ·have := hl _ (getD_memL ls i h)
   omega
  ·have e : ls.getD i [] = [] := by rw [List.getD_eq_getElem?_getD, List.getElem?_eq_none (by omega)]; rfl
   rw [e]; simp
 have h5 : (preK ls i k).length ≤ 200 := by
  unfold preK
  rw [List.length_append, List.length_map]
  omega
 unfold allK
 simp only [List.length_nil] at h1
 omega
set_option maxHeartbeats 2000000 in
theorem specKeys (ls : List (List Ser)) (v : Value) (w : World) (B : Nat) (hv : LayV w B v ls) (hn : ls.length ≤ 10) (hs : ∀ l ∈ ls, l.length ≤ 10) (hB : B ≤ w.heap.size) :
  Calls Tryz.prog 112 #[v] w fun e w' => (∃ u, e = .returned u ∧ Owns w' w.heap.size 9 1 u (stR (keysL ls))) ∧ Below w.heap.size w w' := by
 obtain ⟨A, cap, rfl, hl⟩ := hv.look
 have HL : Hid (∀ j, j < ls.length → ∃ g off u, A = some ⟨g, off, none⟩ ∧ g < B ∧ w.cell? ⟨g, off + j, none⟩ = some u ∧ SerV w B u (ls.getD j [])) := hl
 have HB : Hid (B ≤ w.heap.size) := hB
 have HP : Hid (∀ i k, i ≤ ls.length → (allK (preK ls i k)).length ≤ 200) := fun i k hi => preK_len ls hs hn i k hi
 have H0 : Hid (allK (preK ls 0 0) = []) := by unfold Hid; rw [preK_zero]; rfl
 have HSt : Hid (∀ i k, k < (ls.getD i []).length → allK (preK ls i (k + 1)) = insK (allK (preK ls i k)) ((ls.getD i []).getD k default).key) := fun i k h => by rw [preK_step ls i k h, allK_snoc]
 have HNx : Hid (∀ i, i < ls.length → allK (preK ls i (ls.getD i []).length) = allK (preK ls (i + 1) 0)) := fun i h => by rw [preK_next ls i h]
 have HA : Hid (allK (preK ls ls.length 0) = keysL ls) := by unfold Hid; rw [preK_all]; rfl
 have HL1 : Hid (∀ i, i < ls.length → (ls.getD i []).length ≤ 10) := fun i hi => hs _ (getD_memL ls i hi)
 have q1 : (ls.length : Int) ≤ 10 := by omega
 clear hl hv hs hB hn
 generalize hN : ls.length = n at *
 clear hN
 have BE : Hid (Below w.heap.size w (w.alloc (.cells #[] 9))) := (Below.refl _ w).alloc (Nat.le_refl _) _
 have OE : Hid (Owns (w.alloc (.cells #[] 9)) w.heap.size 9 1 (.slice (some ⟨w.heap.size, 0, none⟩) 0 0) (stR [])) := Owns.empty w w.heap.size 9 1 (Nat.le_refl _)
 go_enter Tryz.func112, Tryz.ntmps112
 go_wp2_with fail
 go_loopw [3, 4] (fun v3 v4 wr => ∃ i : Nat, i ≤ n ∧ v4 = .int .i64 (i : Int) ∧ Owns wr w.heap.size 9 1 v3 (stR (allK (preK ls i 0))) ∧ Below w.heap.size w wr) (fun _ i _ => n - (intOf i).toNat)
 case atStart => exact ⟨0, by omega, rfl, by rw [H0.out]; exact OE.out, BE.out⟩
 case round =>
  obtain ⟨i, hi, rfl, hO, hb⟩ := hrel
  have HO : Hid (Owns wr w.heap.size 9 1 u3 (stR (allK (preK ls i 0)))) := hO
  have HBr : Hid (Below w.heap.size w wr) := hb
  obtain ⟨A3, n3, c3, rfl⟩ := hO.shape
  clear hO hb
  by_cases hlt : i < n
  ·have q4 : (i : Int) < (n : Int) := by omega
   obtain ⟨g, off, u, rfl, hg, e1, hu⟩ := HL.out i hlt
   have hgw : g < w.heap.size := Nat.lt_of_lt_of_le hg HB.out
   have HE1 : Hid (w.cell? ⟨g, off + i, none⟩ = some u) := e1
   obtain ⟨A', c', rfl, hlu⟩ := hu.look
   have HU : Hid (∀ j, j < (ls.getD i []).length → ∃ g off u, A' = some ⟨g, off, none⟩ ∧ g < B ∧ w.cell? ⟨g, off + j * 2, none⟩ = some (.string ((ls.getD i []).getD j default).key) ∧ w.cell? ⟨g, off + j * 2 + 1, none⟩ = some u ∧ Lies w B 2 u (ptR ((ls.getD i []).getD j default).pts)) := hlu
   have hmm := HL1.out i hlt
   have HNi : Hid (allK (preK ls i (ls.getD i []).length) = allK (preK ls (i + 1) 0)) := HNx.out i hlt
   have HSi : Hid (∀ k, k < (ls.getD i []).length → allK (preK ls i (k + 1)) = insK (allK (preK ls i k)) ((ls.getD i []).getD k default).key) := fun k h => HSt.out i k h
   have HPi : Hid (∀ k, (allK (preK ls i k)).length ≤ 200) := fun k => HP.out i k hi
   clear e1 hu hlu
   generalize ls.getD i [] = li at *
   generalize hm : li.length = m at *
   clear hm
   go_wp2_with fail
   go_loopw [3, 5] (fun v3 v5 wr' => ∃ k : Nat, k ≤ m ∧ v5 = .int .i64 (k : Int) ∧ Owns wr' w.heap.size 9 1 v3 (stR (allK (preK ls i k))) ∧ Below w.heap.size w wr') (fun _ i _ => m - (intOf i).toNat)
   case atStart => exact ⟨0, by omega, rfl, HO.out, HBr.out⟩
   case round =>
    obtain ⟨k, hk, rfl, hO, hb⟩ := hrel
    have HO2 : Hid (Owns wr w.heap.size 9 1 u3 (stR (allK (preK ls i k)))) := hO
    have HB2 : Hid (Below w.heap.size w wr) := hb
    obtain ⟨A4, n4, c4, rfl⟩ := hO.shape
    clear hO hb
    have e1 := HE1.out
    rw [← HB2.out.cell (p := ⟨_, _, none⟩) hgw] at e1
    by_cases hkm : k < m
    ·have q5 : (k : Int) < (m : Int) := by omega
     obtain ⟨g2, off2, u2, rfl, hg2, d1, d2, _⟩ := HU.out k hkm
     rw [← HB2.out.cell (p := ⟨_, _, none⟩) (Nat.lt_of_lt_of_le hg2 HB.out)] at d1
     have c1 := specName (allK (preK ls i k)) (li.getD k default).key (.slice A4 n4 c4) wr w.heap.size HO2.out (by have := HPi.out k; omega) (rise_allK _) HB2.out.size
     have HE : Hid (allK (preK ls i (k + 1)) = insK (allK (preK ls i k)) (li.getD k default).key) := HSi.out k hkm
     generalize (li.getD k default).key = x at d1 c1 HE
     go_wp2_with fail
     refine c1.mono ?_
     rintro e w2 ⟨⟨u, rfl, hO⟩, hb⟩
     have O3 : Hid (Owns w2 w.heap.size 9 1 u (stR (allK (preK ls i (k + 1))))) := by unfold Hid; rw [HE.out]; exact hO
     have B3 : Hid (Below w.heap.size w w2) := HB2.out.trans (hb.mono HB2.out.size)
     clear hO hb c1
     go_wp2_with fail
     go_roundw
     case rel => exact ⟨k + 1, by omega, by go_num, O3.out, B3.out⟩
     case measure => simp [intOf]; omega
    ·obtain rfl : k = m := by omega
     go_wp2_with fail
     go_roundw
     case rel => exact ⟨i + 1, by omega, by go_num, by rw [← HNi.out]; exact HO2.out, HB2.out⟩
     case measure => simp [intOf]; omega
  ·obtain rfl : i = n := by omega
   go_wp2_with fail
   go_ret
   refine ⟨⟨_, rfl, ?_⟩, HBr.out⟩
   rw [← HA.out]
   exact HO.out
theorem hasAll_take (ls : List (List Ser)) (key : ByteArray) (i : Nat) (h : i < ls.length) : hasAll (ls.take (i + 1)) key = mrg (hasAll (ls.take i) key) (ptsAt (ls.getD i []) key) := by
 have e : ls.take (i + 1) = ls.take i ++ [ls.getD i []] := by
  rw [List.take_add_one, List.getElem?_eq_getElem h, List.getD_eq_getElem?_getD, List.getElem?_eq_getElem h]
  rfl
 rw [e, hasAll_snoc]
def LFew (ls : List (List Ser)) : Prop := ls.length ≤ 10 ∧ ∀ l ∈ ls, l.length ≤ 10 ∧ ∀ x ∈ l, x.pts.length ≤ 200
theorem ptsAt_few {l : List Ser} (h : ∀ x ∈ l, x.pts.length ≤ 200) (k : ByteArray) : (ptsAt l k).length ≤ 200 := by
 rcases ptsAt_some (k := k) (l := l) with e | ⟨x, hx, _, e⟩
 ·rw [e]; simp
 ·rw [e]; exact h x hx
theorem LFew.has {ls : List (List Ser)} (h : LFew ls) (key : ByteArray) (i : Nat) : (hasAll (ls.take i) key).length ≤ 2000 := by
 have h1 := hasAll_len key 200 (ls.take i) [] fun l hl => ptsAt_few (h.2 l (List.mem_of_mem_take hl)).2 key
 have h2 : (ls.take i).length ≤ 10 := by rw [List.length_take]; have := h.1; omega
 unfold hasAll
 simp only [List.length_nil] at h1
 omega
set_option maxHeartbeats 2000000 in
theorem specHas (ls : List (List Ser)) (f : Int) (key : ByteArray) (v : Value) (w : World) (B : Nat) (hv : LayV w B v ls) (hf : LFew ls) (hB : B ≤ w.heap.size) :
  Calls Tryz.prog 106 #[v, .int .i64 f, .string key] w fun e w' => (∃ u, e = .returned u ∧ Owns w' w.heap.size 90 2 u (ptR ((hasAll ls key).filter (inP f 1099511627777)))) ∧ Below w.heap.size w w' := by
 obtain ⟨A, cap, rfl, hl⟩ := hv.look
 have HL : Hid (∀ j, j < ls.length → ∃ g off u, A = some ⟨g, off, none⟩ ∧ g < B ∧ w.cell? ⟨g, off + j, none⟩ = some u ∧ SerV w B u (ls.getD j [])) := hl
 have HB : Hid (B ≤ w.heap.size) := hB
 have HF : Hid (LFew ls) := hf
 have HH : Hid (∀ i, (hasAll (ls.take i) key).length ≤ 2000) := hf.has key
 have HT : Hid (∀ i, i < ls.length → hasAll (ls.take (i + 1)) key = mrg (hasAll (ls.take i) key) (ptsAt (ls.getD i []) key)) := hasAll_take ls key
 have HA : Hid (hasAll (ls.take ls.length) key = hasAll ls key) := by unfold Hid; rw [List.take_length]
 have H0 : Hid (hasAll (ls.take 0) key = []) := rfl
 have q1 : (ls.length : Int) ≤ 10 := by have := hf.1; omega
 clear hl hv hB hf
 generalize hN : ls.length = n at *
 have HN : Hid (ls.length = n) := hN
 clear hN
 have BE : Hid (Below w.heap.size w (w.alloc (.cells #[] 90))) := (Below.refl _ w).alloc (Nat.le_refl _) _
 have OE : Hid (Owns (w.alloc (.cells #[] 90)) w.heap.size 90 2 (.slice (some ⟨w.heap.size, 0, none⟩) 0 0) (ptR [])) := Owns.empty w w.heap.size 90 2 (Nat.le_refl _)
 go_enter Tryz.func106, Tryz.ntmps106
 go_wp2_with fail
 go_loopw [7, 8] (fun v7 v8 wr => ∃ i : Nat, i ≤ n ∧ v8 = .int .i64 (i : Int) ∧ Owns wr w.heap.size 90 2 v7 (ptR (hasAll (ls.take i) key)) ∧ Below w.heap.size w wr) (fun _ i _ => n - (intOf i).toNat)
 case atStart => exact ⟨0, by omega, rfl, by rw [H0.out]; exact OE.out, BE.out⟩
 case round =>
  obtain ⟨i, hi, rfl, hO, hb⟩ := hrel
  have HO : Hid (Owns wr w.heap.size 90 2 u7 (ptR (hasAll (ls.take i) key))) := hO
  have HBr : Hid (Below w.heap.size w wr) := hb
  obtain ⟨A3, n3, c3, rfl⟩ := hO.shape
  clear hO hb
  by_cases hlt : i < n
  ·have q4 : (i : Int) < (n : Int) := by omega
   obtain ⟨g, off, u, rfl, hg, e1, hu⟩ := HL.out i hlt
   have hgw : g < w.heap.size := Nat.lt_of_lt_of_le hg HB.out
   rw [← HBr.out.cell (p := ⟨_, _, none⟩) hgw] at e1
   have hfi := HF.out.2 _ (getD_memL ls i (by rw [HN.out]; exact hlt))
   have huw : SerV wr B u (ls.getD i []) := hu.on (HBr.out.mono HB.out)
   have c1 := specAt (ls.getD i []) key u wr B huw (by have := hfi.1; omega)
   obtain ⟨A', c', rfl, hlu⟩ := huw.look
   have HU : Hid (∀ j, j < (ls.getD i []).length → ∃ g off u, A' = some ⟨g, off, none⟩ ∧ g < B ∧ wr.cell? ⟨g, off + j * 2, none⟩ = some (.string ((ls.getD i []).getD j default).key) ∧ wr.cell? ⟨g, off + j * 2 + 1, none⟩ = some u ∧ Lies wr B 2 u (ptR ((ls.getD i []).getD j default).pts)) := hlu
   have HTi : Hid (hasAll (ls.take (i + 1)) key = mrg (hasAll (ls.take i) key) (ptsAt (ls.getD i []) key)) := HT.out i hlt
   have HFi : Hid (∀ x ∈ ls.getD i [], x.pts.length ≤ 200) := hfi.2
   have HHi : Hid ((hasAll (ls.take i) key).length ≤ 2000) := HH.out i
   have qm := hfi.1
   clear hu huw hlu hfi
   generalize ls.getD i [] = li at *
   generalize hasAll (ls.take i) key = a at *
   generalize hm : li.length = m at *
   have HM : Hid (li.length = m) := hm
   clear hm
   have qm' : (m : Int) ≤ 10 := by omega
   go_wp2_with fail
   refine c1.mono ?_
   rintro e w2 ⟨⟨r, rfl, HR⟩, rfl⟩
   rcases HR.out with ⟨rfl, hno⟩ | ⟨j, rfl, hj, hk, hnk⟩
   ·have HE : Hid (hasAll (ls.take (i + 1)) key = a) := by unfold Hid; rw [HTi.out, ptsAt_none hno, mrg_nil]
    clear hno HTi c1 HR
    go_wp2_with fail
    go_roundw
    case rel => exact ⟨i + 1, by omega, by go_num, by rw [HE.out]; exact HO.out, HBr.out⟩
    case measure => simp [intOf]; omega
   ·rw [HM.out] at hj
    have q5 : (j : Int) < (m : Int) := by omega
    obtain ⟨g2, off2, u2, rfl, hg2, d1, d2, hu2⟩ := HU.out j hj
    have HE : Hid (hasAll (ls.take (i + 1)) key = mrg a (li.getD j default).pts) := by unfold Hid; rw [HTi.out, ptsAt_at (by rw [HM.out]; exact hj) hk hnk]
    have hpl := HFi.out _ (getD_mem li j (by rw [HM.out]; exact hj))
    have c2 := specMergeL a (li.getD j default).pts (.slice A3 n3 c3) u2 wr wr.heap.size HO.out.lies (hu2.mono (Nat.le_trans HB.out HBr.out.size)) (by have := HHi.out; omega) (Nat.le_refl _)
    obtain ⟨A6, c6, rfl, _⟩ := pt_look hu2
    have Z : Hid (w.heap.size ≤ wr.heap.size) := HBr.out.size
    clear hk hnk HTi c1 HR d1 hu2
    generalize (li.getD j default).pts = pj at *
    generalize pj.length = pl at *
    go_wp2_with fail
    refine c2.mono ?_
    rintro e w2 ⟨⟨u, rfl, hO⟩, hb⟩
    have O3 : Hid (Owns w2 w.heap.size 90 2 u (ptR (hasAll (ls.take (i + 1)) key))) := by unfold Hid; rw [HE.out]; exact hO.mono Z.out
    have B3 : Hid (Below w.heap.size w w2) := HBr.out.trans (hb.mono Z.out)
    clear hO hb c2
    go_wp2_with fail
    go_roundw
    case rel => exact ⟨i + 1, by omega, by go_num, O3.out, B3.out⟩
    case measure => simp [intOf]; omega
  ·obtain rfl : i = n := by omega
   have c2 := specSliceL (hasAll (ls.take i) key) f 1099511627777 (.slice A3 n3 c3) wr wr.heap.size HO.out.lies (by have := HH.out i; omega) (Nat.le_refl _)
   rw [HA.out] at c2
   have Z : Hid (w.heap.size ≤ wr.heap.size) := HBr.out.size
   go_wp2_with fail
   refine c2.mono ?_
   rintro e w2 ⟨⟨u, rfl, hO⟩, hb⟩
   have O3 : Hid (Owns w2 w.heap.size 90 2 u (ptR ((hasAll ls key).filter (inP f 1099511627777)))) := hO.mono Z.out
   have B3 : Hid (Below w.heap.size w w2) := HBr.out.trans (hb.mono Z.out)
   clear hO hb c2
   go_wp2_with fail
   go_ret
   exact ⟨⟨_, rfl, O3.out⟩, B3.out⟩
end Go.Proofs.YtikknmoeefipmaaGreatDoor
namespace Go.Proofs.YtikknmoeefipmaaGreatDoor
open Go.ChangeShapes Go.WideShapes Go.ChangeAt Go.RowKit Go.PlainAid
set_option linter.unusedVariables false
def KeptBut (g : Nat) (w w' : World) : Prop := Below g w w' ∧ ∀ b, b ≠ g → b < w.heap.size → w'.heap[b]? = w.heap[b]?
theorem KeptBut.of {g : Nat} {w w' : World} (h : Below w.heap.size w w') (hg : g < w.heap.size) : KeptBut g w w' := ⟨h.mono (Nat.le_of_lt hg), fun b _ hb => h.block b hb⟩
theorem KeptBut.refl (g : Nat) (w : World) : KeptBut g w w := ⟨Below.refl _ _, fun _ _ _ => rfl⟩
theorem KeptBut.trans {g : Nat} {w w' w'' : World} (h : KeptBut g w w') (h' : KeptBut g w' w'') : KeptBut g w w'' := ⟨h.1.trans h'.1, fun b hb hl => by rw [h'.2 b hb (Nat.lt_of_lt_of_le hl h.1.size), h.2 b hb hl]⟩
theorem KeptBut.set {g : Nat} {w w' : World} (h : KeptBut g w w') (i : Nat) (x : Value) : KeptBut g w (w'.setCell ⟨g, i, none⟩ x) := ⟨h.1.setCell (Nat.le_refl _) _, fun b hb hl => by rw [Below.heap_setCell _ _ _ _ hb]; exact h.2 b hb hl⟩
theorem KeptBut.setNew {g k : Nat} {w w' : World} (h : KeptBut g w w') (hk : w.heap.size ≤ k) (hg : g ≤ k) (i : Nat) (x : Value) : KeptBut g w (w'.setCell ⟨k, i, none⟩ x) := ⟨h.1.setCell hg _, fun b hb hl => by rw [Below.heap_setCell _ _ _ _ (show b ≠ k by omega)]; exact h.2 b hb hl⟩
theorem KeptBut.drew {g : Nat} {w w' : World} (h : KeptBut g w w') : KeptBut g w w'.drew := ⟨h.1.drew, h.2⟩
theorem KeptBut.size {g : Nat} {w w' : World} (h : KeptBut g w w') : w.heap.size ≤ w'.heap.size := h.1.size
theorem KeptBut.owns {g : Nat} {w w' : World} {base : Nat} {e : TypeId} {sz : Nat} {v : Value} {rows : List (List Value)} (h : KeptBut g w w') (ho : Owns w base e sz v rows) (hne : v.ownBlock ≠ some g) : Owns w' base e sz v rows := ho.kept fun k hk hv => h.2 k (fun e => hne (by rw [hv, e])) hk
theorem KeptBut.blk {g b : Nat} {w w' : World} {cs : Array Value} {t : TypeId} (h : KeptBut g w w') (hb : Blk w b cs t) (hne : b ≠ g) : Blk w' b cs t := (h.2 b hne hb.lt).trans hb
theorem Owns.notBlk {w : World} {base : Nat} {e t : TypeId} {sz g : Nat} {cs : Array Value} {v : Value} {rows : List (List Value)} (h : Owns w base e sz v rows) (hb : Blk w g cs t) (hne : e ≠ t) : v.ownBlock ≠ some g := fun hv => by
 rcases h.2.2 with ⟨rfl, _⟩ | ⟨g1, c1, cur1, rfl, _, k1, _⟩
 ·cases hv
 ·cases hv
  rw [hb] at k1
  cases k1
  exact hne rfl
def spC (x : Spot) : List Value := [.string x.key, .int .i64 (x.at' : Int), .int .i64 (x.size : Int), .int .i64 (x.first : Int), .int .i64 (x.last : Int)]
def spR (l : List Spot) : List (List Value) := l.map spC
theorem spR_length (l : List Spot) : (spR l).length = l.length := by simp [spR]
theorem spR_append (l m : List Spot) : spR (l ++ m) = spR l ++ spR m := by simp [spR]
theorem sp_one (x : Spot) : ∀ u ∈ spC x, u.oneCell' = true := by
 intro u hu
 simp only [spC, List.mem_cons, List.not_mem_nil, or_false] at hu
 rcases hu with rfl | rfl | rfl | rfl | rfl <;> rfl
theorem sp_look {w : World} {B : Nat} {v : Value} {l : List Spot} (h : Lies w B 5 v (spR l)) : ∃ A cap, v = .slice A l.length cap ∧ ∀ j, j < l.length → ∃ g off, A = some ⟨g, off, none⟩ ∧ g < B ∧
  w.cell? ⟨g, off + j * 5, none⟩ = some (.string (l.getD j default).key) ∧ w.cell? ⟨g, off + j * 5 + 1, none⟩ = some (.int .i64 ((l.getD j default).at' : Int)) ∧ w.cell? ⟨g, off + j * 5 + 2, none⟩ = some (.int .i64 ((l.getD j default).size : Int)) ∧
  w.cell? ⟨g, off + j * 5 + 3, none⟩ = some (.int .i64 ((l.getD j default).first : Int)) ∧ w.cell? ⟨g, off + j * 5 + 4, none⟩ = some (.int .i64 ((l.getD j default).last : Int)) := by
 obtain ⟨A, cap, e, h⟩ := h.look
 refine ⟨A, cap, by rw [e]; simp [spR], fun j hj => ?_⟩
 rw [← getD_at l j hj]
 obtain ⟨g, off, e, hg, hc⟩ := h j (by simpa [spR] using hj)
 refine ⟨g, off, e, hg, ?_, ?_, ?_, ?_, ?_⟩
 ·have := hc 0 _ (by omega) (by simp [spR, spC]; rfl); simpa [Nat.add_assoc] using this
 ·have := hc 1 _ (by omega) (by simp [spR, spC]; rfl); simpa [Nat.add_assoc] using this
 ·have := hc 2 _ (by omega) (by simp [spR, spC]; rfl); simpa [Nat.add_assoc] using this
 ·have := hc 3 _ (by omega) (by simp [spR, spC]; rfl); simpa [Nat.add_assoc] using this
 ·have := hc 4 _ (by omega) (by simp [spR, spC]; rfl); simpa [Nat.add_assoc] using this
def vSp (x : Spot) : Value := .agg #[.string x.key, .int .i64 (x.at' : Int), .int .i64 (x.size : Int), .int .i64 (x.first : Int), .int .i64 (x.last : Int)]
theorem Tryz.infoSp : (Tryz.prog.info? 180).map (fun i => (i.zero, i.size, i.bytes)) = some (some (.agg #[.string ⟨#[]⟩, .int .i64 0, .int .i64 0, .int .i64 0, .int .i64 0]), 5, 48) := by kernel_rfl
def SpFits (x : Spot) : Prop := x.key.size ≤ 1048576 ∧ x.at' ≤ 562949953421311 ∧ x.size ≤ 562949953421311 ∧ x.first ≤ 562949953421311 ∧ x.last ≤ 562949953421311
def CurB (w : World) (g : Nat) (t : ByteArray) (p : Nat) (ty : TypeId) : Prop := Blk w g #[.string t, .int .i64 (p : Int)] ty
end Go.Proofs.YtikknmoeefipmaaGreatDoor
namespace Go.Proofs.YtikknmoeefipmaaGreatDoor
open Go.ChangeShapes Go.WideShapes Go.ChangeAt Go.RowKit Go.PlainAid
set_option linter.unusedVariables false
set_option maxHeartbeats 1000000 in
theorem placeV (w : World) (g p : Nat) (hc : w.cell? ⟨g, 1, none⟩ = some (.int .i64 (p : Int))) : Calls Tryz.prog 128 #[.pointer (some ⟨g, 0, none⟩)] w fun e w' => e = .returned (.int .i64 (p : Int)) ∧ w = w' := by
 go_enter Tryz.func128, Tryz.ntmps128
 go_wp2
 go_ret
 exact ⟨rfl, rfl⟩
set_option maxHeartbeats 1000000 in
theorem goToV (t : ByteArray) (p a : Nat) (w : World) (g : Nat) (ty : TypeId) (hb : CurB w g t p ty) (hs : t.size ≤ 1048576) (ha : a ≤ 9007199254740992) : Calls Tryz.prog 162 #[.pointer (some ⟨g, 0, none⟩), .int .i64 (a : Int)] w fun e w' => (∃ u, e = .returned u) ∧ w' = w.setCell ⟨g, 1, none⟩ (.int .i64 ((min a t.size : Nat) : Int)) := by
 have c0 : w.cell? ⟨g, 0, none⟩ = some (.string t) := Blk.cell hb 0 _ rfl
 have c1 : w.cell? ⟨g, 1, none⟩ = some (.int .i64 (p : Int)) := Blk.cell hb 1 _ rfl
 have f1 := Blk.free hb 1
 have q0 : (t.size : Int) ≤ 1048576 := by omega
 have q1 : (a : Int) ≤ 9007199254740992 := by omega
 have hm : ((min a t.size : Nat) : Int) = min (a : Int) (t.size : Int) := by omega
 clear hb
 rw [hm]
 go_enter Tryz.func162, Tryz.ntmps162
 go_wp2_with fail
 exact bodyPost_end (v := .tuple #[]) (by simp [results, go_sem]) rfl ⟨⟨_, rfl⟩, rfl⟩
set_option maxHeartbeats 1000000 in
theorem writeV (t part : ByteArray) (w : World) (g p : Nat) (hb : CurB w g t p 177) (hs : t.size + part.size ≤ 1000000) : Calls Tryz.prog 126 #[.pointer (some ⟨g, 0, none⟩), .string part] w fun e w' => (∃ u, e = .returned u) ∧ CurB w' g (t ++ part) (t ++ part).size 177 ∧ KeptBut g w w' := by
 have HB : Hid (CurB w g t p 177) := hb
 have c0 : w.cell? ⟨g, 0, none⟩ = some (.string t) := Blk.cell hb 0 _ rfl
 have f0 := Blk.free hb 0
 have q0 : (t.size : Int) + (part.size : Int) ≤ 1000000 := by omega
 have HN : Hid ((t ++ part).size = t.size + part.size) := ByteArray.size_append
 clear hb hs
 have b1 := Blk.set HB.out 0 (.string (t ++ part))
 have B1 : Hid (CurB (w.setCell ⟨g, 0, none⟩ (.string (t ++ part))) g (t ++ part) p 177) := b1
 have K1 : Hid (KeptBut g w (w.setCell ⟨g, 0, none⟩ (.string (t ++ part)))) := (KeptBut.refl g w).set 0 _
 clear b1
 have q1 : ((t ++ part).size : Int) ≤ 1048576 := by have := HN.out; omega
 generalize htp : t ++ part = tp at *
 generalize hW : w.setCell ⟨g, 0, none⟩ (.string tp) = W1 at *
 have S0 : Hid (W1.drew.cell? ⟨g, 0, none⟩ = some (.string tp)) := Blk.cell B1.out 0 _ rfl
 have c1 := goToV tp p tp.size W1.drew g 177 B1.out (by omega) (by omega)
 have HM : Hid (min tp.size tp.size = tp.size) := Nat.min_self _
 rw [HM.out] at c1
 go_enter Tryz.func126, Tryz.ntmps126
 go_wp2_with fail
 refine wp_region_until (fun w' => w'.cell? ⟨g, 0, none⟩ = some (.string tp)) (fun _ => false) 10 (by rfl) (by kernel_rfl) ?_
 refine tKe 0 (v := ?_) S0.out ?_ ?_; rotate_left; focus (intro w hSw; (try dsimp only at hSw); go_simp; try with_reducible rfl)
 try simp only [Act.put, zQ1, zQ2, zQ3]
 refine tKe 1 (v := ?_) S0.out ?_ ?_; rotate_left; focus (intro w hSw; (try dsimp only at hSw); go_simp; try with_reducible rfl)
 try simp only [Act.put, zQ1, zQ2, zQ3]
 refine tKe 2 (v := ?_) S0.out ?_ ?_; rotate_left; focus (intro w hSw; (try dsimp only at hSw); go_simp; try with_reducible rfl)
 try simp only [Act.put, zQ1, zQ2, zQ3]
 refine tKe 3 (v := ?_) S0.out ?_ ?_; rotate_left; focus (intro w hSw; (try dsimp only at hSw); go_simp; try with_reducible rfl)
 try simp only [Act.put, zQ1, zQ2, zQ3]
 refine tKe 4 (v := ?_) S0.out ?_ ?_; rotate_left; focus (intro w hSw; (try dsimp only at hSw); go_simp; try with_reducible rfl)
 try simp only [Act.put, zQ1, zQ2, zQ3]
 refine tKe 5 (v := ?_) S0.out ?_ ?_; rotate_left; focus (intro w hSw; (try dsimp only at hSw); go_simp; try with_reducible rfl)
 try simp only [Act.put, zQ1, zQ2, zQ3]
 refine tKe 6 (v := ?_) S0.out ?_ ?_; rotate_left; focus (intro w hSw; (try dsimp only at hSw); go_simp; try with_reducible rfl)
 try simp only [Act.put, zQ1, zQ2, zQ3]
 refine tKe 7 (v := ?_) S0.out ?_ ?_; rotate_left; focus (intro w hSw; (try dsimp only at hSw); go_simp; try with_reducible rfl)
 try simp only [Act.put, zQ1, zQ2, zQ3]
 refine tKe 8 (v := ?_) S0.out ?_ ?_; rotate_left; focus (intro w hSw; (try dsimp only at hSw); go_simp; try with_reducible rfl)
 try simp only [Act.put, zQ1, zQ2, zQ3]
 refine uNe 9 (fun K hK => ?_)
 go_simp
 refine c1.mono ?_
 rintro e w2 ⟨⟨u, rfl⟩, rfl⟩
 have B2 : Hid (CurB (W1.drew.setCell ⟨g, 1, none⟩ (.int .i64 (tp.size : Int))) g tp tp.size 177) := Blk.set B1.out 1 _
 have K2 : Hid (KeptBut g w (W1.drew.setCell ⟨g, 1, none⟩ (.int .i64 (tp.size : Int)))) := K1.out.drew.set 1 _
 go_wp2_with fail
 refine hK.out _ _ (fun _ _ => Blk.cell B2.out 0 _ rfl) ?_
 clear hK K
 try simp only [Act.put, zQ1, zQ2, zQ3]
 refine until_done (by kernel_rfl) ?_ _
 go_wp2_with fail
 exact bodyPost_end (v := .tuple #[]) (by simp [results, go_sem]) rfl ⟨⟨_, rfl⟩, B2.out, K2.out⟩
end Go.Proofs.YtikknmoeefipmaaGreatDoor
