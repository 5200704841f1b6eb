/-
  Engines, and what both packages make of them (no program in sight, no condition). · Rows of texts, rows of layers, and engines as values (no program in sight, no condition). · Contracts of spec.l10At and spec.l10Count. · Contracts of spec.l10Name and spec.l10Keys.
-/
import Derived.Test.YtpmgndgkmffcnaaGreatDoorQb15
import Derived.Test.YtpmgndgkmffcnaaGreatDoorRows
import Derived.Test.YtpmgndgkmffcnaaGreatDoorQb4
import Derived.Test.YtpmgndgkmffcnaaGreatDoorQb5
import Derived.WalkKit
import Derived.ProofKit
import Derived.OpenShut
import Derived.Below
import Derived.WalkSmall
import Derived.BigQuiet
import Derived.Deep.QuietTactic
import Derived.Deep.RegionWith
import Derived.Handy
namespace Go.Proofs.YtpmgndgkmffcnaaGreatDoor
open Go.RowKit Go.PlainAid

structure Eng where
  floor : Int
  cache : List Ser
  files : List ByteArray
theorem Eng.same {x y : Eng} (h1 : x.floor = y.floor) (h2 : x.cache = y.cache) (h3 : x.files = y.files) : x = y := by
  cases x
  cases y
  simp only at h1 h2 h3
  subst h1
  subst h2
  subst h3
  rfl
/-- A text that ReadFile takes. -/
def isF (s : ByteArray) : Prop := ∃ m, GoodF s m
open Classical in
/-- Its series. -/
noncomputable def fileM (s : ByteArray) : List Ser := if h : ∃ m, GoodF s m then Classical.choose h else []
theorem fileM_is {s : ByteArray} {m : List Ser} (h : GoodF s m) : fileM s = m := by
  have hx : ∃ m, GoodF s m := ⟨m, h⟩
  unfold fileM
  rw [dif_pos hx]
  exact (Classical.choose_spec hx).one h
theorem isF.good {s : ByteArray} (h : isF s) : GoodF s (fileM s) := by
  obtain ⟨m, hm⟩ := h
  rw [fileM_is hm]
  exact hm
noncomputable def laysF (fs : List ByteArray) : List (List Ser) := fs.map fileM
noncomputable def lays (e : Eng) : List (List Ser) := laysF e.files ++ [e.cache]
theorem laysF_snoc (fs : List ByteArray) (s : ByteArray) : laysF (fs ++ [s]) = laysF fs ++ [fileM s] := by unfold laysF; rw [List.map_append]; rfl
noncomputable def plainE (e : Eng) : List Ser := plainR (lays e) e.floor
/-- How many points there are. -/
def cntS (l : List Ser) : Nat := (l.map fun x => x.pts.length).sum
theorem cntS_snoc (l : List Ser) (k : Nat) (h : k < l.length) : cntS (l.take (k + 1)) = cntS (l.take k) + (l.getD k default).pts.length := by
  unfold cntS
  rw [take_getD l k h, List.map_append, List.sum_append]
  simp
def PreOk (e : Eng) : Prop := (0 ≤ e.floor ∧ e.floor ≤ 1099511627776) ∧ e.files.length ≤ 4 ∧ SOk e.cache ∧ cntS e.cache ≤ 40 ∧ ∀ x ∈ e.cache, e.floor ≤ tAt x.pts 0
/-- An engine is right. -/
def EOk (e : Eng) : Prop := PreOk e ∧ (∀ s ∈ e.files, isF s) ∧ SOk (plainE e)
open Classical in
noncomputable def plainX (e : Eng) : List Ser := if EOk e then plainE e else []
open Classical in
noncomputable def queryX (e : Eng) (k : ByteArray) (a b : Int) : List Pnt := if EOk e then (has (lays e) e.floor k).filter (inP a b) else []
/-! ### The specification's own words -/
theorem len_pos {α : Type} {l : List α} (h : l ≠ []) : 1 ≤ l.length := by
  cases l with
  | nil => exact absurd rfl h
  | cons x l => simp
end Go.Proofs.YtpmgndgkmffcnaaGreatDoor

namespace Go.Proofs.YtpmgndgkmffcnaaGreatDoor
open Go.RowKit Go.PlainAid

def stC (s : ByteArray) : List Value := [.string s]
def stR (l : List ByteArray) : List (List Value) := l.map stC
theorem stR_length (l : List ByteArray) : (stR l).length = l.length := by simp [stR]
theorem stR_append (l m : List ByteArray) : stR (l ++ m) = stR l ++ stR m := by simp [stR]
theorem stR_flat (l : List ByteArray) : (stR l).flatten = strCells l := by
  induction l with
  | nil => rfl
  | cons x l ih => simp only [stR, strCells, List.map_cons, List.flatten_cons] at ih ⊢; rw [ih]; rfl
theorem stR_sz (l : List ByteArray) : ∀ r ∈ stR l, r.length = 1 := by
  intro r hr
  obtain ⟨x, _, rfl⟩ := List.mem_map.1 hr
  rfl
theorem st_one (l : List ByteArray) : ∀ r ∈ stR l, ∀ y ∈ r, y.oneCell' = true := by
  intro r hr y hy
  obtain ⟨x, _, rfl⟩ := List.mem_map.1 hr
  simp only [stC, List.mem_cons, List.not_mem_nil, or_false] at hy
  rw [hy]; rfl
theorem owns_strs {w : World} {base : Nat} {v : Value} {l : List ByteArray} (h : Owns w base 9 1 v (stR l)) : Strs w base v l := by
  have := h.2
  rw [stR_length, stR_flat] at this
  exact this
theorem strs_owns {w : World} {base : Nat} {v : Value} {l : List ByteArray} (h : Strs w base v l) : Owns w base 9 1 v (stR l) := ⟨stR_sz l, by rw [stR_length, stR_flat]; exact h⟩
theorem st_look {w : World} {B : Nat} {v : Value} {l : List ByteArray} (h : Lies w B 1 v (stR l)) : ∃ A cap, v = .slice A l.length cap ∧ ∀ j, j < l.length → ∃ g off, A = some ⟨g, off, none⟩ ∧ g < B ∧ w.cell? ⟨g, off + j, none⟩ = some (.string (l.getD j default)) := by
  obtain ⟨A, cap, e, h⟩ := h.look
  refine ⟨A, cap, by rw [e]; simp [stR], fun j hj => ?_⟩
  rw [← getD_at l j hj]
  obtain ⟨g, off, e, hg, hc⟩ := h j (by simpa [stR] using hj)
  refine ⟨g, off, e, hg, ?_⟩
  have := hc 0 _ (by omega) (by simp [stR, stC]; rfl)
  simpa using this
theorem st_cells {w : World} {B n c : Nat} {A : Option Addr} {l : List ByteArray} (h : Lies w B 1 (.slice A n c) (stR l)) : ∀ j, j < l.length → ∃ g off, A = some ⟨g, off, none⟩ ∧ g < B ∧ w.cell? ⟨g, off + j, none⟩ = some (.string (l.getD j default)) := by
  obtain ⟨A', c', e, hl⟩ := st_look h
  cases e
  exact hl
/-- Rows of values of one cell. -/
def laR (us : List Value) : List (List Value) := us.map fun u => [u]
theorem laR_length (us : List Value) : (laR us).length = us.length := by simp [laR]
theorem laR_append (l m : List Value) : laR (l ++ m) = laR l ++ laR m := by simp [laR]
theorem la_look {w : World} {B : Nat} {v : Value} {us : List Value} (h : Lies w B 1 v (laR us)) : ∃ A cap, v = .slice A us.length cap ∧ ∀ j, j < us.length → ∃ g off, A = some ⟨g, off, none⟩ ∧ g < B ∧ w.cell? ⟨g, off + j, none⟩ = some (us.getD j default) := by
  obtain ⟨A, cap, e, h⟩ := h.look
  refine ⟨A, cap, by rw [e]; simp [laR], fun j hj => ?_⟩
  rw [← getD_at us j hj]
  obtain ⟨g, off, e, hg, hc⟩ := h j (by simpa [laR] using hj)
  refine ⟨g, off, e, hg, ?_⟩
  have := hc 0 _ (by omega) (by simp [laR]; rfl)
  simpa using this
/-- Layers of series, each behind a slice. -/
def LayL (w : World) (B : Nat) (us : List Value) (ls : List (List Ser)) : Prop := us.length = ls.length ∧ ∀ j, j < ls.length → SerV w B (us.getD j default) (ls.getD j [])
def LayV (w : World) (B : Nat) (v : Value) (ls : List (List Ser)) : Prop := ∃ us, Lies w B 1 v (laR us) ∧ LayL w B us ls
theorem LayL.on {w w' : World} {B : Nat} {us : List Value} {ls : List (List Ser)} (h : LayL w B us ls) (hb : Below B w w') : LayL w' B us ls := ⟨h.1, fun j hj => (h.2 j hj).on hb⟩
theorem LayL.mono {w : World} {B C : Nat} {us : List Value} {ls : List (List Ser)} (h : LayL w B us ls) (hB : B ≤ C) : LayL w C us ls := ⟨h.1, fun j hj => (h.2 j hj).mono hB⟩
theorem LayV.on {w w' : World} {B : Nat} {v : Value} {ls : List (List Ser)} (h : LayV w B v ls) (hb : Below B w w') : LayV w' B v ls := h.imp fun _ h => ⟨h.1.on hb, h.2.on hb⟩
theorem LayV.mono {w : World} {B C : Nat} {v : Value} {ls : List (List Ser)} (h : LayV w B v ls) (hB : B ≤ C) : LayV w C v ls := h.imp fun _ h => ⟨h.1.mono hB, h.2.mono hB⟩
theorem LayL.snoc {w : World} {B : Nat} {us : List Value} {ls : List (List Ser)} (h : LayL w B us ls) {u : Value} {l : List Ser} (hu : SerV w B u l) : LayL w B (us ++ [u]) (ls ++ [l]) := by
  refine ⟨by simp [h.1], fun j hj => ?_⟩
  rw [List.length_append, List.length_singleton] at hj
  by_cases e : j < ls.length
  · rw [List.getD_eq_getElem?_getD, List.getD_eq_getElem?_getD, List.getElem?_append_left (by rw [h.1]; exact e), List.getElem?_append_left e, ← List.getD_eq_getElem?_getD, ← List.getD_eq_getElem?_getD]
    exact h.2 j e
  · obtain rfl : j = ls.length := by omega
    rw [List.getD_eq_getElem?_getD, List.getD_eq_getElem?_getD, List.getElem?_append_right (by rw [h.1]; exact Nat.le_refl _), List.getElem?_append_right (Nat.le_refl _), h.1, Nat.sub_self]
    exact hu
theorem LayV.look {w : World} {B : Nat} {v : Value} {ls : List (List Ser)} (h : LayV w B v ls) : ∃ A cap, v = .slice A ls.length cap ∧ ∀ j, j < ls.length → ∃ g off u, A = some ⟨g, off, none⟩ ∧ g < B ∧ w.cell? ⟨g, off + j, none⟩ = some u ∧ SerV w B u (ls.getD j []) := by
  obtain ⟨us, h1, h2⟩ := h
  obtain ⟨A, cap, e, hl⟩ := la_look h1
  refine ⟨A, cap, by rw [e, h2.1], fun j hj => ?_⟩
  obtain ⟨g, off, e, hg, hc⟩ := hl j (by rw [h2.1]; exact hj)
  exact ⟨g, off, _, e, hg, hc, h2.2 j hj⟩
/-- The value of an engine. -/
def vE (f : Int) (vc vf : Value) : Value := .agg #[.int .i64 f, vc, vf]
/-- An engine that lies somewhere. -/
def EngV (w : World) (B : Nat) (v : Value) (e : Eng) : Prop := ∃ vc vf, v = vE e.floor vc vf ∧ SerV w B vc e.cache ∧ Lies w B 1 vf (stR e.files)
theorem EngV.on {w w' : World} {B : Nat} {v : Value} {e : Eng} (h : EngV w B v e) (hb : Below B w w') : EngV w' B v e := by
  obtain ⟨vc, vf, h1, h2, h3⟩ := h
  exact ⟨vc, vf, h1, h2.on hb, h3.on hb⟩
theorem EngV.mono {w : World} {B C : Nat} {v : Value} {e : Eng} (h : EngV w B v e) (hB : B ≤ C) : EngV w C v e := by
  obtain ⟨vc, vf, h1, h2, h3⟩ := h
  exact ⟨vc, vf, h1, h2.mono hB, h3.mono hB⟩
/-- An engine of the call's own. -/
def EngO (w : World) (base : Nat) (v : Value) (e : Eng) : Prop := ∃ vc vf L, v = vE e.floor vc vf ∧ L.map Prod.fst = e.cache ∧ SerO w base vc L ∧ Strs w base vf e.files
theorem EngO.view {w : World} {base : Nat} {v : Value} {e : Eng} (h : EngO w base v e) : EngV w w.heap.size v e := by
  obtain ⟨vc, vf, L, h1, h2, h3, h4⟩ := h
  exact ⟨vc, vf, h1, by rw [← h2]; exact h3.view, (strs_owns h4).lies⟩
theorem EngO.on {w w' : World} {base : Nat} {v : Value} {e : Eng} (h : EngO w base v e) (hb : Below w.heap.size w w') : EngO w' base v e := by
  obtain ⟨vc, vf, L, h1, h2, h3, h4⟩ := h
  exact ⟨vc, vf, L, h1, h2, h3.on hb, h4.on hb⟩
theorem EngO.mono {w : World} {base base' : Nat} {v : Value} {e : Eng} (h : EngO w base v e) (hb : base' ≤ base) : EngO w base' v e := by
  obtain ⟨vc, vf, L, h1, h2, h3, h4⟩ := h
  exact ⟨vc, vf, L, h1, h2, h3.mono hb, h4.mono hb⟩
/-- The engine is short. -/
def EShort (e : Eng) : Prop := SShort e.cache ∧ (∀ x ∈ e.cache, x.key.size ≤ maxLen) ∧ e.files.length ≤ 1048576 ∧ ∀ s ∈ e.files, s.size ≤ 1048576
end Go.Proofs.YtpmgndgkmffcnaaGreatDoor

namespace Go.Proofs.YtpmgndgkmffcnaaGreatDoor
open Go.ChangeShapes Go.WideShapes Go.ChangeAt Go.RowKit Go.PlainAid
set_option linter.unusedVariables false

/-- Where a key stands in series, or -1. -/
def AtR (l : List Ser) (k : ByteArray) (r : Int) : Prop := (r = -1 ∧ ∀ x ∈ l, x.key ≠ k) ∨ ∃ j : Nat, r = (j : Int) ∧ j < l.length ∧ (l.getD j default).key = k ∧ ∀ i, i < j → (l.getD i default).key ≠ k
theorem ptsAt_at {k : ByteArray} : ∀ {l : List Ser} {j : Nat}, j < l.length → (l.getD j default).key = k → (∀ i, i < j → (l.getD i default).key ≠ k) → ptsAt l k = (l.getD j default).pts
  | x :: l, 0, _, h, _ => by
    have hx : x.key = k := h
    rw [ptsAt, if_pos hx]
    rfl
  | x :: l, j + 1, hj, h, hi => by
    have hx : x.key ≠ k := hi 0 (by omega)
    rw [ptsAt, if_neg hx]
    exact ptsAt_at (l := l) (by simpa using hj) h fun i h' => hi (i + 1) (by omega)
set_option maxHeartbeats 1000000 in
theorem specAt (l : List Ser) (key : ByteArray) (v : Value) (w : World) (B : Nat) (hv : SerV w B v l) (hn : l.length ≤ 1048576) :
    Calls Tryz.prog 74 #[v, .string key] w fun e w' => (∃ r : Int, e = .returned (.int .i64 r) ∧ Hid (AtR l key r)) ∧ w = w' := by
  obtain ⟨A, cap, rfl, hl⟩ := hv.look
  have HL : Hid (∀ j, j < l.length → ∃ g off u, A = some ⟨g, off, none⟩ ∧ g < B ∧ w.cell? ⟨g, off + j * 2, none⟩ = some (.string (l.getD j default).key) ∧ w.cell? ⟨g, off + j * 2 + 1, none⟩ = some u ∧ Lies w B 2 u (ptR (l.getD j default).pts)) := hl
  have q1 : (l.length : Int) ≤ 1048576 := by omega
  clear hl hv hn
  generalize hN : l.length = n at *
  have HN : Hid (l.length = n) := hN
  clear hN
  go_enter Tryz.func74, Tryz.ntmps74
  go_wp2_with fail
  go_loop [5] (fun v5 => ∃ k : Nat, k ≤ n ∧ v5 = .int .i64 (k : Int) ∧ Hid (∀ i, i < k → (l.getD i default).key ≠ key)) (fun i => n - (intOf i).toNat)
  case atStart => exact ⟨0, by omega, rfl, fun i hi => by omega⟩
  case round =>
    obtain ⟨k, hk, rfl, HJ⟩ := hrel
    by_cases hlt : k < n
    · have q4 : (k : Int) < (n : Int) := by omega
      obtain ⟨g, off, u, rfl, hg, e1, e2, _⟩ := HL.out k hlt
      by_cases hkey : (l.getD k default).key = key
      · have HF : Hid (AtR l key (k : Int)) := .inr ⟨k, rfl, by rw [HN.out]; exact hlt, hkey, HJ.out⟩
        rw [hkey] at e1
        clear hkey
        go_wp2_with fail
        go_ret
        exact ⟨⟨_, rfl, HF⟩, rfl⟩
      · have HK : Hid ((l.getD k default).key ≠ key) := hkey
        have hne := bytes_ne hkey
        clear hkey
        generalize (l.getD k default).key = xk at e1 hne
        go_wp2_with fail
        go_round
        case rel =>
          refine ⟨k + 1, by omega, by go_num, fun i hi => ?_⟩
          by_cases e : i = k
          · rw [e]; exact HK.out
          · exact HJ.out i (by omega)
        case measure => simp [intOf]; omega
    · obtain rfl : k = n := by omega
      have HF : Hid (AtR l key (-1)) := .inl ⟨rfl, fun x hx => by
        obtain ⟨j, hj, rfl⟩ := List.getElem_of_mem hx
        rw [getD_at l j hj]
        exact HJ.out j (by rw [← HN.out]; exact hj)⟩
      go_wp2_with fail
      go_ret
      exact ⟨⟨_, rfl, HF⟩, rfl⟩
theorem cntS_le (l : List Ser) (h : ∀ x ∈ l, x.pts.length ≤ 1000) : ∀ k, k ≤ l.length → cntS (l.take k) ≤ 1000 * k
  | 0, _ => by simp [cntS]
  | k + 1, hk => by
    have ih := cntS_le l h k (by omega)
    have := h _ (getD_mem l k (by omega))
    rw [cntS_snoc l k (by omega)]
    omega
set_option maxHeartbeats 1000000 in
theorem specCount (l : List Ser) (v : Value) (w : World) (B : Nat) (hv : SerV w B v l) (hn : l.length ≤ 1000) (hs : ∀ x ∈ l, x.pts.length ≤ 1000) :
    Calls Tryz.prog 38 #[v] w fun e w' => e = .returned (.int .i64 (cntS l : Int)) ∧ w = w' := by
  obtain ⟨A, cap, rfl, hl⟩ := hv.look
  have HL : Hid (∀ j, j < l.length → ∃ g off u, A = some ⟨g, off, none⟩ ∧ g < B ∧ w.cell? ⟨g, off + j * 2, none⟩ = some (.string (l.getD j default).key) ∧ w.cell? ⟨g, off + j * 2 + 1, none⟩ = some u ∧ Lies w B 2 u (ptR (l.getD j default).pts)) := hl
  have HC : Hid (∀ k, k ≤ l.length → cntS (l.take k) ≤ 1000 * k) := cntS_le l hs
  have HS : Hid (∀ k, k < l.length → cntS (l.take (k + 1)) = cntS (l.take k) + (l.getD k default).pts.length) := fun k hk => cntS_snoc l k hk
  have HT : Hid (∀ k, k = l.length → cntS (l.take k) = cntS l) := fun k hk => by rw [hk, List.take_length]
  have HM : Hid (∀ k, k < l.length → (l.getD k default).pts.length ≤ 1000) := fun k hk => hs _ (getD_mem l k hk)
  have H0 : Hid (cntS (l.take 0) = 0) := by simp [Hid, cntS]
  have q1 : (l.length : Int) ≤ 1000 := by omega
  clear hl hv hs
  generalize hN : l.length = n at *
  clear hN
  go_enter Tryz.func38, Tryz.ntmps38
  go_wp2_with fail
  go_loop [3, 4] (fun v3 v4 => ∃ k : Nat, k ≤ n ∧ v4 = .int .i64 (k : Int) ∧ v3 = .int .i64 (cntS (l.take k) : Int)) (fun _ i => n - (intOf i).toNat)
  case atStart => exact ⟨0, by omega, rfl, by rw [H0.out]; rfl⟩
  case round =>
    obtain ⟨k, hk, rfl, rfl⟩ := hrel
    by_cases hlt : k < n
    · have q4 : (k : Int) < (n : Int) := by omega
      obtain ⟨g, off, u, rfl, hg, e1, e2, hu⟩ := HL.out k hlt
      obtain ⟨A', c', rfl, _⟩ := pt_look hu
      have h1 := HC.out k hk
      have h2 := HM.out k hlt
      have h3 := HS.out k hlt
      have HE : Hid (cntS (l.take (k + 1)) = cntS (l.take k) + (l.getD k default).pts.length) := h3
      clear hu h3
      generalize cntS (l.take k) = c at *
      generalize (l.getD k default).pts.length = p at *
      have q5 : (c : Int) ≤ 1000000 := by omega
      have q6 : (p : Int) ≤ 1000 := by omega
      have w2 : wrap64 ((c : Int) + (p : Int)) = (c : Int) + (p : Int) := by unfold wrap64; omega
      go_wp2_with fail
      go_round
      case rel => exact ⟨k + 1, by omega, by go_num, by rw [HE.out]; go_num⟩
      case measure => simp [intOf]; omega
    · obtain rfl : k = n := by omega
      have HE := HT.out k rfl
      go_wp2_with fail
      go_ret
      exact ⟨rfl, rfl⟩
end Go.Proofs.YtpmgndgkmffcnaaGreatDoor

namespace Go.Proofs.YtpmgndgkmffcnaaGreatDoor
open Go.ChangeShapes Go.WideShapes Go.ChangeAt Go.RowKit Go.PlainAid
set_option linter.unusedVariables false

theorem infoStr : (Tryz.prog.info? 9).map (fun i => (i.zero, i.size, i.bytes)) = some (some (.string ⟨#[]⟩), 1, 16) := by kernel_rfl
/-- One step of l10Name. -/
def nmF (key : ByteArray) (s : List ByteArray × Bool) (x : ByteArray) : List ByteArray × Bool := if s.2 = false ∧ ahd key x = true then (s.1 ++ [key] ++ [x], true) else (s.1 ++ [x], s.2)
/-- What it has behind the first k. -/
def nmS (l : List ByteArray) (key : ByteArray) (k : Nat) : List ByteArray × Bool := (l.take k).foldl (nmF key) ([], false)
theorem nmS_succ (l : List ByteArray) (key : ByteArray) (k : Nat) (h : k < l.length) : nmS l key (k + 1) = nmF key (nmS l key k) (l.getD k default) := by
  unfold nmS
  rw [take_getD l k h, List.foldl_append]
  rfl
def nmFin (key : ByteArray) (s : List ByteArray × Bool) : List ByteArray := if s.2 then s.1 else s.1 ++ [key]
theorem nm_done (key : ByteArray) : ∀ (l o : List ByteArray), l.foldl (nmF key) (o, true) = (o ++ l, true)
  | [], o => by simp
  | x :: l, o => by
    have e : nmF key (o, true) x = (o ++ [x], true) := by simp [nmF]
    rw [List.foldl_cons, e, nm_done key l]
    simp
theorem nm_open (key : ByteArray) : ∀ (l o : List ByteArray), (∀ x ∈ l, x ≠ key) → nmFin key (l.foldl (nmF key) (o, false)) = o ++ insK l key
  | [], o, _ => by simp [nmFin, insK]
  | x :: l, o, h => by
    have hx := h x (by simp)
    by_cases h2 : ahd key x = true
    · have e : nmF key (o, false) x = (o ++ [key] ++ [x], true) := by simp [nmF, h2]
      rw [List.foldl_cons, e, nm_done, insK, if_neg hx, if_pos h2]
      simp [nmFin]
    · have e : nmF key (o, false) x = (o ++ [x], false) := by simp [nmF, h2]
      rw [List.foldl_cons, e, nm_open key l _ fun y hy => h y (by simp [hy]), insK, if_neg hx, if_neg h2]
      simp
theorem nm_all {l : List ByteArray} {key : ByteArray} (h : ∀ x ∈ l, x ≠ key) : nmFin key (nmS l key l.length) = insK l key := by
  unfold nmS
  rw [List.take_length, nm_open key l [] h, List.nil_append]
theorem insK_mem {key : ByteArray} : ∀ {l : List ByteArray}, RiseK l → key ∈ l → insK l key = l
  | x :: l, hl, h => by
    have hl' := List.pairwise_cons.1 hl
    by_cases e : x = key
    · rw [insK, if_pos e]
    · have hk : key ∈ l := by
        rcases List.mem_cons.1 h with e2 | h2
        · exact absurd e2.symm e
        · exact h2
      have h2 : ¬ ahd key x = true := fun h2 => absurd rfl (ahd_ne (ahd_trans h2 (hl'.1 key hk)))
      rw [insK, if_neg e, if_neg h2, insK_mem hl'.2 hk]
theorem nmS_len (l : List ByteArray) (key : ByteArray) : ∀ k, k ≤ l.length → (nmS l key k).1.length ≤ 2 * k
  | 0, _ => by simp [nmS]
  | k + 1, h => by
    have ih := nmS_len l key k (by omega)
    rw [nmS_succ l key k (by omega), nmF]
    split
    · simp; omega
    · simp; omega
theorem st_cell (x : ByteArray) : ∀ u ∈ ([.string x] : List Value), u.oneCell' = true := by
  intro u hu
  simp only [List.mem_cons, List.not_mem_nil, or_false] at hu
  rw [hu]; rfl
set_option maxHeartbeats 2000000 in
theorem specName (l : List ByteArray) (key : ByteArray) (v : Value) (w : World) (base : Nat) (hv : Owns w base 9 1 v (stR l)) (hn : l.length ≤ 1000) (hr : RiseK l) (hb : base ≤ w.heap.size) :
    Calls Tryz.prog 84 #[v, .string key] w fun e w' => (∃ u, e = .returned u ∧ Owns w' base 9 1 u (stR (insK l key))) ∧ Below w.heap.size w w' := by
  obtain ⟨A, cap, rfl, hl⟩ := st_look hv.lies
  have HV : Hid (Owns w base 9 1 (.slice A l.length cap) (stR l)) := hv
  have HL : Hid (∀ j, j < l.length → ∃ g off, A = some ⟨g, off, none⟩ ∧ g < w.heap.size ∧ w.cell? ⟨g, off + j, none⟩ = some (.string (l.getD j default))) := hl
  have HR : Hid (RiseK l) := hr
  have HB : Hid (base ≤ w.heap.size) := hb
  have HS : Hid (∀ k, k < l.length → nmS l key (k + 1) = nmF key (nmS l key k) (l.getD k default)) := fun k hk => nmS_succ l key k hk
  have HSl : Hid (∀ k, k ≤ l.length → (nmS l key k).1.length ≤ 2 * k) := nmS_len l key
  have q1 : (l.length : Int) ≤ 1000 := by omega
  clear hl hv hr hb hn
  generalize hN : l.length = n at *
  have HN : Hid (l.length = n) := hN
  clear hN
  have BE : Hid (Below w.heap.size w (w.alloc (.cells #[] 9))) := (Below.refl _ w).alloc (Nat.le_refl _) _
  have OE : Hid (Owns (w.alloc (.cells #[] 9)) w.heap.size 9 1 (.slice (some ⟨w.heap.size, 0, none⟩) 0 0) (stR [])) := Owns.empty w w.heap.size 9 1 (Nat.le_refl _)
  go_enter Tryz.func84, Tryz.ntmps84
  go_wp2_with fail
  go_loopw [5, 6, 7] (fun v5 v6 v7 wr => ∃ k : Nat, k ≤ n ∧ v7 = .int .i64 (k : Int) ∧ v6 = .bool (nmS l key k).2 ∧ Hid (∀ i, i < k → l.getD i default ≠ key) ∧ Owns wr w.heap.size 9 1 v5 (stR (nmS l key k).1) ∧ Below w.heap.size w wr) (fun _ _ i _ => n - (intOf i).toNat)
  case atStart => exact ⟨0, by omega, rfl, rfl, fun i hi => by omega, OE.out, BE.out⟩
  case round =>
    obtain ⟨k, hk, rfl, rfl, HJ, hO, hB⟩ := hrel
    have HO : Hid (Owns wr w.heap.size 9 1 u5 (stR (nmS l key k).1)) := hO
    have HBr : Hid (Below w.heap.size w wr) := hB
    obtain ⟨A5, n5, c5, rfl⟩ := hO.shape
    clear hO hB
    by_cases hlt : k < n
    · have q4 : (k : Int) < (n : Int) := by omega
      obtain ⟨g, off, rfl, hg, e1⟩ := HL.out k hlt
      rw [← HBr.out.cell (p := ⟨_, _, none⟩) hg] at e1
      by_cases hkey : l.getD k default = key
      · have HF : Hid (insK l key = l) := insK_mem HR.out (by rw [← hkey]; exact getD_mem l k (by rw [HN.out]; exact hlt))
        rw [hkey] at e1
        clear hkey
        go_wp2_with fail
        go_ret
        refine ⟨⟨_, rfl, ?_⟩, HBr.out⟩
        rw [HF.out]
        exact HV.out.on HBr.out
      · have HK : Hid (l.getD k default ≠ key) := hkey
        have hne := bytes_ne hkey
        have HSk := HS.out k hlt
        have HLk := HSl.out k hk
        have HSe : Hid (nmS l key (k + 1) = nmF key (nmS l key k) (l.getD k default)) := HSk
        have HJn : Hid (∀ i, i < k + 1 → l.getD i default ≠ key) := fun i hi => by
          by_cases e : i = k
          · rw [e]; exact HK.out
          · exact HJ.out i (by omega)
        clear hkey HSk HJ HK
        have Z : w.heap.size ≤ wr.heap.size := HBr.out.size
        have L2 : Hid ((stR (nmS l key k).1).length ≤ 2097152) := by unfold Hid; rw [stR_length]; omega
        clear HLk
        by_cases hput : (nmS l key k).2 = false ∧ ahd key (l.getD k default) = true
        · have HE : Hid (nmS l key (k + 1) = ((nmS l key k).1 ++ [key] ++ [l.getD k default], true)) := by
            unfold Hid
            rw [HSe.out, nmF, if_pos hput]
          have HLk : Hid ((nmS l key k).1.length ≤ 2 * k) := HSl.out k hk
          obtain ⟨hp1, hp2⟩ := hput
          unfold ahd at hp2
          rw [hp1]
          generalize (nmS l key k).1 = o at *
          generalize l.getD k default = x at *
          have hW : ∀ z : World, Hid (w.heap.size ≤ z.heap.size ∧ (stR (o ++ [key])).length ≤ 2097152) → True := fun _ _ => trivial
          have L3 : Hid ((stR (o ++ [key])).length ≤ 2097152) := by have := HLk.out; unfold Hid; rw [stR_length, List.length_append, List.length_singleton]; omega
          clear hW hp1
          go_wp2_with (at_builtin; refine wpList_append_row rfl (.tmp 32) (.tmp 34) 23 9 (.string ⟨#[]⟩) 1 16 rfl Tryz.underlying23 infoStr rfl (by omega) w.heap.size _ (stR o) rfl HO.out [.string key] rfl (st_cell key) rfl L2.out (by omega) Z ?_; intro v' w2 hO2 hb2 hk2 hw2; obtain ⟨A2, n2, c2, rfl⟩ := hO2.shape; refine Shut.out ?_)
          unfold Shut
          have B2 : Hid (Below w.heap.size w w2) := HBr.out.trans hb2
          have hc2 := e1
          rw [← hb2.cell (p := ⟨_, _, none⟩) hg] at hc2
          have O2 : Hid (Owns w2 w.heap.size 9 1 (.slice A2 n2 c2) (stR (o ++ [key]))) := by rw [stR_append]; exact hO2
          have Z2 : w.heap.size ≤ w2.heap.size := B2.out.size
          clear hO2 hb2 hk2 hw2 e1
          go_wp2_with (at_builtin; refine wpList_append_row rfl (.tmp 36) (.tmp 41) 23 9 (.string ⟨#[]⟩) 1 16 rfl Tryz.underlying23 infoStr rfl (by omega) w.heap.size _ (stR (o ++ [key])) rfl O2.out [.string x] rfl (st_cell x) rfl L3.out (by omega) Z2 ?_; intro v3 w3 hO3 hb3 hk3 hw3; obtain ⟨A3, n3, c3, rfl⟩ := hO3.shape; refine Shut.out ?_)
          unfold Shut
          have O3 : Hid (Owns w3 w.heap.size 9 1 (.slice A3 n3 c3) (stR (o ++ [key] ++ [x]))) := by rw [stR_append (o ++ [key])]; exact hO3
          have B3 : Hid (Below w.heap.size w w3) := B2.out.trans hb3
          clear hO3 hb3 hk3 hw3 hc2
          go_wp2_with fail
          go_roundw
          case rel => exact ⟨k + 1, by omega, by go_num, by rw [HE.out], HJn, by rw [HE.out]; exact O3.out, B3.out⟩
          case measure => simp [intOf]; omega
        · have HE : Hid (nmS l key (k + 1) = ((nmS l key k).1 ++ [l.getD k default], (nmS l key k).2)) := by
            unfold Hid
            rw [HSe.out, nmF, if_neg hput]
          have hb : (nmS l key k).2 = true ∨ (nmS l key k).2 = false ∧ Op.bytesLess key.toList (l.getD k default).toList = false := by
            cases e : (nmS l key k).2 with
            | true => exact .inl rfl
            | false =>
              refine .inr ⟨rfl, ?_⟩
              cases e2 : Op.bytesLess key.toList (l.getD k default).toList with
              | false => rfl
              | true => exact absurd ⟨e, e2⟩ hput
          clear hput
          generalize (nmS l key k).1 = o at *
          generalize l.getD k default = x at *
          have fin : ∀ (b : Bool) (A3 : Option Addr) (n3 c3 : Nat) (w3 : World), True := fun _ _ _ _ _ => trivial
          clear fin
          rcases hb with hb | ⟨hb, hb2⟩
          · rw [hb] at HE ⊢
            clear hb
            go_wp2_with (at_builtin; refine wpList_append_row rfl (.tmp 36) (.tmp 41) 23 9 (.string ⟨#[]⟩) 1 16 rfl Tryz.underlying23 infoStr rfl (by omega) w.heap.size _ (stR o) rfl HO.out [.string x] rfl (st_cell x) rfl L2.out (by omega) Z ?_; intro v3 w3 hO3 hb3 hk3 hw3; obtain ⟨A3, n3, c3, rfl⟩ := hO3.shape; refine Shut.out ?_)
            unfold Shut
            have O3 : Hid (Owns w3 w.heap.size 9 1 (.slice A3 n3 c3) (stR (o ++ [x]))) := by rw [stR_append]; exact hO3
            have B3 : Hid (Below w.heap.size w w3) := HBr.out.trans hb3
            clear hO3 hb3 hk3 hw3 e1
            go_wp2_with fail
            go_roundw
            case rel => exact ⟨k + 1, by omega, by go_num, by rw [HE.out], HJn, by rw [HE.out]; exact O3.out, B3.out⟩
            case measure => simp [intOf]; omega
          · rw [hb] at HE ⊢
            clear hb
            go_wp2_with (at_builtin; refine wpList_append_row rfl (.tmp 36) (.tmp 41) 23 9 (.string ⟨#[]⟩) 1 16 rfl Tryz.underlying23 infoStr rfl (by omega) w.heap.size _ (stR o) rfl HO.out [.string x] rfl (st_cell x) rfl L2.out (by omega) Z ?_; intro v3 w3 hO3 hb3 hk3 hw3; obtain ⟨A3, n3, c3, rfl⟩ := hO3.shape; refine Shut.out ?_)
            unfold Shut
            have O3 : Hid (Owns w3 w.heap.size 9 1 (.slice A3 n3 c3) (stR (o ++ [x]))) := by rw [stR_append]; exact hO3
            have B3 : Hid (Below w.heap.size w w3) := HBr.out.trans hb3
            clear hO3 hb3 hk3 hw3 e1
            go_wp2_with fail
            go_roundw
            case rel => exact ⟨k + 1, by omega, by go_num, by rw [HE.out], HJn, by rw [HE.out]; exact O3.out, B3.out⟩
            case measure => simp [intOf]; omega
    · obtain rfl : k = n := by omega
      have HF : Hid (nmFin key (nmS l key k) = insK l key) := by
        unfold Hid
        rw [← HN.out]
        refine nm_all fun x hx => ?_
        obtain ⟨j, hj, rfl⟩ := List.getElem_of_mem hx
        rw [getD_at l j hj]
        exact HJ.out j (by rw [← HN.out]; exact hj)
      have HLk : Hid ((nmS l key k).1.length ≤ 2 * k) := HSl.out k hk
      have Z : w.heap.size ≤ wr.heap.size := HBr.out.size
      have L2 : Hid ((stR (nmS l key k).1).length ≤ 2097152) := by have := HLk.out; unfold Hid; rw [stR_length]; omega
      unfold nmFin at HF
      cases hb : (nmS l key k).2 with
      | true =>
        rw [hb] at HF
        go_wp2_with fail
        go_ret
        refine ⟨⟨_, rfl, ?_⟩, HBr.out⟩
        have := HF.out
        simp only [if_true] at this
        rw [← this]
        exact HO.out.mono HB.out
      | false =>
        rw [hb] at HF
        generalize (nmS l key k).1 = o at *
        go_wp2_with (at_builtin; refine wpList_append_row rfl (.tmp 45) (.tmp 47) 23 9 (.string ⟨#[]⟩) 1 16 rfl Tryz.underlying23 infoStr rfl (by omega) w.heap.size _ (stR o) rfl HO.out [.string key] rfl (st_cell key) rfl L2.out (by omega) Z ?_; intro v3 w3 hO3 hb3 hk3 hw3; obtain ⟨A3, n3, c3, rfl⟩ := hO3.shape; refine Shut.out ?_)
        unfold Shut
        have O3 : Hid (Owns w3 w.heap.size 9 1 (.slice A3 n3 c3) (stR (o ++ [key]))) := by rw [stR_append]; exact hO3
        have B3 : Hid (Below w.heap.size w w3) := HBr.out.trans hb3
        clear hO3 hb3 hk3 hw3
        go_wp2_with fail
        go_ret
        refine ⟨⟨_, rfl, ?_⟩, B3.out⟩
        have := HF.out
        rw [if_neg (by simp)] at this
        rw [← this]
        exact O3.out.mono HB.out
end Go.Proofs.YtpmgndgkmffcnaaGreatDoor
