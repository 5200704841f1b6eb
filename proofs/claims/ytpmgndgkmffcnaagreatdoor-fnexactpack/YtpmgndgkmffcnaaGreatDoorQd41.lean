/- EgI5 -/
import Derived.Test.YtpmgndgkmffcnaaGreatDoorQd39
import Derived.Test.YtpmgndgkmffcnaaGreatDoorQd36
import Derived.Test.YtpmgndgkmffcnaaGreatDoorQd40
import Derived.WalkKit
import Derived.ProofKit
import Derived.OpenShut
import Derived.Below
import Derived.WalkSmall
import Derived.BigQuiet
import Derived.Deep.QuietTactic
import Derived.Deep.RegionWith
import Derived.Handy
namespace Go.Proofs.YtpmgndgkmffcnaaGreatDoor
open Go.ChangeShapes Go.WideShapes Go.ChangeAt Go.RowKit Go.PlainAid
set_option linter.unusedVariables false
theorem store_own {P : Program} (w : World) (e : TypeId) (sz : Nat) (base g cap : Nat) (rows : List (List Value)) (hown : Owns w base e sz (.slice (some ⟨g, 0, none⟩) rows.length cap) rows)
  (k : Nat) (more : List (List Value)) (hms : ∀ r ∈ more, r.length = sz) (h1 : ∀ r ∈ more, ∀ y ∈ r, y.oneCell' = true) (hfit : k + more.length ≤ rows.length) :
  ∃ w', (storeCells ⟨g, k * sz, none⟩ more.flatten).run P w = .ok () w' ∧ Owns w' base e sz (.slice (some ⟨g, 0, none⟩) rows.length cap) (rows.take k ++ more ++ rows.drop (k + more.length)) ∧ Below base w w' ∧ (∀ b, b ≠ g → w'.heap[b]? = w.heap[b]?) := by
 obtain ⟨hrs, hlen, hor⟩ := hown
 rcases hor with ⟨e1, _⟩ | ⟨g', cap', cur, e1, hbg, hg, hnc, hcm, hcs, htake⟩
 ·cases e1
 ·cases e1
  have hfl : more.flatten.length = more.length * sz := flat_length sz more hms
  have hsz1 : (k + more.length) * sz ≤ rows.length * sz := Nat.mul_le_mul_right sz hfit
  have hsz2 : rows.length * sz ≤ cap * sz := Nat.mul_le_mul_right sz hnc
  have hadd : (k + more.length) * sz = k * sz + more.length * sz := Nat.add_mul _ _ _
  have hrun := run_storeCells_at P g (k * sz) e more.flatten 0 cur w hg (by rw [Nat.add_zero, hfl]; omega) (fun y hy => by
   obtain ⟨r, hr, hyr⟩ := List.mem_flatten.1 hy
   exact h1 r hr y hyr)
  rw [Nat.add_zero] at hrun
  refine ⟨_, hrun, ?_, below_setRow (Below.refl _ _) hbg _, fun b hb => setRow_other w g b _ hb⟩
  have hft : rows.flatten = (rows.take k).flatten ++ (rows.drop k).flatten := by rw [← List.flatten_append, List.take_append_drop]
  have hl1 : (rows.take k).flatten.length = k * sz := by rw [flat_length sz _ (fun r hr => hrs r (List.mem_of_mem_take hr)), List.length_take, Nat.min_eq_left (by omega)]
  have hl2 : (rows.take (k + more.length)).flatten.length = (k + more.length) * sz := by rw [flat_length sz _ (fun r hr => hrs r (List.mem_of_mem_take hr)), List.length_take, Nat.min_eq_left (by omega)]
  have hft2 : rows.flatten = (rows.take (k + more.length)).flatten ++ (rows.drop (k + more.length)).flatten := by rw [← List.flatten_append, List.take_append_drop]
  have hall : ∀ r ∈ rows.take k ++ more ++ rows.drop (k + more.length), r.length = sz := by
   intro r hr
   rcases List.mem_append.1 hr with hr | hr
   ·rcases List.mem_append.1 hr with hr | hr
    ·exact hrs r (List.mem_of_mem_take hr)
    ·exact hms r hr
   ·exact hrs r (List.mem_of_mem_drop hr)
  have hnl : (rows.take k ++ more ++ rows.drop (k + more.length)).length = rows.length := by
   simp only [List.length_append, List.length_take, List.length_drop]
   omega
  have hcl : cur.toList.length = cap * sz := by rw [Array.length_toList]; exact hcs
  have hf1 : (rows.take k).flatten = cur.toList.take (k * sz) := by
   have : (rows.take k).flatten = rows.flatten.take (k * sz) := by rw [hft]; exact (List.take_left' hl1).symm
   rw [this, ← htake, List.take_take]
   congr 1
   omega
  have hf2 : (rows.drop (k + more.length)).flatten = (cur.toList.drop ((k + more.length) * sz)).take (rows.length * sz - (k + more.length) * sz) := by
   have : (rows.drop (k + more.length)).flatten = rows.flatten.drop ((k + more.length) * sz) := by rw [hft2]; exact (List.drop_left' hl2).symm
   rw [this, ← htake, List.drop_take]
  refine ⟨hall, ?_, .inr ⟨g, cap, _, by rw [hnl], hbg, setRow_heap w g cur _ e _ hg, by rw [hnl]; exact hnc, hcm, ?_, ?_⟩⟩
  ·rw [flat_length sz _ hall]
  ·rw [List.size_toArray]
   simp only [List.length_append, List.length_take, List.length_drop, hfl, hcl]
   omega
  ·rw [hnl, List.toList_toArray, List.flatten_append, List.flatten_append, hf1, hf2, hfl, ← hadd]
   rw [List.take_append]
   have e3 : (List.take (k * sz) cur.toList ++ more.flatten).length = (k + more.length) * sz := by
    simp only [List.length_append, List.length_take, hfl, hcl]
    omega
   rw [e3, List.take_of_length_le (by omega)]
theorem run_clear_pts (w : World) (base g cap : Nat) (rows : List (List Value)) (hown : Owns w base 56 2 (.slice (some ⟨g, 0, none⟩) rows.length cap) rows) (k : Nat) (hk : k ≤ rows.length) (dp : Option Addr) (dCap : Nat) (hdp : k < rows.length → dp = some ⟨g, k * 2, none⟩) :
  ∃ w', (∀ ty, (Builtin.clear_ #[34] ty #[.slice dp (rows.length - k) dCap]).run Tryz.prog w = .ok (.tuple #[]) w') ∧ Owns w' base 56 2 (.slice (some ⟨g, 0, none⟩) rows.length cap) (rows.take k ++ List.replicate (rows.length - k) ptZ) ∧ Below base w w' := by
 by_cases h0 : rows.length - k = 0
 ·refine ⟨w, fun ty => ?_, ?_, Below.refl _ _⟩
  ·rw [h0]
   cases dp <;> simp [Builtin.clear_, run_underlying Tryz.underlying34]
  ·rw [h0, List.take_of_length_le (by omega)]
   simpa using hown
 ·obtain ⟨m, hm⟩ : ∃ m, rows.length - k = m + 1 := ⟨rows.length - k - 1, by omega⟩
  obtain ⟨w', h1, h2, h3, _⟩ := store_own (P := Tryz.prog) w 56 2 base g cap rows hown k (List.replicate (rows.length - k) ptZ) (fun r hr => by rw [List.eq_of_mem_replicate hr]; rfl) (fun r hr y hy => by
   rw [List.eq_of_mem_replicate hr] at hy
   simp only [ptZ, List.mem_cons, List.not_mem_nil, or_false] at hy
   rcases hy with rfl | rfl <;> rfl) (by rw [List.length_replicate]; omega)
  refine ⟨w', fun ty => ?_, ?_, h3⟩
  ·rw [hdp (by omega)]
   have hzc : (Builtin.zeroCells #[.int .i64 0, .int .i64 0] (rows.length - k)).toList = (List.replicate (rows.length - k) ptZ).flatten := by
    have := pt_made (rows.length - k)
    rw [show Builtin.zeroCells #[.int .i64 0, .int .i64 0] (rows.length - k) = madeCells #[.int .i64 0, .int .i64 0] ((rows.length - k) * 2) from rfl, this]
   have e : (Value.agg #[.int .i64 0, .int .i64 0]).cells = #[.int .i64 0, .int .i64 0] := rfl
   rw [hm] at hzc h1 ⊢
   simp [Builtin.clear_, run_underlying Tryz.underlying34, e, hzc, h1]
  ·rw [List.length_replicate, show k + (rows.length - k) = rows.length by omega, List.drop_length, List.append_nil] at h2
   exact h2
set_option maxHeartbeats 1000000 in
theorem belowFloor (p : Pnt) (f : Int) (gf : Nat) (w : World) (hc : w.cell? ⟨gf, 0, none⟩ = some (.int .i64 f)) :
  Calls Tryz.prog 103 #[vPt p, .pointer (some ⟨gf, 0, none⟩)] w fun e w' => e = .returned (.bool (decide (p.t < f))) ∧ Below w.heap.size w w' := by
 unfold vPt
 obtain ⟨pt, pv⟩ := p
 simp only
 have e1 := cell_alloc_keep hc (.cells #[.int .i64 pt, .int .i64 pv] 56)
 have BA : Hid (Below w.heap.size w (w.alloc (.cells #[.int .i64 pt, .int .i64 pv] 56))) := (Below.refl _ w).alloc (Nat.le_refl _) _
 go_enter Tryz.func103, Tryz.ntmps103
 go_wp2_with fail
 go_ret
 exact ⟨rfl, BA.out⟩
def IxR (f : Int) (l : List Pnt) (r : Int) : Prop := (r = -1 ∧ ∀ j, j < l.length → f ≤ tAt l j) ∨ ∃ i : Nat, r = (i : Int) ∧ i < l.length ∧ tAt l i < f ∧ ∀ j, j < i → f ≤ tAt l j
set_option maxHeartbeats 2000000 in
theorem indexFuncV (f : Int) (gf : Nat) (l : List Pnt) (v : Value) (w : World) (B : Nat) (hv : Lies w B 2 v (ptR l)) (hn : l.length ≤ 100000) (hB : B ≤ w.heap.size) (hgf : gf < w.heap.size) (hc : w.cell? ⟨gf, 0, none⟩ = some (.int .i64 f)) :
  Calls Tryz.prog 122 #[v, .func (.func 103) #[] #[.pointer (some ⟨gf, 0, none⟩)]] w fun e w' => (∃ r : Int, e = .returned (.int .i64 r) ∧ Hid (IxR f l r)) ∧ Below w.heap.size w w' := by
 obtain ⟨A, cap, rfl, _⟩ := pt_look hv
 have HL : Hid (∀ wx, Below w.heap.size w wx → wx.cell? ⟨gf, 0, none⟩ = some (.int .i64 f) ∧ ∀ j, j < l.length → ∃ g off, A = some ⟨g, off, none⟩ ∧ g < B ∧ wx.cell? ⟨g, off + j * 2, none⟩ = some (.int .i64 (l.getD j default).t) ∧ wx.cell? ⟨g, off + j * 2 + 1, none⟩ = some (.int .i64 (l.getD j default).v)) := fun wx hx => by
  refine ⟨by rw [hx.cell (p := ⟨_, _, none⟩) hgf]; exact hc, ?_⟩
  obtain ⟨A', c', e', h⟩ := pt_look (hv.on (hx.mono hB))
  cases e'
  exact h
 have q1 : (l.length : Int) ≤ 100000 := by omega
 clear hv hB hgf hc
 generalize hN : l.length = n at *
 have HN : Hid (l.length = n) := hN
 clear hN
 go_enter Tryz.func122, Tryz.ntmps122
 go_wp2_with fail
 go_loopw [8] (fun v8 wr => ∃ k : Nat, k ≤ n ∧ v8 = .int .i64 (k : Int) ∧ Hid (∀ j, j < k → f ≤ tAt l j) ∧ Below w.heap.size w wr) (fun i _ => n - (intOf i).toNat)
 case atStart => exact ⟨0, by omega, rfl, fun i hi => by omega, Below.refl _ _⟩
 case round =>
  obtain ⟨k, hk, rfl, HJ, hb⟩ := hrel
  have HBr : Hid (Below w.heap.size w wr) := hb
  clear hb
  by_cases hlt : k < n
  ·have q4 : (k : Int) < (n : Int) := by omega
   obtain ⟨hcf, hl⟩ := HL.out wr HBr.out
   obtain ⟨g, off, rfl, hg, e1, e2⟩ := hl k hlt
   have c1 := belowFloor (l.getD k default) f gf wr hcf
   unfold vPt at c1
   have HTk : Hid (tAt l k = (l.getD k default).t) := rfl
   clear hl hcf
   generalize l.getD k default = p at *
   obtain ⟨pt, pv⟩ := p
   simp only at e1 e2 c1 HTk
   go_wp2_with fail
   refine c1.mono ?_
   rintro e w2 ⟨rfl, hb2⟩
   have B2 : Hid (Below w.heap.size w w2) := HBr.out.trans (hb2.mono HBr.out.size)
   clear hb2 c1
   by_cases hlow : pt < f
   ·have HF : Hid (IxR f l (k : Int)) := .inr ⟨k, rfl, by rw [HN.out]; exact hlt, by rw [HTk.out]; exact hlow, HJ.out⟩
    have hd : decide (pt < f) = true := decide_eq_true hlow
    clear hlow
    go_wp2_with fail
    go_ret
    exact ⟨⟨_, rfl, HF⟩, B2.out⟩
   ·have hd : decide (pt < f) = false := decide_eq_false hlow
    have HJ2 : Hid (∀ j, j < k + 1 → f ≤ tAt l j) := fun j hj => by
     by_cases e : j = k
     ·rw [e, HTk.out]; omega
     ·exact HJ.out j (by omega)
    clear hlow
    go_wp2_with fail
    go_roundw
    case rel => exact ⟨k + 1, by omega, by go_num, HJ2, B2.out⟩
    case measure => simp [intOf]; omega
  ·obtain rfl : k = n := by omega
   have HF : Hid (IxR f l (-1)) := .inl ⟨rfl, fun j hj => HJ.out j (by rw [← HN.out]; exact hj)⟩
   go_wp2_with fail
   go_ret
   exact ⟨⟨_, rfl, HF⟩, HBr.out⟩
theorem from_take (f : Int) (l : List Pnt) (k : Nat) (h : k < l.length) : fromF f (l.take (k + 1)) = if f ≤ tAt l k then fromF f (l.take k) ++ [l.getD k default] else fromF f (l.take k) := by
 unfold fromF
 rw [take_getD l k h, List.filter_append]
 unfold tAt
 by_cases e : f ≤ (l.getD k default).t
 ·rw [if_pos e, List.filter_cons, if_pos (by simpa using e)]; rfl
 ·rw [if_neg e, List.filter_cons, if_neg (by simpa using e)]; simp
theorem from_all {f : Int} {l : List Pnt} (h : ∀ j, j < l.length → f ≤ tAt l j) : fromF f l = l := from_id fun p hp => by
 obtain ⟨j, hj, rfl⟩ := List.getElem_of_mem hp
 rw [← tAt_get l j hj]
 exact h j hj
theorem from_before {f : Int} {l : List Pnt} {i : Nat} (hi : i ≤ l.length) (h : ∀ j, j < i → f ≤ tAt l j) : fromF f (l.take i) = l.take i := from_all fun j hj => by
 rw [List.length_take] at hj
 have := h j (by omega)
 rw [tAt_get l j (by omega)] at this
 rw [tAt_get _ j (by rw [List.length_take]; omega), List.getElem_take]
 exact this
def Struck (f : Int) (l : List Pnt) (i j : Nat) (R : List (List Value)) : Prop := R.length = l.length ∧ i < j ∧ i = (fromF f (l.take j)).length ∧ R.take i = ptR (fromF f (l.take j)) ∧ ∀ k, j ≤ k → k < l.length → R[k]? = some (ptC (l.getD k default))
theorem Struck.start {f : Int} {l : List Pnt} {i : Nat} (hi : i < l.length) (h1 : tAt l i < f) (h2 : ∀ j, j < i → f ≤ tAt l j) : Struck f l i (i + 1) (ptR l) := by
 have hb := from_before (Nat.le_of_lt hi) h2
 have e : fromF f (l.take (i + 1)) = l.take i := by rw [from_take f l i hi, if_neg (by omega), hb]
 refine ⟨ptR_length l, by omega, by rw [e, List.length_take]; omega, by rw [e]; unfold ptR; rw [List.map_take], fun k _ hk => ?_⟩
 unfold ptR
 rw [List.getElem?_map, List.getElem?_eq_getElem hk, getD_at l k hk]
 rfl
theorem Struck.keep {f : Int} {l : List Pnt} {i j : Nat} {R : List (List Value)} (h : Struck f l i j R) (hj : j < l.length) (hf : f ≤ tAt l j) : Struck f l (i + 1) (j + 1) (R.set i (ptC (l.getD j default))) := by
 obtain ⟨h1, h2, h3, h4, h5⟩ := h
 have e : fromF f (l.take (j + 1)) = fromF f (l.take j) ++ [l.getD j default] := by rw [from_take f l j hj, if_pos hf]
 refine ⟨by rw [List.length_set]; exact h1, by omega, by rw [e, List.length_append, ← h3]; rfl, ?_, fun k hk hl => ?_⟩
 ·rw [e, ptR_append, ← h4, List.take_set]
  have hl : i < R.length := by omega
  rw [List.take_add_one, List.getElem?_eq_getElem hl]
  simp only [Option.toList]
  rw [List.set_append_right _ _ (by rw [List.length_take]; omega), List.length_take, Nat.min_eq_left (by omega), Nat.sub_self]
  rfl
 ·rw [List.getElem?_set_ne (by omega)]
  exact h5 k (by omega) hl
theorem Struck.skip {f : Int} {l : List Pnt} {i j : Nat} {R : List (List Value)} (h : Struck f l i j R) (hj : j < l.length) (hf : ¬ f ≤ tAt l j) : Struck f l i (j + 1) R := by
 obtain ⟨h1, h2, h3, h4, h5⟩ := h
 have e : fromF f (l.take (j + 1)) = fromF f (l.take j) := by rw [from_take f l j hj, if_neg hf]
 exact ⟨h1, by omega, by rw [e]; exact h3, by rw [e]; exact h4, fun k hk hl => h5 k (by omega) hl⟩
theorem Struck.done {f : Int} {l : List Pnt} {i : Nat} {R : List (List Value)} (h : Struck f l i l.length R) : R.take i = ptR (fromF f l) ∧ i ≤ R.length := by
 obtain ⟨h1, h2, h3, h4, _⟩ := h
 rw [List.take_length] at h4
 exact ⟨h4, by omega⟩
set_option maxHeartbeats 4000000 in
theorem deleteFuncV (f : Int) (gf : Nat) (l : List Pnt) (v : Value) (w : World) (base : Nat) (hv : Owns w base 56 2 v (ptR l)) (hn : l.length ≤ 100000) (hgf : gf < base) (hbs : base ≤ w.heap.size) (hc : w.cell? ⟨gf, 0, none⟩ = some (.int .i64 f)) :
  Calls Tryz.prog 102 #[v, .func (.func 103) #[] #[.pointer (some ⟨gf, 0, none⟩)]] w fun e w' => (∃ u, e = .returned u ∧ Owns w' base 56 2 u (ptR (fromF f l))) ∧ Below base w w' := by
 obtain ⟨A, cap, rfl, _⟩ := pt_look hv.lies
 have c1 := indexFuncV f gf l _ w w.heap.size hv.lies hn (Nat.le_refl _) (by omega) hc
 have HV : Hid (Owns w base 56 2 (.slice A l.length cap) (ptR l)) := hv
 have HGf : Hid (gf < base ∧ base ≤ w.heap.size) := ⟨hgf, hbs⟩
 have HC : Hid (∀ wx, Below base w wx → wx.cell? ⟨gf, 0, none⟩ = some (.int .i64 f)) := fun wx hx => by rw [hx.cell (p := ⟨_, _, none⟩) hgf]; exact hc
 have q1 : (l.length : Int) ≤ 100000 := by omega
 clear hv hgf hbs hc hn
 go_enter Tryz.func102, Tryz.ntmps102
 go_wp2_with fail
 refine c1.mono ?_
 rintro e w1 ⟨⟨r, rfl, HR⟩, hb1⟩
 have B1 : Hid (Below base w w1) := hb1.mono HGf.out.2
 have O1 : Hid (Owns w1 base 56 2 (.slice A l.length cap) (ptR l)) := HV.out.on hb1
 clear hb1 c1
 rcases HR.out with ⟨rfl, hall⟩ | ⟨i0, rfl, hi0, hlow, hbef⟩
 ·have HE : Hid (fromF f l = l) := from_all hall
  clear hall
  go_wp2_with fail
  go_ret
  refine ⟨⟨_, rfl, ?_⟩, B1.out⟩
  rw [HE.out]
  exact O1.out
 ·have HS0 : Hid (Struck f l i0 (i0 + 1) (ptR l)) := Struck.start hi0 hlow hbef
  obtain ⟨g, rfl, hgb⟩ : ∃ g, A = some ⟨g, 0, none⟩ ∧ base ≤ g := by
   rcases O1.out.2.2 with ⟨e, h0⟩ | ⟨g, c, cur, e, hg, _⟩
   ·rw [ptR_length] at h0; omega
   ·injection e with e1 _ _; exact ⟨g, e1, hg⟩
  have HGb : Hid (base ≤ g) := hgb
  clear hlow hbef hgb HR
  generalize hN : l.length = n at *
  have HN : Hid (l.length = n) := hN
  clear hN
  have q2 : (i0 : Int) < (n : Int) := by omega
  have hne : ((i0 : Int) == -1) = false := beq_eq_false_iff_ne.2 (by omega)
  go_wp2_with fail
  go_loopw [5, 6] (fun v5 v6 wr => ∃ (i j : Nat) (R : List (List Value)), j ≤ n ∧ v5 = .int .i64 (i : Int) ∧ v6 = .int .i64 (j : Int) ∧ Hid (Struck f l i j R) ∧ Owns wr base 56 2 (.slice (some ⟨g, 0, none⟩) n cap) R ∧ Below base w wr) (fun _ i _ => n - (intOf i).toNat)
  case atStart => exact ⟨i0, i0 + 1, _, by omega, rfl, by go_num, HS0, O1.out, B1.out⟩
  case round =>
   obtain ⟨i, j, R, hj, rfl, rfl, HS, hO, hb⟩ := hrel
   have HO : Hid (Owns wr base 56 2 (.slice (some ⟨g, 0, none⟩) n cap) R) := hO
   have HBr : Hid (Below base w wr) := hb
   have hRl : R.length = n := HS.out.1.trans HN.out
   have hij := HS.out.2.1
   clear hO hb
   by_cases hlt : j < n
   ·have q4 : (j : Int) < (n : Int) := by omega
    have q5 : (i : Int) < (n : Int) := by omega
    have hrow := HS.out.2.2.2.2 j (Nat.le_refl _) (by rw [HN.out]; exact hlt)
    have hjR : j < R.length := by omega
    rw [List.getElem?_eq_getElem hjR] at hrow
    have hrow' : R[j] = ptC (l.getD j default) := Option.some.inj hrow
    obtain ⟨Al, cl, el, hll⟩ := HO.out.lies.look
    rw [hRl] at el
    cases el
    obtain ⟨gl, ol, eg, _, hcl⟩ := hll j hjR
    cases eg
    have d0 := hcl 0 (.int .i64 (l.getD j default).t) (by omega) (by rw [hrow']; rfl)
    have d1 := hcl 1 (.int .i64 (l.getD j default).v) (by omega) (by rw [hrow']; rfl)
    rw [Nat.zero_add, Nat.add_zero] at d0
    rw [Nat.zero_add] at d1
    have HTj : Hid (tAt l j = (l.getD j default).t) := rfl
    have HKp : Hid (f ≤ tAt l j → Struck f l (i + 1) (j + 1) (R.set i (ptC (l.getD j default)))) := fun h => HS.out.keep (by rw [HN.out]; exact hlt) h
    have HSk : Hid (¬ f ≤ tAt l j → Struck f l i (j + 1) R) := fun h => HS.out.skip (by rw [HN.out]; exact hlt) h
    clear hrow hrow' hll hcl
    generalize l.getD j default = p at *
    obtain ⟨pt, pv⟩ := p
    simp only at d0 d1 HTj HKp
    have c1 := fun (wx : World) (hx : Below base w wx) => belowFloor ⟨pt, pv⟩ f gf wx (HC.out wx hx)
    unfold vPt at c1
    simp only at c1
    obtain ⟨W1, hW1⟩ : ∃ W1, W1 = wr.alloc (.cells #[.int .i64 pt, .int .i64 pv] 56) := ⟨_, rfl⟩
    have BW : Hid (Below base w W1) := by unfold Hid; rw [hW1]; exact HBr.out.alloc (Nat.le_trans HGf.out.2 HBr.out.size) _
    have KW : Hid (Blk W1 wr.heap.size #[.int .i64 pt, .int .i64 pv] 56) := by unfold Hid; rw [hW1]; exact Blk.new wr _ _
    have OW : Hid (Owns W1 base 56 2 (.slice (some ⟨g, 0, none⟩) n cap) R) := by unfold Hid; rw [hW1]; exact HO.out.alloc _
    have gne : Hid (g ≠ wr.heap.size) := by have := (HO.out.lt g rfl).2; unfold Hid; omega
    have c2 := c1 W1 BW.out
    have m0 := KW.out.cell 0 _ rfl
    have m1 := KW.out.cell 1 _ rfl
    clear c1
    go_wp2_with fail
    rw [← hW1]
    clear hW1
    refine c2.mono ?_
    rintro e w2 ⟨rfl, hb2⟩
    have BW2 : Hid (Below base w w2) := BW.out.trans (hb2.mono (Nat.le_trans HGf.out.2 BW.out.size))
    have K2 := KW.out.on hb2 KW.out.lt
    have O2 : Hid (Owns w2 base 56 2 (.slice (some ⟨g, 0, none⟩) n cap) R) := OW.out.on hb2
    have n0 := K2.cell 0 _ rfl
    have n1 := K2.cell 1 _ rfl
    clear hb2 c2 K2 m0 m1 d0 d1
    by_cases hlow : pt < f
    ·have hd : decide (pt < f) = true := decide_eq_true hlow
     have HS2 : Hid (Struck f l i (j + 1) R) := HSk.out (by rw [HTj.out]; omega)
     clear hlow
     go_wp2_with fail
     go_roundw
     case rel => exact ⟨i, j + 1, R, by omega, rfl, by go_num, HS2, O2.out, BW2.out⟩
     case measure => simp [intOf]; omega
    ·have hd : decide (pt < f) = false := decide_eq_false hlow
     have HS2 : Hid (Struck f l (i + 1) (j + 1) (R.set i (ptC ⟨pt, pv⟩))) := HKp.out (by rw [HTj.out]; omega)
     have hO : Owns w2 base 56 2 (.slice (some ⟨g, 0, none⟩) R.length cap) R := by rw [hRl]; exact O2.out
     obtain ⟨y0, s0⟩ := hO.cellX i 0 (by omega) (by omega)
     have f0 := hO.free (i * 2)
     obtain ⟨y1, s1⟩ := hO.cellX i 1 (by omega) (by omega)
     have f1 := hO.free (i * 2 + 1)
     rw [Nat.add_zero] at s0
     have hP := hO.put2 i (by omega) (.int .i64 pt) (.int .i64 pv)
     rw [hRl] at hP
     have HP : Hid (Owns ((w2.setCell ⟨g, i * 2, none⟩ (.int .i64 pt)).setCell ⟨g, i * 2 + 1, none⟩ (.int .i64 pv)) base 56 2 (.slice (some ⟨g, 0, none⟩) n cap) (R.set i (ptC ⟨pt, pv⟩))) := hP
     have HD : Hid (Below base w ((w2.setCell ⟨g, i * 2, none⟩ (.int .i64 pt)).setCell ⟨g, i * 2 + 1, none⟩ (.int .i64 pv))) := (BW2.out.setCell (show base ≤ g from HGb.out) _).setCell (show base ≤ g from HGb.out) _
     clear hlow hO hP
     go_wp2_with fail
     go_roundw
     case rel => exact ⟨i + 1, j + 1, _, by omega, by go_num, by go_num, HS2, HP.out, HD.out⟩
     case measure => simp [intOf]; omega
   ·obtain rfl : j = n := by omega
    have hdn : R.take i = ptR (fromF f l) ∧ i ≤ R.length := by
     have h := HS.out
     rw [← HN.out] at h
     exact h.done
    have HDn : Hid (R.take i = ptR (fromF f l)) := hdn.1
    have hroom := HO.out.lies.room.2
    obtain ⟨A', c', hcut, _, hA'⟩ := cut_from HO.out.lies i (by omega)
    have hO : Owns wr base 56 2 (.slice (some ⟨g, 0, none⟩) R.length cap) R := by rw [hRl]; exact HO.out
    obtain ⟨w3, hcl, hOc, hbc⟩ := run_clear_pts wr base g cap R hO i (by omega) A' c' (fun h => by rw [hA' (by omega)]; show some ((⟨g, 0, none⟩ : Addr).add (i * 2)) = _; cases i * 2 <;> simp [Addr.add])
    rw [hRl] at hcl hOc
    have hct := fun wx => cut_to (some ⟨g, 0, none⟩) j cap i (by omega) wx
    have O3 : Hid (Owns w3 base 56 2 (.slice (some ⟨g, 0, none⟩) i cap) (ptR (fromF f l))) := by
     have h := hOc.first i (by rw [List.length_append, List.length_take]; omega)
     rw [List.take_left' (by rw [List.length_take]; omega), HDn.out] at h
     exact h
    have B3 : Hid (Below base w w3) := HBr.out.trans hbc
    clear hdn hA' hO hOc hbc hroom
    go_wp2_with fail
    go_ret
    exact ⟨⟨_, rfl, O3.out⟩, B3.out⟩
set_option maxHeartbeats 4000000 in
theorem implMerged (ls : List (List Ser)) (f : Int) (key : ByteArray) (v : Value) (w : World) (B : Nat) (hv : SrcsV w B v ls) (hf : LOk ls) (hB : B ≤ w.heap.size) (hst : SumTab w) (a0 a1 a2 : Addr) (he : Errs w a0 a1 a2) :
  Calls Tryz.prog 82 #[.string key, .int .i64 f, v] w fun e w' => (∃ u, e = .returned u ∧ Owns w' w.heap.size 56 2 u (ptR (has ls f key))) ∧ Below w.heap.size w w' := by
 obtain ⟨A, cap, rfl, _⟩ := hv.look
 have HL : Hid (∀ wx, Below w.heap.size w wx → ∀ j, j < ls.length → ∃ g off u, A = some ⟨g, off, none⟩ ∧ g < B ∧ wx.cell? ⟨g, off + j, none⟩ = some u ∧ SrcV wx B u (ls.getD j [])) := fun wx hx => (hv.on (hx.mono hB)).cells
 have HB : Hid (B ≤ w.heap.size) := hB
 have ST : Hid (SumTab w) := hst
 have ER : Hid (Errs w a0 a1 a2) := he
 have HF : Hid (LOk ls) := hf
 have HH : Hid (∀ i, (hasAll (ls.take i) key).length ≤ 2000) := hf.1.has key
 have HT : Hid (∀ i, i < ls.length → hasAll (ls.take (i + 1)) key = mrg (hasAll (ls.take i) key) (ptsAt (ls.getD i []) key)) := hasAll_take ls key
 have HA : Hid (hasAll (ls.take ls.length) key = hasAll ls key) := by unfold Hid; rw [List.take_length]
 have HRi : Hid (∀ i, Rising (hasAll (ls.take i) key)) := fun i => rising_hasAll _ key
 have q1 : (ls.length : Int) ≤ 10 := by have := hf.1.1; omega
 clear hv hB hf hst he
 generalize hN : ls.length = n at *
 have HN : Hid (ls.length = n) := hN
 clear hN
 obtain ⟨X0, hX0⟩ : ∃ X0, X0 = w.alloc (.cells #[.int .i64 f] 3) := ⟨_, rfl⟩
 have BX : Hid (Below w.heap.size w X0) := by unfold Hid; rw [hX0]; exact (Below.refl _ w).alloc (Nat.le_refl _) _
 have KX : Hid (Blk X0 w.heap.size #[.int .i64 f] 3) := by unfold Hid; rw [hX0]; exact Blk.new w _ _
 have ZX : Hid (w.heap.size < X0.heap.size) := KX.out.lt
 go_enter Tryz.func82, Tryz.ntmps82
 go_wp2_with fail
 rw [← hX0]
 clear hX0
 go_loopw [7, 12] (fun v7 v12 wr => ∃ i : Nat, i ≤ n ∧ v12 = .int .i64 (i : Int) ∧ Owns wr X0.heap.size 56 2 v7 (ptR (hasAll (ls.take i) key)) ∧ Below X0.heap.size X0 wr) (fun _ i _ => n - (intOf i).toNat)
 case atStart => exact ⟨0, by omega, rfl, Owns.nil _ _ _ _, Below.refl _ _⟩
 case round =>
  obtain ⟨i, hi, rfl, hO, hb⟩ := hrel
  have HO : Hid (Owns wr X0.heap.size 56 2 u7 (ptR (hasAll (ls.take i) key))) := hO
  have HBr : Hid (Below X0.heap.size X0 wr) := hb
  have BW : Hid (Below w.heap.size w wr) := BX.out.trans (hb.mono BX.out.size)
  obtain ⟨A3, n3, c3, rfl⟩ := hO.shape
  clear hO hb
  by_cases hlt : i < n
  ·have q4 : (i : Int) < (n : Int) := by omega
   obtain ⟨g, off, u, rfl, hg, e1, hu⟩ := HL.out wr BW.out i hlt
   have hfi := HF.out.1.2 _ (getD_memL ls i (by rw [HN.out]; exact hlt))
   have hri := HF.out.2.1 _ (getD_memL ls i (by rw [HN.out]; exact hlt))
   have HE : Hid (hasAll (ls.take (i + 1)) key = mrg (hasAll (ls.take i) key) (ptsAt (ls.getD i []) key)) := HT.out i hlt
   have HPf : Hid ((ptsAt (ls.getD i []) key).length ≤ 200 ∧ Rising (ptsAt (ls.getD i []) key)) := ⟨ptsAt_few hfi.2 key, ptsAt_rising hri key⟩
   have HHi : Hid ((hasAll (ls.take i) key).length ≤ 2000 ∧ Rising (hasAll (ls.take i) key)) := ⟨HH.out i, HRi.out i⟩
   have hln := hfi.1
   have Z : Hid (B ≤ wr.heap.size) := Nat.le_trans HB.out BW.out.size
   clear hfi hri
   generalize hasAll (ls.take i) key = a at *
   generalize ls.getD i [] = li at *
   rcases hu with ⟨u', rfl, hS⟩ | ⟨s, u', rfl, hs1, hG, hX⟩
   ·have c1 := cachedPoints li key u' wr B hS (by omega) Z.out
    clear hS
    go_wp2_with fail
    refine c1.mono ?_
    rintro e w2 ⟨⟨u2, rfl, hL2⟩, hb2⟩
    have O2 : Hid (Owns w2 X0.heap.size 56 2 (.slice A3 n3 c3) (ptR a)) := HO.out.on hb2
    have B2 : Hid (Below X0.heap.size X0 w2) := HBr.out.trans (hb2.mono HBr.out.size)
    have c2 := implWovenR a (ptsAt li key) (.slice A3 n3 c3) u2 w2 w2.heap.size O2.out.lies (hL2.mono (Nat.le_trans Z.out hb2.size)) ⟨HHi.out.2, by have := HHi.out.1; omega⟩ ⟨HPf.out.2, by have := HPf.out.1; omega⟩ (Nat.le_refl _)
    obtain ⟨A4, n4, c4, rfl⟩ : ∃ A4 n4 c4, u2 = .slice A4 n4 c4 := by obtain ⟨A5, c5, e, _⟩ := (hL2.mono (Nat.le_trans Z.out hb2.size) : Lies w2 w2.heap.size 2 u2 (ptR (ptsAt li key))); exact ⟨_, _, _, e⟩
    clear hL2 hb2 c1
    go_wp2_with fail
    refine c2.mono ?_
    rintro e w3 ⟨⟨u3, rfl, hO3⟩, hb3⟩
    have O3 : Hid (Owns w3 X0.heap.size 56 2 u3 (ptR (hasAll (ls.take (i + 1)) key))) := by unfold Hid; rw [HE.out]; exact hO3.mono B2.out.size
    have B3 : Hid (Below X0.heap.size X0 w3) := B2.out.trans (hb3.mono B2.out.size)
    clear hO3 hb3 c2
    go_wp2_with fail
    go_roundw
    case rel => exact ⟨i + 1, by omega, by go_num, O3.out, B3.out⟩
    case measure => simp [intOf]; omega
   ·have c1 := filedPoints s key li u' wr B hG hX Z.out hs1 (ST.out.on BW.out) a0 a1 a2 (ER.out.on BW.out)
    clear hX hG hs1
    go_wp2_with fail
    refine c1.mono ?_
    rintro e w2 ⟨⟨u2, rfl, hL2⟩, hb2⟩
    have O2 : Hid (Owns w2 X0.heap.size 56 2 (.slice A3 n3 c3) (ptR a)) := HO.out.on hb2
    have B2 : Hid (Below X0.heap.size X0 w2) := HBr.out.trans (hb2.mono HBr.out.size)
    have c2 := implWovenR a (ptsAt li key) (.slice A3 n3 c3) u2 w2 w2.heap.size O2.out.lies (hL2.lies) ⟨HHi.out.2, by have := HHi.out.1; omega⟩ ⟨HPf.out.2, by have := HPf.out.1; omega⟩ (Nat.le_refl _)
    obtain ⟨A4, n4, c4, rfl⟩ : ∃ A4 n4 c4, u2 = .slice A4 n4 c4 := by obtain ⟨A5, c5, e, _⟩ := (hL2.lies : Lies w2 w2.heap.size 2 u2 (ptR (ptsAt li key))); exact ⟨_, _, _, e⟩
    clear hL2 hb2 c1
    go_wp2_with fail
    refine c2.mono ?_
    rintro e w3 ⟨⟨u3, rfl, hO3⟩, hb3⟩
    have O3 : Hid (Owns w3 X0.heap.size 56 2 u3 (ptR (hasAll (ls.take (i + 1)) key))) := by unfold Hid; rw [HE.out]; exact hO3.mono B2.out.size
    have B3 : Hid (Below X0.heap.size X0 w3) := B2.out.trans (hb3.mono B2.out.size)
    clear hO3 hb3 c2
    go_wp2_with fail
    go_roundw
    case rel => exact ⟨i + 1, by omega, by go_num, O3.out, B3.out⟩
    case measure => simp [intOf]; omega
  ·obtain rfl : i = n := by omega
   have hcl : wr.cell? ⟨w.heap.size, 0, none⟩ = some (.int .i64 f) := (KX.out.on HBr.out KX.out.lt).cell 0 _ rfl
   have c1 := deleteFuncV f w.heap.size (hasAll (ls.take i) key) (.slice A3 n3 c3) wr X0.heap.size HO.out (by have := HH.out i; omega) ZX.out HBr.out.size hcl
   have HEn : Hid (fromF f (hasAll (ls.take i) key) = has ls f key) := by unfold Hid has; rw [HA.out]
   clear hcl
   go_wp2_with fail
   refine c1.mono ?_
   rintro e w3 ⟨⟨u3, rfl, hO3⟩, hb3⟩
   have O3 : Hid (Owns w3 w.heap.size 56 2 u3 (ptR (has ls f key))) := by unfold Hid; rw [← HEn.out]; exact hO3.mono BX.out.size
   have B3 : Hid (Below w.heap.size w w3) := BW.out.trans (hb3.mono BX.out.size)
   clear hO3 hb3 c1
   go_wp2_with fail
   go_ret
   exact ⟨⟨_, rfl, O3.out⟩, B3.out⟩
end Go.Proofs.YtpmgndgkmffcnaaGreatDoor
