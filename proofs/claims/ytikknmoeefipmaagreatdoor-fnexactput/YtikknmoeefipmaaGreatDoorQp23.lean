/- EgI1 FlFindM FlIxO EgI2 EgShelf EgI3 -/
import Derived.Test.YtikknmoeefipmaaGreatDoorQp10
import Derived.Test.YtikknmoeefipmaaGreatDoorQp20
import Derived.Test.YtikknmoeefipmaaGreatDoorQp15
import Derived.Test.YtikknmoeefipmaaGreatDoorQp22
import Derived.WalkKit
import Derived.ProofKit
import Derived.OpenShut
import Derived.Below
import Derived.WalkSmall
import Derived.BigQuiet
import Derived.Deep.QuietTactic
import Derived.Deep.RegionWith
import Derived.Handy
import Derived.Test.YtikknmoeefipmaaGreatDoorQp16
import Derived.Test.YtikknmoeefipmaaGreatDoorQp4
import Derived.Shelf.SlGeneric
import Derived.Ground.SlgmProg
import Derived.Ground.SlgnProg
import Derived.Shelf.SlicesE.Clone
import Derived.Shelf.SlicesG.CompactS
import Derived.Shelf.SortM.Plain
import Derived.Shelf.SortM.SortNone
import Derived.Test.YtikknmoeefipmaaGreatDoorProg
import Derived.Lib.OwnBridge
import Derived.Sort.OwnSorted
import Derived.Sort.Grow
open List (setIfInBounds_toArray set_cons_zero set_cons_succ)
namespace Go.Proofs.YtikknmoeefipmaaGreatDoor
open Go.ChangeShapes Go.WideShapes Go.ChangeAt Go.RowKit Go.PlainAid
set_option linter.unusedVariables false
set_option maxHeartbeats 1000000 in
theorem implHowMany (l : List Ser) (v : Value) (w : World) (B : Nat) (hv : SerV w B v l) (hn : l.length ≤ 1000) (hs : ∀ x ∈ l, x.pts.length ≤ 1000) (hB : B ≤ w.heap.size) :
  Calls Tryz.prog 56 #[v] w fun e w' => e = .returned (.int .i64 (cntS l : Int)) ∧ Below w.heap.size w w' := by
 obtain ⟨A, cap, rfl, hl⟩ := hv.look
 have HL : Hid (∀ wx, Below w.heap.size w wx → ∀ j, j < l.length → ∃ g off u, A = some ⟨g, off, none⟩ ∧ g < B ∧ wx.cell? ⟨g, off + j * 2, none⟩ = some (.string (l.getD j default).key) ∧ wx.cell? ⟨g, off + j * 2 + 1, none⟩ = some u ∧ Lies wx B 2 u (ptR (l.getD j default).pts)) := fun wx hx => by
  obtain ⟨A', c', e', h⟩ := (hv.on (hx.mono hB)).look
  cases e'
  exact h
 have HC : Hid (∀ k, k ≤ l.length → cntS (l.take k) ≤ 1000 * k) := cntS_le l hs
 have HS : Hid (∀ k, k < l.length → cntS (l.take (k + 1)) = cntS (l.take k) + (l.getD k default).pts.length) := fun k hk => cntS_snoc l k hk
 have HT : Hid (∀ k, k = l.length → cntS (l.take k) = cntS l) := fun k hk => by rw [hk, List.take_length]
 have HM : Hid (∀ k, k < l.length → (l.getD k default).pts.length ≤ 1000) := fun k hk => hs _ (getD_mem l k hk)
 have H0 : Hid (cntS (l.take 0) = 0) := by simp [Hid, cntS]
 have q1 : (l.length : Int) ≤ 1000 := by omega
 clear hl hv hs hB
 generalize hN : l.length = n at *
 clear hN
 go_enter Tryz.func56, Tryz.ntmps56
 go_wp2_with fail
 go_loopw [3, 8] (fun v3 v8 wr => ∃ k : Nat, k ≤ n ∧ v8 = .int .i64 (k : Int) ∧ v3 = .int .i64 (cntS (l.take k) : Int) ∧ Below w.heap.size w wr) (fun _ i _ => n - (intOf i).toNat)
 case atStart => exact ⟨0, by omega, rfl, by rw [H0.out]; rfl, Below.refl _ _⟩
 case round =>
  obtain ⟨k, hk, rfl, rfl, hb⟩ := hrel
  have HBr : Hid (Below w.heap.size w wr) := hb
  clear hb
  by_cases hlt : k < n
  ·have q4 : (k : Int) < (n : Int) := by omega
   obtain ⟨g, off, u, rfl, hg, e1, e2, hu⟩ := HL.out wr HBr.out k hlt
   obtain ⟨A', c', rfl, _⟩ := pt_look hu
   have h1 := HC.out k hk
   have h2 := HM.out k hlt
   have h3 := HS.out k hlt
   have HE : Hid (cntS (l.take (k + 1)) = cntS (l.take k) + (l.getD k default).pts.length) := h3
   clear hu h3
   generalize cntS (l.take k) = c at *
   generalize (l.getD k default).pts.length = p at *
   generalize (l.getD k default).key = xk at *
   have q5 : (c : Int) ≤ 1000000 := by omega
   have q6 : (p : Int) ≤ 1000 := by omega
   have w2 : wrap64 ((c : Int) + (p : Int)) = (c : Int) + (p : Int) := by unfold wrap64; omega
   have BA : Hid (Below w.heap.size w (wr.alloc (.cells #[.string xk, .slice A' p c'] 98))) := HBr.out.alloc HBr.out.size _
   go_wp2_with fail
   go_roundw
   case rel => exact ⟨k + 1, by omega, by go_num, by rw [HE.out]; go_num, BA.out⟩
   case measure => simp [intOf]; omega
  ·obtain rfl : k = n := by omega
   have HE : Hid (cntS (l.take k) = cntS l) := HT.out k rfl
   go_wp2_with fail
   go_ret
   exact ⟨by rw [← HE.out]; rfl, HBr.out⟩
def CaOk (l : List Ser) (f : Int) : Prop := SOk l ∧ cntS l ≤ 40 ∧ ∀ x ∈ l, f ≤ tAt x.pts 0
noncomputable instance (l : List Ser) (f : Int) : Decidable (CaOk l f) := Classical.propDecidable _
set_option maxHeartbeats 2000000 in
theorem implCacheOk (l : List Ser) (f : Int) (v : Value) (w : World) (B : Nat) (hv : SerV w B v l) (hs : SShort l) (hf : ∀ x ∈ l, x.key.size ≤ maxLen) (hB : B ≤ w.heap.size) :
  Calls Tryz.prog 118 #[v, .int .i64 f] w fun e w' => e = .returned (.bool (decide (CaOk l f))) ∧ Below w.heap.size w w' := by
 have HV : Hid (SerV w B v l) := hv
 obtain ⟨A, cap, rfl, hl⟩ := hv.look
 have HL : Hid (∀ wx, Below w.heap.size w wx → ∀ j, j < l.length → ∃ g off u, A = some ⟨g, off, none⟩ ∧ g < B ∧ wx.cell? ⟨g, off + j * 2, none⟩ = some (.string (l.getD j default).key) ∧ wx.cell? ⟨g, off + j * 2 + 1, none⟩ = some u ∧ Lies wx B 2 u (ptR (l.getD j default).pts)) := fun wx hx => by
  obtain ⟨A', c', e', h⟩ := (hv.on (hx.mono hB)).look
  cases e'
  exact h
 have c1 := implSeriesOk l _ w B hv hs hf hB
 have HB : Hid (B ≤ w.heap.size) := hB
 by_cases hso : SOk l
 ·rw [decide_eq_true hso] at c1
  have hco := hso.col
  have c2 := fun wx hx hb => implHowMany l (.slice A l.length cap) wx B hx (by have := hco.1; omega) (fun x hx => by have := (hco.2 x hx).1; omega) hb
  have qC := cntS_le l (fun x hx => by have := (hco.2 x hx).1; omega) l.length (Nat.le_refl _)
  rw [List.take_length] at qC
  have hcl := hso.1
  have HOne : Hid (∀ j, j < l.length → 1 ≤ (l.getD j default).pts.length ∧ (l.getD j default).pts.length ≤ 60) := fun j hj => ⟨(hso.2 j hj).2.1, (hso.2 j hj).2.2.1⟩
  have HBad : Hid (∀ j, j < l.length → tAt (l.getD j default).pts 0 < f → decide (CaOk l f) = false) := fun j hj h => decide_eq_false fun hok => by
   have := hok.2.2 _ (getD_mem _ j hj)
   omega
  have HGood : Hid (cntS l ≤ 40 → (∀ j, j < l.length → f ≤ tAt (l.getD j default).pts 0) → decide (CaOk l f) = true) := fun h40 h => decide_eq_true ⟨hso, h40, fun x hx => by
   obtain ⟨j, hj, rfl⟩ := List.getElem_of_mem hx
   rw [getD_at _ j hj]
   exact h j hj⟩
  have HMany : Hid (40 < cntS l → decide (CaOk l f) = false) := fun h => decide_eq_false fun hok => by have := hok.2.1; omega
  have q1 : (l.length : Int) ≤ 5 := by omega
  have q2 : (cntS l : Int) ≤ 5000 := by omega
  clear hl hv hs hf hB hso hco
  go_enter Tryz.func118, Tryz.ntmps118
  go_wp2_with fail
  refine c1.mono ?_
  rintro b X1 ⟨rfl, hb1⟩
  have B1 : Hid (Below w.heap.size w X1) := hb1
  have c3 := c2 X1 (HV.out.on (hb1.mono HB.out)) (Nat.le_trans HB.out hb1.size)
  clear hb1 c2 c1
  go_wp2_with fail
  refine c3.mono ?_
  rintro b X2 ⟨rfl, hb2⟩
  have B2 : Hid (Below w.heap.size w X2) := B1.out.trans (hb2.mono B1.out.size)
  clear hb2 c3
  generalize cntS l = cn at *
  generalize hn : l.length = n at *
  clear hn
  by_cases h4 : 40 < cn
  ·have q5 : (40 : Int) < (cn : Int) := by omega
   have HD : Hid (decide (CaOk l f) = false) := HMany.out h4
   go_wp2_with fail
   go_ret
   exact ⟨by rw [HD.out]; rfl, B2.out⟩
  ·have q5 : ¬ (40 : Int) < (cn : Int) := by omega
   have H40 : Hid (cn ≤ 40) := by unfold Hid; omega
   clear h4
   go_wp2_with fail
   go_loopw [17] (fun v17 wr => ∃ i : Nat, i ≤ n ∧ v17 = .int .i64 (i : Int) ∧ Hid (∀ j, j < i → f ≤ tAt (l.getD j default).pts 0) ∧ Below w.heap.size w wr) (fun i _ => n - (intOf i).toNat)
   case atStart => exact ⟨0, by omega, rfl, fun j hj => by omega, B2.out⟩
   case round =>
    obtain ⟨i, hi, rfl, HI, hb⟩ := hrel
    have HBr : Hid (Below w.heap.size w wr) := hb
    clear hb
    by_cases hlt : i < n
    ·have q4 : (i : Int) < (n : Int) := by omega
     obtain ⟨g, off, u, rfl, hg, e1, e2, hu⟩ := HL.out wr HBr.out i hlt
     obtain ⟨A5, n5, c5, rfl⟩ : ∃ A5 n5 c5, u = .slice A5 n5 c5 := by obtain ⟨A5, c5, e, _⟩ := hu; exact ⟨_, _, _, e⟩
     obtain ⟨g5, o5, rfl, hg5, hn5, e5⟩ := first_at (HOne.out i hlt).1 hu
     have q7 := HOne.out i hlt
     rw [← hn5] at q7
     have q8 : (0 : Int) < (n5 : Int) := by omega
     have q9 : (n5 : Int) ≤ 60 := by omega
     have HBi : Hid (tAt (l.getD i default).pts 0 < f → decide (CaOk l f) = false) := HBad.out i hlt
     have HIn2 : Hid (f ≤ tAt (l.getD i default).pts 0 → ∀ j, j < i + 1 → f ≤ tAt (l.getD j default).pts 0) := fun h j hj => by
      by_cases e : j = i
      ·rw [e]; exact h
      ·exact HI.out j (by omega)
     clear hu hn5 q7
     generalize tAt (l.getD i default).pts 0 = t at *
     generalize (l.getD i default).key = xk at *
     have BA : Hid (Below w.heap.size w (wr.alloc (.cells #[.string xk, .slice (some ⟨g5, o5, none⟩) n5 c5] 98))) := HBr.out.alloc HBr.out.size _
     have e6 := cell_alloc_keep e5 (.cells #[.string xk, .slice (some ⟨g5, o5, none⟩) n5 c5] 98)
     by_cases hlow : t < f
     ·have HD : Hid (decide (CaOk l f) = false) := HBi.out hlow
      go_wp2_with fail
      go_ret
      exact ⟨by rw [HD.out]; rfl, BA.out⟩
     ·have q10 : f ≤ t := by omega
      have HI2 : Hid (∀ j, j < i + 1 → f ≤ tAt (l.getD j default).pts 0) := HIn2.out q10
      go_wp2_with fail
      go_roundw
      case rel => exact ⟨i + 1, by omega, by go_num, HI2, BA.out⟩
      case measure => simp [intOf]; omega
    ·obtain rfl : i = n := by omega
     have HD : Hid (decide (CaOk l f) = true) := HGood.out H40.out HI.out
     go_wp2_with fail
     go_ret
     exact ⟨by rw [HD.out]; rfl, HBr.out⟩
 ·rw [decide_eq_false hso] at c1
  have HD : Hid (decide (CaOk l f) = false) := decide_eq_false fun h => hso h.1
  clear hl hv hs hf hB hso
  go_enter Tryz.func118, Tryz.ntmps118
  go_wp2_with fail
  refine c1.mono ?_
  rintro b X1 ⟨rfl, hb1⟩
  have B1 : Hid (Below w.heap.size w X1) := hb1
  clear hb1 c1
  go_wp2_with fail
  go_ret
  exact ⟨by rw [HD.out]; rfl, B1.out⟩
set_option maxHeartbeats 2000000 in
theorem cachedKeys (l : List Ser) (v : Value) (w : World) (B : Nat) (hv : SerV w B v l) (hn : l.length ≤ 1000) (hB : B ≤ w.heap.size) :
  Calls Tryz.prog 278 #[v] w fun e w' => (∃ u, e = .returned u ∧ Owns w' w.heap.size 9 1 u (stR (l.map Ser.key))) ∧ Below w.heap.size w w' := by
 obtain ⟨A, cap, rfl, hl⟩ := hv.look
 have HL : Hid (∀ wx, Below w.heap.size w wx → ∀ j, j < l.length → ∃ g off u, A = some ⟨g, off, none⟩ ∧ g < B ∧ wx.cell? ⟨g, off + j * 2, none⟩ = some (.string (l.getD j default).key) ∧ wx.cell? ⟨g, off + j * 2 + 1, none⟩ = some u ∧ Lies wx B 2 u (ptR (l.getD j default).pts)) := fun wx hx => by
  obtain ⟨A', c', e', h⟩ := (hv.on (hx.mono hB)).look
  cases e'
  exact h
 have HT : Hid (∀ k, k < l.length → (l.take (k + 1)).map Ser.key = (l.take k).map Ser.key ++ [(l.getD k default).key]) := fun k hk => by rw [take_getD l k hk, List.map_append]; rfl
 have HA : Hid (∀ k, k = l.length → (l.take k).map Ser.key = l.map Ser.key) := fun k hk => by rw [hk, List.take_length]
 have q1 : (l.length : Int) ≤ 1000 := by omega
 have HLn : Hid (∀ k, k ≤ l.length → (stR ((l.take k).map Ser.key)).length ≤ 2097152) := fun k hk => by rw [stR_length, List.length_map, List.length_take]; omega
 clear hl hv hB
 generalize hN : l.length = n at *
 clear hN
 go_enter Tryz.func278, Tryz.ntmps278
 go_wp2_with fail
 go_loopw [3, 8] (fun v3 v8 wr => ∃ k : Nat, k ≤ n ∧ v8 = .int .i64 (k : Int) ∧ Owns wr w.heap.size 9 1 v3 (stR ((l.take k).map Ser.key)) ∧ Below w.heap.size w wr) (fun _ i _ => n - (intOf i).toNat)
 case atStart => exact ⟨0, by omega, rfl, Owns.nil _ _ _ _, Below.refl _ _⟩
 case round =>
  obtain ⟨k, hk, rfl, hO, hb⟩ := hrel
  have HO : Hid (Owns wr w.heap.size 9 1 u3 (stR ((l.take k).map Ser.key))) := hO
  have HBr : Hid (Below w.heap.size w wr) := hb
  obtain ⟨A3, n3, c3, rfl⟩ := hO.shape
  clear hO hb
  by_cases hlt : k < n
  ·have q4 : (k : Int) < (n : Int) := by omega
   obtain ⟨g, off, u, rfl, hg, e1, e2, hu⟩ := HL.out wr HBr.out k hlt
   obtain ⟨A', c', rfl, _⟩ := pt_look hu
   have HE : Hid ((l.take (k + 1)).map Ser.key = (l.take k).map Ser.key ++ [(l.getD k default).key]) := HT.out k hlt
   have L2 := HLn.out k hk
   clear hu
   generalize (l.take k).map Ser.key = o at *
   generalize (l.getD k default).pts.length = pl at *
   generalize (l.getD k default).key = xk at *
   have HO2 : Hid (Owns (wr.alloc (.cells #[.string xk, .slice A' pl c'] 98)) w.heap.size 9 1 (.slice A3 n3 c3) (stR o)) := HO.out.alloc _
   have BA : Hid (Below w.heap.size w (wr.alloc (.cells #[.string xk, .slice A' pl c'] 98))) := HBr.out.alloc HBr.out.size _
   have Z : w.heap.size ≤ (wr.alloc (.cells #[.string xk, .slice A' pl c'] 98)).heap.size := BA.out.size
   have LL : Hid ((stR o).length ≤ 2097152) := L2
   clear L2
   go_wp2_with (at_builtin; refine Shut.out ?_)
   unfold Shut
   refine wpList_append_row (w := wr.alloc (.cells #[.string xk, .slice A' pl c'] 98)) rfl (.tmp 12) (.tmp 15) 24 9 (.string ⟨#[]⟩) 1 16 rfl Tryz.underlying24 infoStr rfl (by omega) w.heap.size (.slice A3 n3 c3) (stR o) rfl HO2.out [.string xk] rfl (st_cell xk) (by rw [World.size_alloc]; rfl) LL.out (by omega) Z ?_
   intro v' w2 hO2 hb2 hk2 hw2
   obtain ⟨A2, n2, c2, rfl⟩ := hO2.shape
   have O2 : Hid (Owns w2 w.heap.size 9 1 (.slice A2 n2 c2) (stR (o ++ [xk]))) := by unfold Hid; rw [stR_append]; exact hO2
   have B2 : Hid (Below w.heap.size w w2) := BA.out.trans hb2
   clear hO2 hb2 hk2 hw2
   go_wp2_with fail
   go_roundw
   case rel => exact ⟨k + 1, by omega, by go_num, by rw [HE.out]; exact O2.out, B2.out⟩
   case measure => simp [intOf]; omega
  ·obtain rfl : k = n := by omega
   have HE := HA.out k rfl
   go_wp2_with fail
   go_ret
   refine ⟨⟨_, rfl, ?_⟩, HBr.out⟩
   rw [← HE]
   exact HO.out
set_option maxHeartbeats 1000000 in
theorem cachedPoints (l : List Ser) (key : ByteArray) (v : Value) (w : World) (B : Nat) (hv : SerV w B v l) (hn : l.length ≤ 1048576) (hB : B ≤ w.heap.size) :
  Calls Tryz.prog 217 #[v, .string key] w fun e w' => (∃ u, e = .returned u ∧ Lies w' B 2 u (ptR (ptsAt l key))) ∧ Below w.heap.size w w' := by
 have HV : Hid (SerV w B v l) := hv
 obtain ⟨A, cap, rfl, hl⟩ := hv.look
 have HL : Hid (∀ wx, Below w.heap.size w wx → ∀ j, j < l.length → ∃ g off u, A = some ⟨g, off, none⟩ ∧ g < B ∧ wx.cell? ⟨g, off + j * 2, none⟩ = some (.string (l.getD j default).key) ∧ wx.cell? ⟨g, off + j * 2 + 1, none⟩ = some u ∧ Lies wx B 2 u (ptR (l.getD j default).pts)) := fun wx hx => by
  obtain ⟨A', c', e', h⟩ := (hv.on (hx.mono hB)).look
  cases e'
  exact h
 have HB : Hid (B ≤ w.heap.size) := hB
 have q1 : (l.length : Int) ≤ 1048576 := by omega
 clear hl hv hn hB
 generalize hN : l.length = n at *
 have HN : Hid (l.length = n) := hN
 clear hN
 go_enter Tryz.func217, Tryz.ntmps217
 go_wp2_with fail
 go_loopw [9] (fun v9 wr => ∃ k : Nat, k ≤ n ∧ v9 = .int .i64 (k : Int) ∧ Hid (∀ i, i < k → (l.getD i default).key ≠ key) ∧ Below w.heap.size w wr) (fun i _ => n - (intOf i).toNat)
 case atStart => exact ⟨0, by omega, rfl, fun i hi => by omega, Below.refl _ _⟩
 case round =>
  obtain ⟨k, hk, rfl, HJ, hb⟩ := hrel
  have HBr : Hid (Below w.heap.size w wr) := hb
  clear hb
  by_cases hlt : k < n
  ·have q4 : (k : Int) < (n : Int) := by omega
   obtain ⟨g, off, u, rfl, hg, e1, e2, hu⟩ := HL.out wr HBr.out k hlt
   have HU : Hid (Lies wr B 2 u (ptR (l.getD k default).pts)) := hu
   obtain ⟨A5, n5, c5, rfl⟩ : ∃ A5 n5 c5, u = .slice A5 n5 c5 := by obtain ⟨A5, c5, e, _⟩ := hu; exact ⟨_, _, _, e⟩
   clear hu
   by_cases hkey : (l.getD k default).key = key
   ·have HF : Hid (ptsAt l key = (l.getD k default).pts) := ptsAt_at (by rw [HN.out]; exact hlt) hkey HJ.out
    rw [hkey] at e1
    clear hkey
    have BA : Hid (Below w.heap.size w (wr.alloc (.cells #[.string key, .slice A5 n5 c5] 98))) := HBr.out.alloc HBr.out.size _
    have UA : Hid (Lies (wr.alloc (.cells #[.string key, .slice A5 n5 c5] 98)) B 2 (.slice A5 n5 c5) (ptR (ptsAt l key))) := by
     unfold Hid
     rw [HF.out]
     exact HU.out.on ((Below.refl B wr).alloc (Nat.le_trans HB.out HBr.out.size) _)
    go_wp2_with fail
    go_ret
    exact ⟨⟨_, rfl, UA.out⟩, BA.out⟩
   ·have HK : Hid ((l.getD k default).key ≠ key) := hkey
    have hne := bytes_ne hkey
    clear hkey
    have HJ2 : Hid (∀ i, i < k + 1 → (l.getD i default).key ≠ key) := fun i hi => by
     by_cases e : i = k
     ·rw [e]; exact HK.out
     ·exact HJ.out i (by omega)
    clear HK
    generalize (l.getD k default).key = xk at e1 hne
    have BA : Hid (Below w.heap.size w (wr.alloc (.cells #[.string xk, .slice A5 n5 c5] 98))) := HBr.out.alloc HBr.out.size _
    go_wp2_with fail
    go_roundw
    case rel => exact ⟨k + 1, by omega, by go_num, HJ2, BA.out⟩
    case measure => simp [intOf]; omega
  ·obtain rfl : k = n := by omega
   have HF : Hid (ptsAt l key = []) := ptsAt_none fun x hx => by
    obtain ⟨j, hj, rfl⟩ := List.getElem_of_mem hx
    rw [getD_at l j hj]
    exact HJ.out j (by rw [← HN.out]; exact hj)
   go_wp2_with fail
   go_ret
   refine ⟨⟨_, rfl, ?_⟩, HBr.out⟩
   rw [HF.out]
   exact ⟨none, 0, rfl, ⟨fun _ => rfl, Nat.le_refl _⟩, fun r hr => (by cases hr), .inl rfl⟩
end Go.Proofs.YtikknmoeefipmaaGreatDoor
namespace Go.Proofs.YtikknmoeefipmaaGreatDoor
open Go.ChangeShapes Go.WideShapes Go.ChangeAt Go.RowKit Go.PlainAid
set_option linter.unusedVariables false
def FfAns (s key : ByteArray) (l : List Pnt) (ok : Bool) : Prop := (ok = true ∧ ∃ m j, GoodF s m ∧ j < m.length ∧ (sAt m j).key = key ∧ (∀ i, i < j → (sAt m i).key ≠ key) ∧ l = (sAt m j).pts) ∨ (ok = false ∧ l = [] ∧ ∀ m, GoodF s m → ∀ j, j < m.length → (sAt m j).key ≠ key)
theorem FfAns.one {s key : ByteArray} {l l' : List Pnt} {x y : Bool} (h : FfAns s key l x) (h' : FfAns s key l' y) : l = l' ∧ x = y := by
 rcases h with ⟨h1, m, j, h2, h3, h4, h5, h6⟩ | ⟨h1, h2, h3⟩ <;> rcases h' with ⟨h1', m', j', h2', h3', h4', h5', h6'⟩ | ⟨h1', h2', h3'⟩
 ·obtain rfl := h2.one h2'
  obtain rfl : j = j' := by
   rcases Nat.lt_trichotomy j j' with e | e | e
   ·exact absurd h4 (h5' j e)
   ·exact e
   ·exact absurd h4' (h5 j' e)
  exact ⟨h6.trans h6'.symm, h1.trans h1'.symm⟩
 ·exact absurd h4 (h3' m h2 j h3)
 ·exact absurd h4' (h3 m' h2' j' h3')
 ·exact ⟨h2.trans h2'.symm, h1.trans h1'.symm⟩
theorem FfAns.len {s key : ByteArray} {l : List Pnt} {x : Bool} (h : FfAns s key l x) : l.length ≤ 60 := by
 rcases h with ⟨_, m, j, h2, h3, _, _, h6⟩ | ⟨_, h2, _⟩
 ·rw [h6]
  exact (h2.2.1.2 j h3).2.2.1
 ·rw [h2]
  simp
def FfOk (s key : ByteArray) (w' : World) (b : Nat) (e : Ending) : Prop := ∃ v l ok, e = .returned (.tuple #[v, .bool ok]) ∧ FfAns s key l ok ∧ Owns w' b 90 2 v (ptR l)
end Go.Proofs.YtikknmoeefipmaaGreatDoor
namespace Go.Proofs.YtikknmoeefipmaaGreatDoor
open Go.ChangeShapes Go.WideShapes Go.ChangeAt Go.RowKit Go.PlainAid
set_option linter.unusedVariables false
def IxI (s : ByteArray) (P : List Spot) : Prop := (∃ m, GoodF s m ∧ P = (List.range m.length).map (spotOf m)) ∨ ((∀ m, ¬ GoodF s m) ∧ P = [])
set_option maxHeartbeats 2000000 in
theorem indexOfV (s : ByteArray) (w : World) (hs : s.size ≤ 1048576) (hst : SumTab w) (a0 a1 a2 : Addr) (he : Errs w a0 a1 a2) : Calls Tryz.prog 119 #[.string s] w fun e w' => (∃ v P, e = .returned v ∧ IxI s P ∧ Owns w' w.heap.size 180 5 v (spR P)) ∧ Below w.heap.size w w' := by
 have HS : Hid (s.size ≤ 1048576) := hs
 have c1 := implReadFile s w hs hst a0 a1 a2 he
 clear hs hst he
 go_enter Tryz.func119, Tryz.ntmps119
 go_wp2_with fail
 refine c1.mono ?_
 rintro e X1 ⟨⟨u1, L1, ok1, hR, rfl, _⟩, hb⟩
 have HR : Hid (RfAns s (L1.map Prod.fst) ok1) := hR
 have B1 : Hid (Below w.heap.size w X1) := hb
 clear hR hb c1
 cases ok1 with
 | false =>
  have HN : Hid (IxI s []) := by
   rcases HR.out with ⟨h, _⟩ | ⟨_, _, h⟩
   ·cases h
   ·exact .inr ⟨h, rfl⟩
  go_wp2_with fail
  go_ret
  exact ⟨⟨_, [], rfl, HN.out, Owns.nil _ _ _ _⟩, B1.out⟩
 | true =>
 have HY : Hid (IxI s (spots s)) := by
  rcases HR.out with ⟨_, h⟩ | ⟨h, _⟩
  ·exact .inl ⟨_, h, h.read.2⟩
  ·cases h
 have C0 : Hid (CurB (X1.alloc (.cells #[.string s, .int .i64 0] 243)) X1.heap.size s 0 243) := Blk.new X1 _ _
 have B0 : Hid (Below w.heap.size w (X1.alloc (.cells #[.string s, .int .i64 0] 243))) := B1.out.alloc B1.out.size _
 go_wp2_with fail
 refine (readerOfV s X1).mono ?_
 rintro e W1 ⟨rfl, hW1⟩
 rw [← hW1] at C0 B0
 clear hW1
 go_wp2_with fail
 refine (readIndexV s 0 X1.heap.size W1 C0.out HS.out).mono ?_
 rintro e X2 ⟨⟨u2, rfl, hO⟩, _, hk⟩
 have B2 : Hid (Below w.heap.size w X2) := B0.out.trans (hk.1.mono B1.out.size)
 have O2 : Hid (Owns X2 w.heap.size 180 5 u2 (spR (spots s))) := hO.mono B0.out.size
 clear hO hk
 go_wp2_with fail
 go_ret
 exact ⟨⟨_, _, rfl, HY.out, O2.out⟩, B2.out⟩
end Go.Proofs.YtikknmoeefipmaaGreatDoor
namespace Go.Proofs.YtikknmoeefipmaaGreatDoor
open Go.ChangeShapes Go.WideShapes Go.ChangeAt Go.RowKit Go.PlainAid
set_option linter.unusedVariables false
set_option maxHeartbeats 4000000 in
theorem findBlockV (s key : ByteArray) (P : List Spot) (v : Value) (w : World) (BB : Nat) (hI : IxI s P) (hO : Lies w BB 5 v (spR P)) (hBB : BB ≤ w.heap.size) (hs : s.size ≤ 1048576) (hst : SumTab w) (a0 a1 a2 : Addr) (he : Errs w a0 a1 a2) : Calls Tryz.prog 281 #[.string s, v, .string key] w fun e w' => FfOk s key w' w.heap.size e ∧ Below w.heap.size w w' := by
 have HS : Hid (s.size ≤ 1048576) := hs
 have ST : Hid (SumTab w) := hst
 have ER : Hid (Errs w a0 a1 a2) := he
 clear hs hst he
 obtain ⟨X1, hX1⟩ : ∃ X1, X1 = w := ⟨_, rfl⟩
 rw [← hX1] at hO
 have HX1 : Hid (X1 = w) := hX1
 have B1 : Hid (Below w.heap.size w X1) := by unfold Hid; rw [hX1]; exact Below.refl _ _
 obtain ⟨A, c, rfl, hl⟩ := sp_look (hO.mono (show BB ≤ X1.heap.size by rw [hX1]; exact hBB))
 clear hX1
 have HIx : Hid (IxI s P) := hI
 have HNm : Hid (∀ m, GoodF s m → P = (List.range m.length).map (spotOf m)) := fun m hm => by
  rcases hI with ⟨m', h1, h2⟩ | ⟨h1, _⟩
  ·obtain rfl := hm.one h1
   exact h2
  ·exact absurd hm (h1 m)
 have HSo : Hid (1 ≤ P.length → ∃ m, GoodF s m) := fun h => by
  rcases hI with ⟨m', h1, h2⟩ | ⟨_, h2⟩
  ·exact ⟨m', h1⟩
  ·rw [h2] at h
   simp at h
 have HN5 : Hid (P.length ≤ 5) := by
  unfold Hid
  rcases hI with ⟨m', h1, h2⟩ | ⟨_, h2⟩
  ·rw [h2, List.length_map, List.length_range]
   exact h1.2.1.1
  ·rw [h2]
   simp
 have q1 : (P.length : Int) ≤ 5 := by have := HN5.out; omega
 have HL : Hid (∀ j, j < P.length → ∃ g off, A = some ⟨g, off, none⟩ ∧ g < X1.heap.size ∧
  X1.cell? ⟨g, off + j * 5, none⟩ = some (.string (P.getD j default).key) ∧ X1.cell? ⟨g, off + j * 5 + 1, none⟩ = some (.int .i64 ((P.getD j default).at' : Int)) ∧ X1.cell? ⟨g, off + j * 5 + 2, none⟩ = some (.int .i64 ((P.getD j default).size : Int)) ∧
  X1.cell? ⟨g, off + j * 5 + 3, none⟩ = some (.int .i64 ((P.getD j default).first : Int)) ∧ X1.cell? ⟨g, off + j * 5 + 4, none⟩ = some (.int .i64 ((P.getD j default).last : Int))) := hl
 clear hI hO hl hBB
 generalize hn : P.length = n at *
 have HN : Hid (P.length = n) := hn
 clear hn
 obtain rfl : w = X1 := HX1.out.symm
 go_enter Tryz.func281, Tryz.ntmps281
 go_wp2_with fail
 go_loopw [12] (fun v12 wr => ∃ k : Nat, k ≤ n ∧ v12 = .int .i64 (k : Int) ∧ Hid (∀ i, i < k → (P.getD i default).key ≠ key) ∧ Below w.heap.size w wr) (fun i _ => n - (intOf i).toNat)
 case atStart => exact ⟨0, by omega, rfl, fun i hi => by omega, Below.refl _ _⟩
 case round =>
  obtain ⟨k, hk, rfl, HJ, hb⟩ := hrel
  have HB : Hid (Below w.heap.size w wr) := hb
  clear hb
  by_cases hlt : k < n
  ·have q4 : (k : Int) < (n : Int) := by omega
   obtain ⟨g, off, rfl, hg, e0, e1, e2, e3, e4⟩ := HL.out k hlt
   rw [← HB.out.cell (p := ⟨_, _, none⟩) hg] at e0 e1 e2 e3 e4
   obtain ⟨m, hm⟩ := HSo.out (by omega)
   have hPm := HNm.out m hm
   have hln : m.length = n := by rw [← HN.out, hPm, List.length_map, List.length_range]
   have HAt : Hid (∀ i, i < n → P.getD i default = spotOf m i) := fun i hi => by rw [hPm]; exact range_get m m.length i (by rw [hln]; exact hi)
   have HMg : Hid (GoodF s m ∧ m.length = n) := ⟨hm, hln⟩
   have HX : Hid (P.getD k default = spotOf m k) := HAt.out k hlt
   have HFit : Hid ((P.getD k default).at' ≤ 562949953421311 ∧ (P.getD k default).size ≤ 562949953421311) := by
    unfold Hid
    rw [HX.out]
    have := nums_le hm.2.1 k (by omega)
    exact ⟨this.2.1, this.2.2.1⟩
   have HBk : Hid (rbP (blkA s (P.getD k default)) = (sAt m k).pts ∧ (P.getD k default).key = (sAt m k).key) := by
    unfold Hid
    rw [HX.out]
    refine ⟨?_, rfl⟩
    have := ser_read hm.2.1 k (by omega)
    rw [← hm.text] at this
    exact congrArg Ser.pts this
   have BW : Hid (Below w.heap.size w wr) := B1.out.trans (HB.out.mono B1.out.size)
   clear hPm hln hm HX
   generalize hx : P.getD k default = x at *
   have HXk : Hid (P.getD k default = x) := hx
   clear hx hg
   obtain ⟨xk, xa, xz, xf, xl⟩ := x
   simp only at e0 e1 e2 e3 e4 HFit HBk
   have HBa : Hid (∀ cs, Below w.heap.size w (wr.alloc (.cells cs 180))) := fun cs => HB.out.alloc HB.out.size _
   by_cases hkey : xk = key
   ·have HF : Hid (FfAns s key (sAt m k).pts true) := by
     refine .inl ⟨rfl, m, k, HMg.out.1, by rw [HMg.out.2]; exact hlt, by rw [← HBk.out.2]; exact hkey, fun i hi => ?_, rfl⟩
     have h1 := HJ.out i hi
     rw [HAt.out i (by omega)] at h1
     exact h1
    subst hkey
    have KB0 : Hid (Blk (wr.alloc (.cells #[.string xk, .int .i64 (xa : Int), .int .i64 (xz : Int), .int .i64 (xf : Int), .int .i64 (xl : Int)] 180)).drew wr.heap.size #[.string xk, .int .i64 (xa : Int), .int .i64 (xz : Int), .int .i64 (xf : Int), .int .i64 (xl : Int)] 180) := Blk.new wr _ _
    have BB0 : Hid (Below w.heap.size w (wr.alloc (.cells #[.string xk, .int .i64 (xa : Int), .int .i64 (xz : Int), .int .i64 (xf : Int), .int .i64 (xl : Int)] 180)).drew) := (BW.out.alloc BW.out.size _).drew
    have S0 : Hid ((wr.alloc (.cells #[.string xk, .int .i64 (xa : Int), .int .i64 (xz : Int), .int .i64 (xf : Int), .int .i64 (xl : Int)] 180)).drew.cell? ⟨wr.heap.size, 0, none⟩ = some (.string xk) ∧ (wr.alloc (.cells #[.string xk, .int .i64 (xa : Int), .int .i64 (xz : Int), .int .i64 (xf : Int), .int .i64 (xl : Int)] 180)).drew.cell? ⟨wr.heap.size, 1, none⟩ = some (.int .i64 (xa : Int)) ∧ (wr.alloc (.cells #[.string xk, .int .i64 (xa : Int), .int .i64 (xz : Int), .int .i64 (xf : Int), .int .i64 (xl : Int)] 180)).drew.cell? ⟨wr.heap.size, 2, none⟩ = some (.int .i64 (xz : Int)) ∧ (wr.alloc (.cells #[.string xk, .int .i64 (xa : Int), .int .i64 (xz : Int), .int .i64 (xf : Int), .int .i64 (xl : Int)] 180)).drew.cell? ⟨wr.heap.size, 3, none⟩ = some (.int .i64 (xf : Int)) ∧ (wr.alloc (.cells #[.string xk, .int .i64 (xa : Int), .int .i64 (xz : Int), .int .i64 (xf : Int), .int .i64 (xl : Int)] 180)).drew.cell? ⟨wr.heap.size, 4, none⟩ = some (.int .i64 (xl : Int))) := ⟨KB0.out.cell 0 _ rfl, KB0.out.cell 1 _ rfl, KB0.out.cell 2 _ rfl, KB0.out.cell 3 _ rfl, KB0.out.cell 4 _ rfl⟩
    have cR := readerOfV s (wr.alloc (.cells #[.string xk, .int .i64 (xa : Int), .int .i64 (xz : Int), .int .i64 (xf : Int), .int .i64 (xl : Int)] 180)).drew
    go_wp2_with fail
    refine wp_region_until (fun w' => w'.cell? ⟨wr.heap.size, 0, none⟩ = some (.string xk) ∧ w'.cell? ⟨wr.heap.size, 1, none⟩ = some (.int .i64 (xa : Int)) ∧ w'.cell? ⟨wr.heap.size, 2, none⟩ = some (.int .i64 (xz : Int)) ∧ w'.cell? ⟨wr.heap.size, 3, none⟩ = some (.int .i64 (xf : Int)) ∧ w'.cell? ⟨wr.heap.size, 4, none⟩ = some (.int .i64 (xl : Int))) (fun _ => false) 6 (by rfl) (by kernel_rfl) ?_
    refine tKe 0 (v := ?_) S0.out ?_ ?_; rotate_left; focus (intro w hSw; (try dsimp only at hSw); go_simp; try with_reducible rfl)
    try simp only [Act.put, zQ1, zQ2, zQ3]
    refine tKe 2 (v := ?_) S0.out ?_ ?_; rotate_left; focus (intro w hSw; (try dsimp only at hSw); go_simp; try with_reducible rfl)
    try simp only [Act.put, zQ1, zQ2, zQ3]
    refine uNe 1 (fun K hK => ?_)
    go_simp
    refine cR.mono ?_
    rintro e Y1 ⟨rfl, hY1⟩
    have C1 : Hid (CurB Y1 (wr.alloc (.cells #[.string xk, .int .i64 (xa : Int), .int .i64 (xz : Int), .int .i64 (xf : Int), .int .i64 (xl : Int)] 180)).drew.heap.size s 0 243) := by rw [hY1]; exact Blk.new _ _ _
    have KB1 : Hid (Blk Y1 wr.heap.size #[.string xk, .int .i64 (xa : Int), .int .i64 (xz : Int), .int .i64 (xf : Int), .int .i64 (xl : Int)] 180) := by rw [hY1]; exact KB0.out.alloc _
    have BB1 : Hid (Below w.heap.size w Y1) := by rw [hY1]; exact BB0.out.alloc BB0.out.size _
    have GG : Hid (w.heap.size ≤ (wr.alloc (.cells #[.string xk, .int .i64 (xa : Int), .int .i64 (xz : Int), .int .i64 (xf : Int), .int .i64 (xl : Int)] 180)).drew.heap.size ∧ wr.heap.size ≠ (wr.alloc (.cells #[.string xk, .int .i64 (xa : Int), .int .i64 (xz : Int), .int .i64 (xf : Int), .int .i64 (xl : Int)] 180)).drew.heap.size) := ⟨BB0.out.size, by have := KB0.out.lt; omega⟩
    generalize (wr.alloc (.cells #[.string xk, .int .i64 (xa : Int), .int .i64 (xz : Int), .int .i64 (xf : Int), .int .i64 (xl : Int)] 180)).drew.heap.size = gr at *
    clear hY1 cR BB0 KB0
    go_wp2_with fail
    refine hK.out _ _ (fun _ _ => ⟨KB1.out.cell 0 _ rfl, KB1.out.cell 1 _ rfl, KB1.out.cell 2 _ rfl, KB1.out.cell 3 _ rfl, KB1.out.cell 4 _ rfl⟩) ?_
    clear hK K
    try simp only [Act.put, zQ1, zQ2, zQ3]
    refine uNe 3 (fun K hK => ?_)
    go_simp
    refine (readBlockV s 0 gr ⟨xk, xa, xz, xf, xl⟩ Y1 w C1.out HS.out HFit.out BB1.out GG.out.1 ST.out a0 a1 a2 ER.out).mono ?_
    rintro e Y2 ⟨⟨v2, rfl, hO2⟩, _, hk2⟩
    rw [HBk.out.1] at hO2
    have KB2 : Hid (Blk Y2 wr.heap.size #[.string xk, .int .i64 (xa : Int), .int .i64 (xz : Int), .int .i64 (xf : Int), .int .i64 (xl : Int)] 180) := hk2.blk KB1.out GG.out.2
    have BB2 : Hid (Below w.heap.size w Y2) := BB1.out.trans (hk2.1.mono GG.out.1)
    have O2 : Hid (Owns Y2 w.heap.size 90 2 v2 (ptR (sAt m k).pts)) := hO2.mono BB1.out.size
    clear hk2 hO2
    go_wp2_with fail
    refine hK.out _ _ (fun _ _ => ⟨KB2.out.cell 0 _ rfl, KB2.out.cell 1 _ rfl, KB2.out.cell 2 _ rfl, KB2.out.cell 3 _ rfl, KB2.out.cell 4 _ rfl⟩) ?_
    clear hK K
    try simp only [Act.put, zQ1, zQ2, zQ3]
    refine pUr 4 (v := ?_) ?_ ?_; rotate_left; focus (intro w; go_simp; try with_reducible rfl)
    try simp only [Act.put, zQ1, zQ2, zQ3]
    refine pUr 5 (v := ?_) ?_ ?_; rotate_left; focus (intro w; go_simp; try with_reducible rfl)
    try simp only [Act.put, zQ1, zQ2, zQ3]
    refine until_done (by kernel_rfl) ?_ _
    go_wp2_with fail
    refine bodyPost_ret (results_tmp2 rfl _ _ _) rfl ?_
    exact ⟨⟨_, _, true, rfl, HF.out, O2.out⟩, BB2.out⟩
   ·have HKn : Hid (xk ≠ key) := hkey
    have hne := bytes_ne hkey
    clear hkey
    go_wp2_with fail
    go_roundw
    case rel =>
     refine ⟨k + 1, by omega, by go_num, fun i hi => ?_, HBa.out _⟩
     by_cases e : i = k
     ·rw [e, HXk.out]; exact HKn.out
     ·exact HJ.out i (by omega)
    case measure => simp [intOf]; omega
  ·obtain rfl : k = n := by omega
   have BW : Hid (Below w.heap.size w wr) := B1.out.trans (HB.out.mono B1.out.size)
   have HF : Hid (FfAns s key [] false) := by
    refine .inr ⟨rfl, rfl, fun m hm j hj => ?_⟩
    have hPm := HNm.out m hm
    have hln : m.length = k := by rw [← HN.out, hPm, List.length_map, List.length_range]
    have h1 := HJ.out j (by omega)
    rw [hPm, range_get m m.length j hj] at h1
    exact h1
   go_wp2_with fail
   refine bodyPost_ret (results_tmp2 rfl _ _ _) rfl ?_
   exact ⟨⟨_, [], false, rfl, HF.out, Owns.nil _ _ _ _⟩, BW.out⟩
theorem FfAns.pts {s key : ByteArray} {l : List Pnt} {ok : Bool} {m : List Ser} (h : FfAns s key l ok) (hm : GoodF s m) : l = ptsAt m key := by
 rcases h with ⟨_, m', j, h2, h3, h4, h5, h6⟩ | ⟨_, h2, h3⟩
 ·obtain rfl := hm.one h2
  rw [h6]
  exact (ptsAt_at h3 h4 h5).symm
 ·rw [h2, ptsAt_none]
  intro x hx e
  obtain ⟨j, hj, rfl⟩ := List.getElem_of_mem hx
  rw [getD_at m j hj] at e
  exact h3 m hm j hj e
def idxF (m : List Ser) : List Spot := (List.range m.length).map (spotOf m)
theorem idxF_keys (m : List Ser) : (idxF m).map Spot.key = m.map Ser.key := by
 unfold idxF
 rw [List.map_map]
 conv => rhs; rw [← range_at m]
 rw [List.map_map]
 rfl
theorem idxF_length (m : List Ser) : (idxF m).length = m.length := by simp [idxF]
set_option maxHeartbeats 2000000 in
theorem filedPoints (s key : ByteArray) (m : List Ser) (u : Value) (w : World) (B : Nat) (hm : GoodF s m) (hO : Lies w B 5 u (spR (idxF m))) (hB : B ≤ w.heap.size) (hs : s.size ≤ 1048576) (hst : SumTab w) (a0 a1 a2 : Addr) (he : Errs w a0 a1 a2) :
  Calls Tryz.prog 280 #[.agg #[.string s, u], .string key] w fun e w' => (∃ v, e = .returned v ∧ Owns w' w.heap.size 90 2 v (ptR (ptsAt m key))) ∧ Below w.heap.size w w' := by
 have HM : Hid (GoodF s m) := hm
 obtain ⟨A, c, rfl, _⟩ := sp_look hO
 rw [idxF_length] at hO ⊢
 generalize m.length = n at *
 obtain ⟨X0, hX0⟩ : ∃ X0, X0 = w.alloc (.cells #[.string s, .slice A n c] 166) := ⟨_, rfl⟩
 have BX : Hid (Below w.heap.size w X0) := by unfold Hid; rw [hX0]; exact (Below.refl _ w).alloc (Nat.le_refl _) _
 have c1 := findBlockV s key (idxF m) (.slice A n c) X0 B (.inl ⟨m, hm, rfl⟩) (hO.on (BX.out.mono hB)) (Nat.le_trans hB BX.out.size) hs (hst.on BX.out) a0 a1 a2 (he.on BX.out)
 clear hm hO hB hs hst he
 go_enter Tryz.func280, Tryz.ntmps280
 go_wp2_with fail
 rw [← hX0]
 clear hX0
 refine c1.mono ?_
 rintro e X1 ⟨⟨v, l, ok, rfl, hF, hO1⟩, hb1⟩
 have HF : Hid (l = ptsAt m key) := hF.pts HM.out
 have O1 : Hid (Owns X1 w.heap.size 90 2 v (ptR (ptsAt m key))) := by unfold Hid; rw [← HF.out]; exact hO1.mono BX.out.size
 have B1 : Hid (Below w.heap.size w X1) := BX.out.trans (hb1.mono BX.out.size)
 clear hF hO1 hb1 c1 HF
 go_wp2_with fail
 go_ret
 exact ⟨⟨_, rfl, O1.out⟩, B1.out⟩
theorem sp_cells {w : World} {B n c : Nat} {A : Option Addr} {l : List Spot} (h : Lies w B 5 (.slice A n c) (spR l)) : ∀ j, j < l.length → ∃ g off, A = some ⟨g, off, none⟩ ∧ g < B ∧
  w.cell? ⟨g, off + j * 5, none⟩ = some (.string (l.getD j default).key) ∧ w.cell? ⟨g, off + j * 5 + 1, none⟩ = some (.int .i64 ((l.getD j default).at' : Int)) ∧ w.cell? ⟨g, off + j * 5 + 2, none⟩ = some (.int .i64 ((l.getD j default).size : Int)) ∧
  w.cell? ⟨g, off + j * 5 + 3, none⟩ = some (.int .i64 ((l.getD j default).first : Int)) ∧ w.cell? ⟨g, off + j * 5 + 4, none⟩ = some (.int .i64 ((l.getD j default).last : Int)) := by
 obtain ⟨A', c', e, hl⟩ := sp_look h
 cases e
 exact hl
set_option maxHeartbeats 2000000 in
theorem filedKeys (s : ByteArray) (l : List Spot) (u : Value) (w : World) (B : Nat) (hO : Lies w B 5 u (spR l)) (hn : l.length ≤ 1000) (hB : B ≤ w.heap.size) :
  Calls Tryz.prog 279 #[.agg #[.string s, u]] w fun e w' => (∃ v, e = .returned v ∧ Owns w' w.heap.size 9 1 v (stR (l.map Spot.key))) ∧ Below w.heap.size w w' := by
 obtain ⟨A, cap, rfl, _⟩ := sp_look hO
 have HL : Hid (∀ wx, Below w.heap.size w wx → ∀ j, j < l.length → ∃ g off, A = some ⟨g, off, none⟩ ∧ g < B ∧
  wx.cell? ⟨g, off + j * 5, none⟩ = some (.string (l.getD j default).key) ∧ wx.cell? ⟨g, off + j * 5 + 1, none⟩ = some (.int .i64 ((l.getD j default).at' : Int)) ∧ wx.cell? ⟨g, off + j * 5 + 2, none⟩ = some (.int .i64 ((l.getD j default).size : Int)) ∧
  wx.cell? ⟨g, off + j * 5 + 3, none⟩ = some (.int .i64 ((l.getD j default).first : Int)) ∧ wx.cell? ⟨g, off + j * 5 + 4, none⟩ = some (.int .i64 ((l.getD j default).last : Int))) := fun wx hx => sp_cells (hO.on (hx.mono hB))
 have HT : Hid (∀ k, k < l.length → (l.take (k + 1)).map Spot.key = (l.take k).map Spot.key ++ [(l.getD k default).key]) := fun k hk => by rw [take_getD l k hk, List.map_append]; rfl
 have HA : Hid (∀ k, k = l.length → (l.take k).map Spot.key = l.map Spot.key) := fun k hk => by rw [hk, List.take_length]
 have q1 : (l.length : Int) ≤ 1000 := by omega
 have HLn : Hid (∀ k, k ≤ l.length → (stR ((l.take k).map Spot.key)).length ≤ 2097152) := fun k hk => by rw [stR_length, List.length_map, List.length_take]; omega
 clear hO hB
 generalize hN : l.length = n at *
 clear hN
 obtain ⟨X0, hX0⟩ : ∃ X0, X0 = w.alloc (.cells #[.string s, .slice A n cap] 166) := ⟨_, rfl⟩
 have BX : Hid (Below w.heap.size w X0) := by unfold Hid; rw [hX0]; exact (Below.refl _ w).alloc (Nat.le_refl _) _
 go_enter Tryz.func279, Tryz.ntmps279
 go_wp2_with fail
 rw [← hX0]
 clear hX0
 go_loopw [3, 9] (fun v3 v9 wr => ∃ k : Nat, k ≤ n ∧ v9 = .int .i64 (k : Int) ∧ Owns wr w.heap.size 9 1 v3 (stR ((l.take k).map Spot.key)) ∧ Below w.heap.size w wr) (fun _ i _ => n - (intOf i).toNat)
 case atStart => exact ⟨0, by omega, rfl, Owns.nil _ _ _ _, BX.out⟩
 case round =>
  obtain ⟨k, hk, rfl, hO, hb⟩ := hrel
  have HO : Hid (Owns wr w.heap.size 9 1 u3 (stR ((l.take k).map Spot.key))) := hO
  have HBr : Hid (Below w.heap.size w wr) := hb
  obtain ⟨A3, n3, c3, rfl⟩ := hO.shape
  clear hO hb
  by_cases hlt : k < n
  ·have q4 : (k : Int) < (n : Int) := by omega
   obtain ⟨g, off, rfl, hg, e0, e1, e2, e3, e4⟩ := HL.out wr HBr.out k hlt
   have HE : Hid ((l.take (k + 1)).map Spot.key = (l.take k).map Spot.key ++ [(l.getD k default).key]) := HT.out k hlt
   have L2 := HLn.out k hk
   generalize (l.take k).map Spot.key = o at *
   generalize l.getD k default = x at *
   obtain ⟨xk, xa, xz, xf, xl⟩ := x
   simp only at e0 e1 e2 e3 e4 HE
   obtain ⟨W1, hW1⟩ : ∃ W1, W1 = wr.alloc (.cells #[.string xk, .int .i64 (xa : Int), .int .i64 (xz : Int), .int .i64 (xf : Int), .int .i64 (xl : Int)] 180) := ⟨_, rfl⟩
   have HO2 : Hid (Owns (wr.alloc (.cells #[.string xk, .int .i64 (xa : Int), .int .i64 (xz : Int), .int .i64 (xf : Int), .int .i64 (xl : Int)] 180)) w.heap.size 9 1 (.slice A3 n3 c3) (stR o)) := HO.out.alloc _
   have BA : Hid (Below w.heap.size w (wr.alloc (.cells #[.string xk, .int .i64 (xa : Int), .int .i64 (xz : Int), .int .i64 (xf : Int), .int .i64 (xl : Int)] 180))) := HBr.out.alloc HBr.out.size _
   have Z : w.heap.size ≤ (wr.alloc (.cells #[.string xk, .int .i64 (xa : Int), .int .i64 (xz : Int), .int .i64 (xf : Int), .int .i64 (xl : Int)] 180)).heap.size := BA.out.size
   have LL : Hid ((stR o).length ≤ 2097152) := L2
   clear L2 hW1 W1
   go_wp2_with (at_builtin; refine Shut.out ?_)
   unfold Shut
   refine wpList_append_row (w := wr.alloc (.cells #[.string xk, .int .i64 (xa : Int), .int .i64 (xz : Int), .int .i64 (xf : Int), .int .i64 (xl : Int)] 180)) rfl (.tmp 13) (.tmp 16) 24 9 (.string ⟨#[]⟩) 1 16 rfl Tryz.underlying24 infoStr rfl (by omega) w.heap.size (.slice A3 n3 c3) (stR o) rfl HO2.out [.string xk] rfl (st_cell xk) (by rw [World.size_alloc]; rfl) LL.out (by omega) Z ?_
   intro v' w2 hO2 hb2 hk2 hw2
   obtain ⟨A2, n2, c2, rfl⟩ := hO2.shape
   have O2 : Hid (Owns w2 w.heap.size 9 1 (.slice A2 n2 c2) (stR (o ++ [xk]))) := by unfold Hid; rw [stR_append]; exact hO2
   have B2 : Hid (Below w.heap.size w w2) := BA.out.trans hb2
   clear hO2 hb2 hk2 hw2
   go_wp2_with fail
   go_roundw
   case rel => exact ⟨k + 1, by omega, by go_num, by rw [HE.out]; exact O2.out, B2.out⟩
   case measure => simp [intOf]; omega
  ·obtain rfl : k = n := by omega
   have HE : Hid ((l.take k).map Spot.key = l.map Spot.key) := HA.out k rfl
   go_wp2_with fail
   go_ret
   refine ⟨⟨_, rfl, ?_⟩, HBr.out⟩
   rw [← HE.out]
   exact HO.out
end Go.Proofs.YtikknmoeefipmaaGreatDoor
namespace Go.Proofs
open Go.Shelf
def Tryz.sortN_ren : Go.Shelf.Ren := ⟨fun | 6 => 121 | 8 => 159 | 9 => 158 | 19 => 197 | 20 => 198 | 21 => 188 | 22 => 189 | 23 => 190 | 24 => 191 | 25 => 192 | 26 => 193 | 27 => 194 | 28 => 195 | 29 => 196 | 36 => 224 | 31 => 225 | 32 => 226 | 37 => 227 | 38 => 228 | 39 => 229 | 41 => 249 | n => n, fun | 27 => 24 | 29 => 9 | 3 => 3 | 32 => 214 | 26 => 24 | 0 => 0 | 44 => 220 | 46 => 255 | 4 => 4 | 36 => 247 | 35 => 246 | 41 => 199 | 5 => 5 | 9 => 9 | 53 => 286 | 57 => 290 | 63 => 305 | 64 => 154 | n => n, fun | n => n⟩
theorem Tryz.sortN : Go.Proofs.SlLaysM.n6 Tryz.prog Tryz.sortN_ren := {
 mixed := by kernel_rfl
 f6 := ⟨Tryz.f121.name, by decide, Tryz.func121.trans (congrArg some (by kernel_rfl))⟩
 f8 := Tryz.func159.trans (congrArg some (by kernel_rfl))
 f9 := ⟨Tryz.f158.name, by decide, Tryz.func158.trans (congrArg some (by kernel_rfl))⟩
 f19 := Tryz.func197.trans (congrArg some (by kernel_rfl))
 f20 := Tryz.func198.trans (congrArg some (by kernel_rfl))
 f21 := ⟨Tryz.f188.name, by decide, Tryz.func188.trans (congrArg some (by kernel_rfl))⟩
 f22 := ⟨Tryz.f189.name, by decide, Tryz.func189.trans (congrArg some (by kernel_rfl))⟩
 f23 := ⟨Tryz.f190.name, by decide, Tryz.func190.trans (congrArg some (by kernel_rfl))⟩
 f24 := ⟨Tryz.f191.name, by decide, Tryz.func191.trans (congrArg some (by kernel_rfl))⟩
 f25 := ⟨Tryz.f192.name, by decide, Tryz.func192.trans (congrArg some (by kernel_rfl))⟩
 f26 := ⟨Tryz.f193.name, by decide, Tryz.func193.trans (congrArg some (by kernel_rfl))⟩
 f27 := ⟨Tryz.f194.name, by decide, Tryz.func194.trans (congrArg some (by kernel_rfl))⟩
 f28 := ⟨Tryz.f195.name, by decide, Tryz.func195.trans (congrArg some (by kernel_rfl))⟩
 f29 := ⟨Tryz.f196.name, by decide, Tryz.func196.trans (congrArg some (by kernel_rfl))⟩
 f31 := Tryz.func225.trans (congrArg some (by kernel_rfl))
 f32 := Tryz.func226.trans (congrArg some (by kernel_rfl))
 f36 := ⟨Tryz.f224.name, by decide, Tryz.func224.trans (congrArg some (by kernel_rfl))⟩
 f37 := ⟨Tryz.f227.name, by decide, Tryz.func227.trans (congrArg some (by kernel_rfl))⟩
 f38 := ⟨Tryz.f228.name, by decide, Tryz.func228.trans (congrArg some (by kernel_rfl))⟩
 f39 := ⟨Tryz.f229.name, by decide, Tryz.func229.trans (congrArg some (by kernel_rfl))⟩
 f41 := ⟨Tryz.f249.name, by decide, Tryz.func249.trans (congrArg some (by kernel_rfl))⟩
 t0 := Tryz.underlying0
 a0 := Tryz.isAgg0
 z0 := Tryz.sizeOf0
 v0 := Tryz.zeroValue0
 t3 := Tryz.underlying3
 a3 := Tryz.isAgg3
 z3 := Tryz.sizeOf3
 v3 := Tryz.zeroValue3
 t4 := Tryz.underlying4
 a4 := Tryz.isAgg4
 z4 := Tryz.sizeOf4
 v4 := Tryz.zeroValue4
 t5 := Tryz.underlying5
 a5 := Tryz.isAgg5
 z5 := Tryz.sizeOf5
 v5 := Tryz.zeroValue5
 t9 := Tryz.underlying9
 a9 := Tryz.isAgg9
 z9 := Tryz.sizeOf9
 v9 := Tryz.zeroValue9
 t26 := Tryz.underlying24
 a26 := Tryz.isAgg24
 z26 := Tryz.sizeOf24
 v26 := Tryz.zeroValue24
 t27 := Tryz.underlying24
 a27 := Tryz.isAgg24
 z27 := Tryz.sizeOf24
 v27 := Tryz.zeroValue24
 t29 := Tryz.underlying9
 a29 := Tryz.isAgg9
 z29 := Tryz.sizeOf9
 v29 := Tryz.zeroValue9
 t32 := Tryz.underlying214
 a32 := Tryz.isAgg214
 z32 := Tryz.sizeOf214
 v32 := Tryz.zeroValue214
 t35 := Tryz.underlying246
 a35 := Tryz.isAgg246
 z35 := Tryz.sizeOf246
 v35 := Tryz.zeroValue246
 t36 := Tryz.underlying247
 a36 := Tryz.isAgg247
 z36 := Tryz.sizeOf247
 v36 := Tryz.zeroValue247
 t41 := Tryz.underlying199
 a41 := Tryz.isAgg199
 z41 := Tryz.sizeOf199
 v41 := Tryz.zeroValue199
 t44 := Tryz.underlying220
 a44 := Tryz.isAgg220
 z44 := Tryz.sizeOf220
 v44 := Tryz.zeroValue220
 t46 := Tryz.underlying255
 a46 := Tryz.isAgg255
 z46 := Tryz.sizeOf255
 v46 := Tryz.zeroValue255
 t53 := Tryz.underlying286
 a53 := Tryz.isAgg286
 z53 := Tryz.sizeOf286
 v53 := Tryz.zeroValue286
 t57 := Tryz.underlying290
 a57 := Tryz.isAgg290
 z57 := Tryz.sizeOf290
 v57 := Tryz.zeroValue290
 t63 := Tryz.underlying305
 a63 := Tryz.isAgg305
 z63 := Tryz.sizeOf305
 v63 := Tryz.zeroValue305
 t64 := Tryz.underlying154
 a64 := Tryz.isAgg154
 z64 := Tryz.sizeOf154
 v64 := Tryz.zeroValue154 }
def Tryz.compactN_ren : Go.Shelf.Ren := ⟨fun | 44 => 122 | n => n, fun | 25 => 24 | 26 => 9 | 3 => 3 | 4 => 4 | 0 => 0 | n => n, fun | n => n⟩
theorem Tryz.compactN : Go.Proofs.SlLaysN.n44 Tryz.prog Tryz.compactN_ren := {
 mixed := by kernel_rfl
 f44 := ⟨Tryz.f122.name, by decide, Tryz.func122.trans (congrArg some (by kernel_rfl))⟩
 t0 := Tryz.underlying0
 a0 := Tryz.isAgg0
 z0 := Tryz.sizeOf0
 v0 := Tryz.zeroValue0
 t3 := Tryz.underlying3
 a3 := Tryz.isAgg3
 z3 := Tryz.sizeOf3
 v3 := Tryz.zeroValue3
 t4 := Tryz.underlying4
 a4 := Tryz.isAgg4
 z4 := Tryz.sizeOf4
 v4 := Tryz.zeroValue4
 t25 := Tryz.underlying24
 a25 := Tryz.isAgg24
 z25 := Tryz.sizeOf24
 v25 := Tryz.zeroValue24
 t26 := Tryz.underlying9
 a26 := Tryz.isAgg9
 z26 := Tryz.sizeOf9
 v26 := Tryz.zeroValue9
 i26 := by kernel_rfl }
def Tryz.cloneP_ren : Go.Shelf.Ren := ⟨fun | 41 => 90 | n => n, fun | 22 => 48 | 23 => 90 | 4 => 4 | n => n, fun | n => n⟩
theorem Tryz.cloneP : Go.Proofs.SlLaysE0.n41 Tryz.prog Tryz.cloneP_ren := {
 mixed := by kernel_rfl
 f41 := ⟨Tryz.f90.name, by decide, Tryz.func90.trans (congrArg some (by kernel_rfl))⟩
 t4 := Tryz.underlying4
 a4 := Tryz.isAgg4
 z4 := Tryz.sizeOf4
 v4 := Tryz.zeroValue4
 t22 := Tryz.underlying48
 a22 := Tryz.isAgg48
 z22 := Tryz.sizeOf48
 v22 := Tryz.zeroValue48 }
end Go.Proofs
namespace Go.Proofs.YtikknmoeefipmaaGreatDoor
open Go.ChangeShapes Go.WideShapes Go.ChangeAt Go.RowKit Go.PlainAid Go.Shelf Go.Sort
set_option linter.unusedVariables false
def toL (k : ByteArray) : List UInt8 := k.data.toList
def ofL (x : List UInt8) : ByteArray := ⟨x.toArray⟩
theorem ofL_toL (k : ByteArray) : ofL (toL k) = k := by cases k; rfl
theorem toL_ofL (x : List UInt8) : toL (ofL x) = x := rfl
theorem toL_list (k : ByteArray) : k.toList = toL k := Lib.toList_data k
theorem ahd_toL (a b : ByteArray) : ahd a b = Op.bytesLess (toL a) (toL b) := by unfold ahd; rw [toL_list, toL_list]
theorem enc_ofL (l : List (List UInt8)) : l.map encStr = strCells (l.map ofL) := by
 unfold strCells
 rw [List.map_map]
 rfl
def leU (x y : List UInt8) : Bool := decide (x ≤ y)
theorem leU_iff (x y : List UInt8) : leU x y = true ↔ Op.bytesLess y x = false := by
 unfold leU
 rw [decide_eq_true_eq, bytesLess_eq, decide_eq_false_iff_not]
 exact List.not_lt.symm
theorem lt_of_le_ne {x y : List UInt8} (h : leU x y = true) (hne : x ≠ y) : Op.bytesLess x y = true := by
 rw [leU_iff] at h
 cases e : Op.bytesLess x y with
 | true => rfl
 | false => exact absurd (less_tri e h) hne
theorem lt_of_le_lt {x z y : List UInt8} (h : leU x z = true) (h2 : Op.bytesLess z y = true) : Op.bytesLess x y = true := by
 by_cases e : x = z
 ·rw [e]; exact h2
 ·exact less_trans (lt_of_le_ne h e) h2
theorem leU_trans (a b c : List UInt8) (h1 : leU a b = true) (h2 : leU b c = true) : leU a c = true := by
 unfold leU at *
 rw [decide_eq_true_eq] at *
 exact List.le_trans h1 h2
theorem leU_total (a b : List UInt8) : (leU a b || leU b a) = true := by
 unfold leU
 rcases List.le_total a b with h | h
 ·rw [decide_eq_true h]; rfl
 ·rw [decide_eq_true h, Bool.or_true]
theorem compact_up (zs : List (List UInt8)) (hs : zs.Pairwise fun x y => leU x y = true) : ∀ m, m ≤ zs.length → (Lib.compactUpTo zs.toArray m).Pairwise (fun x y => Op.bytesLess x y = true) ∧ ∀ x, x ∈ Lib.compactUpTo zs.toArray m ↔ ∃ j, j < m ∧ zs.toArray[j]! = x
 | 0, _ => ⟨by simp [Lib.compactUpTo], fun x => by simp [Lib.compactUpTo]⟩
 | m + 1, hm => by
  obtain ⟨h1, h2⟩ := compact_up zs hs m (by omega)
  have get : ∀ j (hj : j < zs.length), zs.toArray[j]! = zs[j] := fun j hj => by rw [getElem!_pos zs.toArray j (by simpa using hj)]; simp
  have hle : ∀ i j, i < j → j < zs.length → leU zs.toArray[i]! zs.toArray[j]! = true := fun i j hij hj => by
   rw [get i (by omega), get j hj]
   exact (List.pairwise_iff_getElem.1 hs) i j (by omega) hj hij
  rw [Lib.compactUpTo_succ]
  cases hk : Lib.keeps zs.toArray m with
  | true =>
   rw [if_pos rfl]
   refine ⟨List.pairwise_append.2 ⟨h1, List.pairwise_singleton _ _, fun x hx y hy => ?_⟩, fun x => ?_⟩
   ·rw [List.mem_singleton.1 hy]
    obtain ⟨j, hj, rfl⟩ := (h2 x).1 hx
    have hne : zs.toArray[m]! ≠ zs.toArray[m - 1]! := by
     unfold Lib.keeps at hk
     rcases of_decide_eq_true hk with h | h
     ·omega
     ·exact h
    have hlt : Op.bytesLess zs.toArray[m - 1]! zs.toArray[m]! = true := lt_of_le_ne (hle (m - 1) m (by omega) (by omega)) fun e => hne e.symm
    by_cases e : j = m - 1
    ·rw [e]; exact hlt
    ·exact lt_of_le_lt (hle j (m - 1) (by omega) (by omega)) hlt
   ·rw [List.mem_append, List.mem_singleton, h2]
    constructor
    ·rintro (⟨j, hj, e⟩ | e)
     ·exact ⟨j, by omega, e⟩
     ·exact ⟨m, by omega, e.symm⟩
    ·rintro ⟨j, hj, e⟩
     by_cases e2 : j = m
     ·exact .inr (by rw [← e, e2])
     ·exact .inl ⟨j, by omega, e⟩
  | false =>
   rw [if_neg (by simp), List.append_nil]
   refine ⟨h1, fun x => ?_⟩
   rw [h2]
   constructor
   ·rintro ⟨j, hj, e⟩; exact ⟨j, by omega, e⟩
   ·rintro ⟨j, hj, e⟩
    by_cases e2 : j = m
    ·unfold Lib.keeps at hk
     have hno := of_decide_eq_false hk
     have hm0 : m ≠ 0 := fun h => hno (.inl h)
     have heq : zs.toArray[m]! = zs.toArray[m - 1]! := Classical.byContradiction fun h => hno (.inr h)
     exact ⟨m - 1, by omega, by rw [← heq, ← e2]; exact e⟩
    ·exact ⟨j, by omega, e⟩
def onceK (ks : List ByteArray) : List (List UInt8) := Lib.compact ((ks.map toL).mergeSort fun x y => decide (x ≤ y))
theorem once_all (ks : List ByteArray) : (onceK ks).map ofL = allK ks := by
 have hs := List.pairwise_mergeSort (le := leU) leU_trans leU_total (ks.map toL)
 have hp := List.mergeSort_perm (ks.map toL) leU
 obtain ⟨h1, h2⟩ := compact_up ((ks.map toL).mergeSort leU) hs _ (Nat.le_refl _)
 have ho : onceK ks = Lib.compactUpTo ((ks.map toL).mergeSort leU).toArray ((ks.map toL).mergeSort leU).length := rfl
 refine riseK_ext ?_ (rise_allK ks) fun k => ?_
 ·unfold RiseK
  rw [List.pairwise_map, ho]
  exact h1.imp fun {x y} h => by rw [ahd_toL]; exact h
 ·rw [mem_allK, List.mem_map, ho]
  constructor
  ·rintro ⟨x, hx, rfl⟩
   obtain ⟨j, hj, rfl⟩ := (h2 x).1 hx
   rw [getElem!_pos _ j (by simpa using hj)]
   have hm : ((ks.map toL).mergeSort leU).toArray[j]'(by simpa using hj) ∈ ks.map toL := hp.subset (by simp)
   obtain ⟨y, hy, e⟩ := List.mem_map.1 hm
   rw [← e, ofL_toL]
   exact hy
  ·intro hk
   have hm : toL k ∈ (ks.map toL).mergeSort leU := hp.symm.subset (List.mem_map_of_mem hk)
   obtain ⟨j, hj, e⟩ := List.getElem_of_mem hm
   refine ⟨toL k, (h2 _).2 ⟨j, hj, ?_⟩, ofL_toL k⟩
   rw [getElem!_pos _ j (by simpa using hj)]
   simpa using e
theorem strs_enc {w : World} {base : Nat} {v : Value} {ks : List ByteArray} (h : Owns w base 9 1 v (stR ks)) : w.ownsRow base 9 1 v ks.length ((ks.map toL).map encStr) := by
 have := owns_strs h
 rw [enc_ofL, List.map_map, show (ofL ∘ toL) = id from funext ofL_toL, List.map_id]
 exact this
theorem enc_strs {w : World} {base : Nat} {v : Value} {n : Nat} {ss : List (List UInt8)} (hn : n = ss.length) (h : w.ownsRow base 9 1 v n (ss.map encStr)) : Owns w base 9 1 v (stR (ss.map ofL)) := by
 refine strs_owns ?_
 unfold Strs
 rw [List.length_map, ← hn, ← enc_ofL]
 exact h
theorem sortV (ks : List ByteArray) (v : Value) (w : World) (base : Nat) (h : Owns w base 9 1 v (stR ks)) (hn : ks.length ≤ 100000) :
  Calls Tryz.prog 121 #[v] w fun e w' => e = .returned (.tuple #[]) ∧ Owns w' base 9 1 v (stR (((ks.map toL).mergeSort fun x y => decide (x ≤ y)).map ofL)) ∧ Below base w w' := by
 have hs := strs_enc h
 rcases hs.2 with ⟨rfl, h0⟩ | ⟨g, c, cur, rfl, hbase, hb, h1, h2, h3, h4⟩
 ·refine (AnyM.slices_Sort_string_none Tryz.sortN none 0 w).mono ?_
  rintro e w' ⟨rfl, rfl⟩
  have : ks = [] := List.eq_nil_of_length_eq_zero h0
  subst this
  exact ⟨rfl, by simpa using h, Below.refl _ _⟩
 ·have hlt := (h.lt g rfl).2
  obtain ⟨g', cap', e', hbg, hgl, hnc, hcm, hlen, hH⟩ := Lib.holds_of_ownsRow hs (by intro e; cases e)
  cases e'
  have c1 := AnyM.slices_Sort_string Tryz.sortN g 0 c (ks.map toL) w hH hgl (by rw [List.length_map]; omega)
  rw [List.length_map] at c1
  refine c1.mono ?_
  rintro e w' ⟨rfl, n, os, rfl⟩
  have hl2 : ((ks.map toL).mergeSort fun x y => decide (x ≤ y)).length = (ks.map toL).length := List.length_mergeSort _
  have ho := ownsRow_sorted (n := n) (os := os) (ss := ks.map toL) (ts := (ks.map toL).mergeSort fun x y => decide (x ≤ y)) hl2 hbase hb (by rw [List.length_map]; exact h1) h2 h3
  rw [List.length_map] at ho
  exact ⟨rfl, enc_strs (by rw [hl2, List.length_map]) ho, (Below.refl base w).grown (grownBy_sorted _) (Nat.le_trans hbase (Nat.le_of_lt hlt)) (fun j hj => by cases hj; exact hbase)⟩
theorem compactV (zs : List (List UInt8)) (v : Value) (w : World) (base : Nat) (h : Owns w base 9 1 v (stR (zs.map ofL))) (hn : zs.length ≤ 100000) :
  Calls Tryz.prog 122 #[v] w fun e w' => (∃ u, e = .returned u ∧ Owns w' base 9 1 u (stR ((Lib.compact zs).map ofL))) ∧ Below base w w' := by
 have hs := strs_enc h
 have hid : (zs.map ofL).map toL = zs := by rw [List.map_map, show (toL ∘ ofL) = id from funext toL_ofL, List.map_id]
 rw [hid, List.length_map] at hs
 rcases hs.2 with ⟨rfl, h0⟩ | ⟨g, c, cur, rfl, hbase, hb, h1, h2, h3, h4⟩
 ·refine (AnyG.slices_Compact_string_empty Tryz.compactN none 0 w).mono ?_
  rintro e w' ⟨rfl, rfl⟩
  have : zs = [] := List.eq_nil_of_length_eq_zero h0
  subst this
  exact ⟨⟨_, rfl, h⟩, Below.refl _ _⟩
 ·obtain ⟨g', cap', e', hbg, hgl, hnc, hcm, hlen, hH⟩ := Lib.holds_of_ownsRow hs (by intro e; cases e)
  cases e'
  have c1 := AnyG.slices_Compact_string Tryz.compactN g 0 c zs w hH (by omega) hnc
  refine c1.mono ?_
  rintro e w' ⟨rfl, q, rfl⟩
  have hle := Lib.compact_length_le zs
  have ho := Lib.ownsRow_putRow (q := q) (k := (Lib.compact zs).length) (ys := Lib.compact zs ++ List.replicate (zs.length - (Lib.compact zs).length) []) hs (by simp; omega) hle
  rw [List.take_left] at ho
  exact ⟨⟨_, rfl, enc_strs rfl ho⟩, Lib.below_putRow (Below.refl _ _) hbg⟩
end Go.Proofs.YtikknmoeefipmaaGreatDoor
