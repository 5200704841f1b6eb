/- EgI1 FlFindM FlIxO -/
import Derived.Test.YtpmgndgkmffcnaaGreatDoorQd17
import Derived.Test.YtpmgndgkmffcnaaGreatDoorQd36
import Derived.Test.YtpmgndgkmffcnaaGreatDoorQd28
import Derived.WalkKit
import Derived.ProofKit
import Derived.OpenShut
import Derived.Below
import Derived.WalkSmall
import Derived.BigQuiet
import Derived.Deep.QuietTactic
import Derived.Deep.RegionWith
import Derived.Handy
import Derived.Test.YtpmgndgkmffcnaaGreatDoorQd18
import Derived.Test.YtpmgndgkmffcnaaGreatDoorQd30
namespace Go.Proofs.YtpmgndgkmffcnaaGreatDoor
open Go.ChangeShapes Go.WideShapes Go.ChangeAt Go.RowKit Go.PlainAid
set_option linter.unusedVariables false
set_option maxHeartbeats 1000000 in
theorem implHowMany (l : List Ser) (v : Value) (w : World) (B : Nat) (hv : SerV w B v l) (hn : l.length ≤ 1000) (hs : ∀ x ∈ l, x.pts.length ≤ 1000) (hB : B ≤ w.heap.size) :
  Calls Tryz.prog 66 #[v] w fun e w' => e = .returned (.int .i64 (cntS l : Int)) ∧ Below w.heap.size w w' := by
 obtain ⟨A, cap, rfl, hl⟩ := hv.look
 have HL : Hid (∀ wx, Below w.heap.size w wx → ∀ j, j < l.length → ∃ g off u, A = some ⟨g, off, none⟩ ∧ g < B ∧ wx.cell? ⟨g, off + j * 2, none⟩ = some (.string (l.getD j default).key) ∧ wx.cell? ⟨g, off + j * 2 + 1, none⟩ = some u ∧ Lies wx B 2 u (ptR (l.getD j default).pts)) := fun wx hx => by
  obtain ⟨A', c', e', h⟩ := (hv.on (hx.mono hB)).look
  cases e'
  exact h
 have HC : Hid (∀ k, k ≤ l.length → cntS (l.take k) ≤ 1000 * k) := cntS_le l hs
 have HS : Hid (∀ k, k < l.length → cntS (l.take (k + 1)) = cntS (l.take k) + (l.getD k default).pts.length) := fun k hk => cntS_snoc l k hk
 have HT : Hid (∀ k, k = l.length → cntS (l.take k) = cntS l) := fun k hk => by rw [hk, List.take_length]
 have HM : Hid (∀ k, k < l.length → (l.getD k default).pts.length ≤ 1000) := fun k hk => hs _ (getD_mem l k hk)
 have H0 : Hid (cntS (l.take 0) = 0) := by simp [Hid, cntS]
 have q1 : (l.length : Int) ≤ 1000 := by omega
 clear hl hv hs hB
 generalize hN : l.length = n at *
 clear hN
 go_enter Tryz.func66, Tryz.ntmps66
 go_wp2_with fail
 go_loopw [3, 8] (fun v3 v8 wr => ∃ k : Nat, k ≤ n ∧ v8 = .int .i64 (k : Int) ∧ v3 = .int .i64 (cntS (l.take k) : Int) ∧ Below w.heap.size w wr) (fun _ i _ => n - (intOf i).toNat)
 case atStart => exact ⟨0, by omega, rfl, by rw [H0.out]; rfl, Below.refl _ _⟩
 case round =>
  obtain ⟨k, hk, rfl, rfl, hb⟩ := hrel
  have HBr : Hid (Below w.heap.size w wr) := hb
  clear hb
  by_cases hlt : k < n
  ·have q4 : (k : Int) < (n : Int) := by omega
   obtain ⟨g, off, u, rfl, hg, e1, e2, hu⟩ := HL.out wr HBr.out k hlt
   obtain ⟨A', c', rfl, _⟩ := pt_look hu
   have h1 := HC.out k hk
   have h2 := HM.out k hlt
   have h3 := HS.out k hlt
   have HE : Hid (cntS (l.take (k + 1)) = cntS (l.take k) + (l.getD k default).pts.length) := h3
   clear hu h3
   generalize cntS (l.take k) = c at *
   generalize (l.getD k default).pts.length = p at *
   generalize (l.getD k default).key = xk at *
   have q5 : (c : Int) ≤ 1000000 := by omega
   have q6 : (p : Int) ≤ 1000 := by omega
   have w2 : wrap64 ((c : Int) + (p : Int)) = (c : Int) + (p : Int) := by unfold wrap64; omega
   have BA : Hid (Below w.heap.size w (wr.alloc (.cells #[.string xk, .slice A' p c'] 58))) := HBr.out.alloc HBr.out.size _
   go_wp2_with fail
   go_roundw
   case rel => exact ⟨k + 1, by omega, by go_num, by rw [HE.out]; go_num, BA.out⟩
   case measure => simp [intOf]; omega
  ·obtain rfl : k = n := by omega
   have HE : Hid (cntS (l.take k) = cntS l) := HT.out k rfl
   go_wp2_with fail
   go_ret
   exact ⟨by rw [← HE.out]; rfl, HBr.out⟩
def CaOk (l : List Ser) (f : Int) : Prop := SOk l ∧ cntS l ≤ 40 ∧ ∀ x ∈ l, f ≤ tAt x.pts 0
noncomputable instance (l : List Ser) (f : Int) : Decidable (CaOk l f) := Classical.propDecidable _
set_option maxHeartbeats 2000000 in
theorem implCacheOk (l : List Ser) (f : Int) (v : Value) (w : World) (B : Nat) (hv : SerV w B v l) (hs : SShort l) (hf : ∀ x ∈ l, x.key.size ≤ maxLen) (hB : B ≤ w.heap.size) :
  Calls Tryz.prog 85 #[v, .int .i64 f] w fun e w' => e = .returned (.bool (decide (CaOk l f))) ∧ Below w.heap.size w w' := by
 have HV : Hid (SerV w B v l) := hv
 obtain ⟨A, cap, rfl, hl⟩ := hv.look
 have HL : Hid (∀ wx, Below w.heap.size w wx → ∀ j, j < l.length → ∃ g off u, A = some ⟨g, off, none⟩ ∧ g < B ∧ wx.cell? ⟨g, off + j * 2, none⟩ = some (.string (l.getD j default).key) ∧ wx.cell? ⟨g, off + j * 2 + 1, none⟩ = some u ∧ Lies wx B 2 u (ptR (l.getD j default).pts)) := fun wx hx => by
  obtain ⟨A', c', e', h⟩ := (hv.on (hx.mono hB)).look
  cases e'
  exact h
 have c1 := implSeriesOk l _ w B hv hs hf hB
 have HB : Hid (B ≤ w.heap.size) := hB
 by_cases hso : SOk l
 ·rw [decide_eq_true hso] at c1
  have hco := hso.col
  have c2 := fun wx hx hb => implHowMany l (.slice A l.length cap) wx B hx (by have := hco.1; omega) (fun x hx => by have := (hco.2 x hx).1; omega) hb
  have qC := cntS_le l (fun x hx => by have := (hco.2 x hx).1; omega) l.length (Nat.le_refl _)
  rw [List.take_length] at qC
  have hcl := hso.1
  have HOne : Hid (∀ j, j < l.length → 1 ≤ (l.getD j default).pts.length ∧ (l.getD j default).pts.length ≤ 60) := fun j hj => ⟨(hso.2 j hj).2.1, (hso.2 j hj).2.2.1⟩
  have HBad : Hid (∀ j, j < l.length → tAt (l.getD j default).pts 0 < f → decide (CaOk l f) = false) := fun j hj h => decide_eq_false fun hok => by
   have := hok.2.2 _ (getD_mem _ j hj)
   omega
  have HGood : Hid (cntS l ≤ 40 → (∀ j, j < l.length → f ≤ tAt (l.getD j default).pts 0) → decide (CaOk l f) = true) := fun h40 h => decide_eq_true ⟨hso, h40, fun x hx => by
   obtain ⟨j, hj, rfl⟩ := List.getElem_of_mem hx
   rw [getD_at _ j hj]
   exact h j hj⟩
  have HMany : Hid (40 < cntS l → decide (CaOk l f) = false) := fun h => decide_eq_false fun hok => by have := hok.2.1; omega
  have q1 : (l.length : Int) ≤ 5 := by omega
  have q2 : (cntS l : Int) ≤ 5000 := by omega
  clear hl hv hs hf hB hso hco
  go_enter Tryz.func85, Tryz.ntmps85
  go_wp2_with fail
  refine c1.mono ?_
  rintro b X1 ⟨rfl, hb1⟩
  have B1 : Hid (Below w.heap.size w X1) := hb1
  have c3 := c2 X1 (HV.out.on (hb1.mono HB.out)) (Nat.le_trans HB.out hb1.size)
  clear hb1 c2 c1
  go_wp2_with fail
  refine c3.mono ?_
  rintro b X2 ⟨rfl, hb2⟩
  have B2 : Hid (Below w.heap.size w X2) := B1.out.trans (hb2.mono B1.out.size)
  clear hb2 c3
  generalize cntS l = cn at *
  generalize hn : l.length = n at *
  clear hn
  by_cases h4 : 40 < cn
  ·have q5 : (40 : Int) < (cn : Int) := by omega
   have HD : Hid (decide (CaOk l f) = false) := HMany.out h4
   go_wp2_with fail
   go_ret
   exact ⟨by rw [HD.out]; rfl, B2.out⟩
  ·have q5 : ¬ (40 : Int) < (cn : Int) := by omega
   have H40 : Hid (cn ≤ 40) := by unfold Hid; omega
   clear h4
   go_wp2_with fail
   go_loopw [17] (fun v17 wr => ∃ i : Nat, i ≤ n ∧ v17 = .int .i64 (i : Int) ∧ Hid (∀ j, j < i → f ≤ tAt (l.getD j default).pts 0) ∧ Below w.heap.size w wr) (fun i _ => n - (intOf i).toNat)
   case atStart => exact ⟨0, by omega, rfl, fun j hj => by omega, B2.out⟩
   case round =>
    obtain ⟨i, hi, rfl, HI, hb⟩ := hrel
    have HBr : Hid (Below w.heap.size w wr) := hb
    clear hb
    by_cases hlt : i < n
    ·have q4 : (i : Int) < (n : Int) := by omega
     obtain ⟨g, off, u, rfl, hg, e1, e2, hu⟩ := HL.out wr HBr.out i hlt
     obtain ⟨A5, n5, c5, rfl⟩ : ∃ A5 n5 c5, u = .slice A5 n5 c5 := by obtain ⟨A5, c5, e, _⟩ := hu; exact ⟨_, _, _, e⟩
     obtain ⟨g5, o5, rfl, hg5, hn5, e5⟩ := first_at (HOne.out i hlt).1 hu
     have q7 := HOne.out i hlt
     rw [← hn5] at q7
     have q8 : (0 : Int) < (n5 : Int) := by omega
     have q9 : (n5 : Int) ≤ 60 := by omega
     have HBi : Hid (tAt (l.getD i default).pts 0 < f → decide (CaOk l f) = false) := HBad.out i hlt
     have HIn2 : Hid (f ≤ tAt (l.getD i default).pts 0 → ∀ j, j < i + 1 → f ≤ tAt (l.getD j default).pts 0) := fun h j hj => by
      by_cases e : j = i
      ·rw [e]; exact h
      ·exact HI.out j (by omega)
     clear hu hn5 q7
     generalize tAt (l.getD i default).pts 0 = t at *
     generalize (l.getD i default).key = xk at *
     have BA : Hid (Below w.heap.size w (wr.alloc (.cells #[.string xk, .slice (some ⟨g5, o5, none⟩) n5 c5] 58))) := HBr.out.alloc HBr.out.size _
     have e6 := cell_alloc_keep e5 (.cells #[.string xk, .slice (some ⟨g5, o5, none⟩) n5 c5] 58)
     by_cases hlow : t < f
     ·have HD : Hid (decide (CaOk l f) = false) := HBi.out hlow
      go_wp2_with fail
      go_ret
      exact ⟨by rw [HD.out]; rfl, BA.out⟩
     ·have q10 : f ≤ t := by omega
      have HI2 : Hid (∀ j, j < i + 1 → f ≤ tAt (l.getD j default).pts 0) := HIn2.out q10
      go_wp2_with fail
      go_roundw
      case rel => exact ⟨i + 1, by omega, by go_num, HI2, BA.out⟩
      case measure => simp [intOf]; omega
    ·obtain rfl : i = n := by omega
     have HD : Hid (decide (CaOk l f) = true) := HGood.out H40.out HI.out
     go_wp2_with fail
     go_ret
     exact ⟨by rw [HD.out]; rfl, HBr.out⟩
 ·rw [decide_eq_false hso] at c1
  have HD : Hid (decide (CaOk l f) = false) := decide_eq_false fun h => hso h.1
  clear hl hv hs hf hB hso
  go_enter Tryz.func85, Tryz.ntmps85
  go_wp2_with fail
  refine c1.mono ?_
  rintro b X1 ⟨rfl, hb1⟩
  have B1 : Hid (Below w.heap.size w X1) := hb1
  clear hb1 c1
  go_wp2_with fail
  go_ret
  exact ⟨by rw [HD.out]; rfl, B1.out⟩
set_option maxHeartbeats 2000000 in
theorem cachedKeys (l : List Ser) (v : Value) (w : World) (B : Nat) (hv : SerV w B v l) (hn : l.length ≤ 1000) (hB : B ≤ w.heap.size) :
  Calls Tryz.prog 201 #[v] w fun e w' => (∃ u, e = .returned u ∧ Owns w' w.heap.size 9 1 u (stR (l.map Ser.key))) ∧ Below w.heap.size w w' := by
 obtain ⟨A, cap, rfl, hl⟩ := hv.look
 have HL : Hid (∀ wx, Below w.heap.size w wx → ∀ j, j < l.length → ∃ g off u, A = some ⟨g, off, none⟩ ∧ g < B ∧ wx.cell? ⟨g, off + j * 2, none⟩ = some (.string (l.getD j default).key) ∧ wx.cell? ⟨g, off + j * 2 + 1, none⟩ = some u ∧ Lies wx B 2 u (ptR (l.getD j default).pts)) := fun wx hx => by
  obtain ⟨A', c', e', h⟩ := (hv.on (hx.mono hB)).look
  cases e'
  exact h
 have HT : Hid (∀ k, k < l.length → (l.take (k + 1)).map Ser.key = (l.take k).map Ser.key ++ [(l.getD k default).key]) := fun k hk => by rw [take_getD l k hk, List.map_append]; rfl
 have HA : Hid (∀ k, k = l.length → (l.take k).map Ser.key = l.map Ser.key) := fun k hk => by rw [hk, List.take_length]
 have q1 : (l.length : Int) ≤ 1000 := by omega
 have HLn : Hid (∀ k, k ≤ l.length → (stR ((l.take k).map Ser.key)).length ≤ 2097152) := fun k hk => by rw [stR_length, List.length_map, List.length_take]; omega
 clear hl hv hB
 generalize hN : l.length = n at *
 clear hN
 go_enter Tryz.func201, Tryz.ntmps201
 go_wp2_with fail
 go_loopw [3, 8] (fun v3 v8 wr => ∃ k : Nat, k ≤ n ∧ v8 = .int .i64 (k : Int) ∧ Owns wr w.heap.size 9 1 v3 (stR ((l.take k).map Ser.key)) ∧ Below w.heap.size w wr) (fun _ i _ => n - (intOf i).toNat)
 case atStart => exact ⟨0, by omega, rfl, Owns.nil _ _ _ _, Below.refl _ _⟩
 case round =>
  obtain ⟨k, hk, rfl, hO, hb⟩ := hrel
  have HO : Hid (Owns wr w.heap.size 9 1 u3 (stR ((l.take k).map Ser.key))) := hO
  have HBr : Hid (Below w.heap.size w wr) := hb
  obtain ⟨A3, n3, c3, rfl⟩ := hO.shape
  clear hO hb
  by_cases hlt : k < n
  ·have q4 : (k : Int) < (n : Int) := by omega
   obtain ⟨g, off, u, rfl, hg, e1, e2, hu⟩ := HL.out wr HBr.out k hlt
   obtain ⟨A', c', rfl, _⟩ := pt_look hu
   have HE : Hid ((l.take (k + 1)).map Ser.key = (l.take k).map Ser.key ++ [(l.getD k default).key]) := HT.out k hlt
   have L2 := HLn.out k hk
   clear hu
   generalize (l.take k).map Ser.key = o at *
   generalize (l.getD k default).pts.length = pl at *
   generalize (l.getD k default).key = xk at *
   have HO2 : Hid (Owns (wr.alloc (.cells #[.string xk, .slice A' pl c'] 58)) w.heap.size 9 1 (.slice A3 n3 c3) (stR o)) := HO.out.alloc _
   have BA : Hid (Below w.heap.size w (wr.alloc (.cells #[.string xk, .slice A' pl c'] 58))) := HBr.out.alloc HBr.out.size _
   have Z : w.heap.size ≤ (wr.alloc (.cells #[.string xk, .slice A' pl c'] 58)).heap.size := BA.out.size
   have LL : Hid ((stR o).length ≤ 2097152) := L2
   clear L2
   go_wp2_with (at_builtin; refine Shut.out ?_)
   unfold Shut
   refine wpList_append_row (w := wr.alloc (.cells #[.string xk, .slice A' pl c'] 58)) rfl (.tmp 12) (.tmp 15) 23 9 (.string ⟨#[]⟩) 1 16 rfl Tryz.underlying23 infoStr rfl (by omega) w.heap.size (.slice A3 n3 c3) (stR o) rfl HO2.out [.string xk] rfl (st_cell xk) (by rw [World.size_alloc]; rfl) LL.out (by omega) Z ?_
   intro v' w2 hO2 hb2 hk2 hw2
   obtain ⟨A2, n2, c2, rfl⟩ := hO2.shape
   have O2 : Hid (Owns w2 w.heap.size 9 1 (.slice A2 n2 c2) (stR (o ++ [xk]))) := by unfold Hid; rw [stR_append]; exact hO2
   have B2 : Hid (Below w.heap.size w w2) := BA.out.trans hb2
   clear hO2 hb2 hk2 hw2
   go_wp2_with fail
   go_roundw
   case rel => exact ⟨k + 1, by omega, by go_num, by rw [HE.out]; exact O2.out, B2.out⟩
   case measure => simp [intOf]; omega
  ·obtain rfl : k = n := by omega
   have HE := HA.out k rfl
   go_wp2_with fail
   go_ret
   refine ⟨⟨_, rfl, ?_⟩, HBr.out⟩
   rw [← HE]
   exact HO.out
set_option maxHeartbeats 1000000 in
theorem cachedPoints (l : List Ser) (key : ByteArray) (v : Value) (w : World) (B : Nat) (hv : SerV w B v l) (hn : l.length ≤ 1048576) (hB : B ≤ w.heap.size) :
  Calls Tryz.prog 48 #[v, .string key] w fun e w' => (∃ u, e = .returned u ∧ Lies w' B 2 u (ptR (ptsAt l key))) ∧ Below w.heap.size w w' := by
 have HV : Hid (SerV w B v l) := hv
 obtain ⟨A, cap, rfl, hl⟩ := hv.look
 have HL : Hid (∀ wx, Below w.heap.size w wx → ∀ j, j < l.length → ∃ g off u, A = some ⟨g, off, none⟩ ∧ g < B ∧ wx.cell? ⟨g, off + j * 2, none⟩ = some (.string (l.getD j default).key) ∧ wx.cell? ⟨g, off + j * 2 + 1, none⟩ = some u ∧ Lies wx B 2 u (ptR (l.getD j default).pts)) := fun wx hx => by
  obtain ⟨A', c', e', h⟩ := (hv.on (hx.mono hB)).look
  cases e'
  exact h
 have HB : Hid (B ≤ w.heap.size) := hB
 have q1 : (l.length : Int) ≤ 1048576 := by omega
 clear hl hv hn hB
 generalize hN : l.length = n at *
 have HN : Hid (l.length = n) := hN
 clear hN
 go_enter Tryz.func48, Tryz.ntmps48
 go_wp2_with fail
 go_loopw [9] (fun v9 wr => ∃ k : Nat, k ≤ n ∧ v9 = .int .i64 (k : Int) ∧ Hid (∀ i, i < k → (l.getD i default).key ≠ key) ∧ Below w.heap.size w wr) (fun i _ => n - (intOf i).toNat)
 case atStart => exact ⟨0, by omega, rfl, fun i hi => by omega, Below.refl _ _⟩
 case round =>
  obtain ⟨k, hk, rfl, HJ, hb⟩ := hrel
  have HBr : Hid (Below w.heap.size w wr) := hb
  clear hb
  by_cases hlt : k < n
  ·have q4 : (k : Int) < (n : Int) := by omega
   obtain ⟨g, off, u, rfl, hg, e1, e2, hu⟩ := HL.out wr HBr.out k hlt
   have HU : Hid (Lies wr B 2 u (ptR (l.getD k default).pts)) := hu
   obtain ⟨A5, n5, c5, rfl⟩ : ∃ A5 n5 c5, u = .slice A5 n5 c5 := by obtain ⟨A5, c5, e, _⟩ := hu; exact ⟨_, _, _, e⟩
   clear hu
   by_cases hkey : (l.getD k default).key = key
   ·have HF : Hid (ptsAt l key = (l.getD k default).pts) := ptsAt_at (by rw [HN.out]; exact hlt) hkey HJ.out
    rw [hkey] at e1
    clear hkey
    have BA : Hid (Below w.heap.size w (wr.alloc (.cells #[.string key, .slice A5 n5 c5] 58))) := HBr.out.alloc HBr.out.size _
    have UA : Hid (Lies (wr.alloc (.cells #[.string key, .slice A5 n5 c5] 58)) B 2 (.slice A5 n5 c5) (ptR (ptsAt l key))) := by
     unfold Hid
     rw [HF.out]
     exact HU.out.on ((Below.refl B wr).alloc (Nat.le_trans HB.out HBr.out.size) _)
    go_wp2_with fail
    go_ret
    exact ⟨⟨_, rfl, UA.out⟩, BA.out⟩
   ·have HK : Hid ((l.getD k default).key ≠ key) := hkey
    have hne := bytes_ne hkey
    clear hkey
    have HJ2 : Hid (∀ i, i < k + 1 → (l.getD i default).key ≠ key) := fun i hi => by
     by_cases e : i = k
     ·rw [e]; exact HK.out
     ·exact HJ.out i (by omega)
    clear HK
    generalize (l.getD k default).key = xk at e1 hne
    have BA : Hid (Below w.heap.size w (wr.alloc (.cells #[.string xk, .slice A5 n5 c5] 58))) := HBr.out.alloc HBr.out.size _
    go_wp2_with fail
    go_roundw
    case rel => exact ⟨k + 1, by omega, by go_num, HJ2, BA.out⟩
    case measure => simp [intOf]; omega
  ·obtain rfl : k = n := by omega
   have HF : Hid (ptsAt l key = []) := ptsAt_none fun x hx => by
    obtain ⟨j, hj, rfl⟩ := List.getElem_of_mem hx
    rw [getD_at l j hj]
    exact HJ.out j (by rw [← HN.out]; exact hj)
   go_wp2_with fail
   go_ret
   refine ⟨⟨_, rfl, ?_⟩, HBr.out⟩
   rw [HF.out]
   exact ⟨none, 0, rfl, ⟨fun _ => rfl, Nat.le_refl _⟩, fun r hr => (by cases hr), .inl rfl⟩
end Go.Proofs.YtpmgndgkmffcnaaGreatDoor
namespace Go.Proofs.YtpmgndgkmffcnaaGreatDoor
open Go.ChangeShapes Go.WideShapes Go.ChangeAt Go.RowKit Go.PlainAid
set_option linter.unusedVariables false
def FfAns (s key : ByteArray) (l : List Pnt) (ok : Bool) : Prop := (ok = true ∧ ∃ m j, GoodF s m ∧ j < m.length ∧ (sAt m j).key = key ∧ (∀ i, i < j → (sAt m i).key ≠ key) ∧ l = (sAt m j).pts) ∨ (ok = false ∧ l = [] ∧ ∀ m, GoodF s m → ∀ j, j < m.length → (sAt m j).key ≠ key)
theorem FfAns.one {s key : ByteArray} {l l' : List Pnt} {x y : Bool} (h : FfAns s key l x) (h' : FfAns s key l' y) : l = l' ∧ x = y := by
 rcases h with ⟨h1, m, j, h2, h3, h4, h5, h6⟩ | ⟨h1, h2, h3⟩ <;> rcases h' with ⟨h1', m', j', h2', h3', h4', h5', h6'⟩ | ⟨h1', h2', h3'⟩
 ·obtain rfl := h2.one h2'
  obtain rfl : j = j' := by
   rcases Nat.lt_trichotomy j j' with e | e | e
   ·exact absurd h4 (h5' j e)
   ·exact e
   ·exact absurd h4' (h5 j' e)
  exact ⟨h6.trans h6'.symm, h1.trans h1'.symm⟩
 ·exact absurd h4 (h3' m h2 j h3)
 ·exact absurd h4' (h3 m' h2' j' h3')
 ·exact ⟨h2.trans h2'.symm, h1.trans h1'.symm⟩
theorem FfAns.len {s key : ByteArray} {l : List Pnt} {x : Bool} (h : FfAns s key l x) : l.length ≤ 60 := by
 rcases h with ⟨_, m, j, h2, h3, _, _, h6⟩ | ⟨_, h2, _⟩
 ·rw [h6]
  exact (h2.2.1.2 j h3).2.2.1
 ·rw [h2]
  simp
def FfOk (s key : ByteArray) (w' : World) (b : Nat) (e : Ending) : Prop := ∃ v l ok, e = .returned (.tuple #[v, .bool ok]) ∧ FfAns s key l ok ∧ Owns w' b 56 2 v (ptR l)
end Go.Proofs.YtpmgndgkmffcnaaGreatDoor
namespace Go.Proofs.YtpmgndgkmffcnaaGreatDoor
open Go.ChangeShapes Go.WideShapes Go.ChangeAt Go.RowKit Go.PlainAid
set_option linter.unusedVariables false
def IxI (s : ByteArray) (P : List Spot) : Prop := (∃ m, GoodF s m ∧ P = (List.range m.length).map (spotOf m)) ∨ ((∀ m, ¬ GoodF s m) ∧ P = [])
set_option maxHeartbeats 2000000 in
theorem indexOfV (s : ByteArray) (w : World) (hs : s.size ≤ 1048576) (hst : SumTab w) (a0 a1 a2 : Addr) (he : Errs w a0 a1 a2) : Calls Tryz.prog 86 #[.string s] w fun e w' => (∃ v P, e = .returned v ∧ IxI s P ∧ Owns w' w.heap.size 116 5 v (spR P)) ∧ Below w.heap.size w w' := by
 have HS : Hid (s.size ≤ 1048576) := hs
 have c1 := implReadFile s w hs hst a0 a1 a2 he
 clear hs hst he
 go_enter Tryz.func86, Tryz.ntmps86
 go_wp2_with fail
 refine c1.mono ?_
 rintro e X1 ⟨⟨u1, L1, ok1, hR, rfl, _⟩, hb⟩
 have HR : Hid (RfAns s (L1.map Prod.fst) ok1) := hR
 have B1 : Hid (Below w.heap.size w X1) := hb
 clear hR hb c1
 cases ok1 with
 | false =>
  have HN : Hid (IxI s []) := by
   rcases HR.out with ⟨h, _⟩ | ⟨_, _, h⟩
   ·cases h
   ·exact .inr ⟨h, rfl⟩
  go_wp2_with fail
  go_ret
  exact ⟨⟨_, [], rfl, HN.out, Owns.nil _ _ _ _⟩, B1.out⟩
 | true =>
 have HY : Hid (IxI s (spots s)) := by
  rcases HR.out with ⟨_, h⟩ | ⟨h, _⟩
  ·exact .inl ⟨_, h, h.read.2⟩
  ·cases h
 have C0 : Hid (CurB (X1.alloc (.cells #[.string s, .int .i64 0] 154)) X1.heap.size s 0 154) := Blk.new X1 _ _
 have B0 : Hid (Below w.heap.size w (X1.alloc (.cells #[.string s, .int .i64 0] 154))) := B1.out.alloc B1.out.size _
 go_wp2_with fail
 refine (readerOfV s X1).mono ?_
 rintro e W1 ⟨rfl, hW1⟩
 rw [← hW1] at C0 B0
 clear hW1
 go_wp2_with fail
 refine (readIndexV s 0 X1.heap.size W1 C0.out HS.out).mono ?_
 rintro e X2 ⟨⟨u2, rfl, hO⟩, _, hk⟩
 have B2 : Hid (Below w.heap.size w X2) := B0.out.trans (hk.1.mono B1.out.size)
 have O2 : Hid (Owns X2 w.heap.size 116 5 u2 (spR (spots s))) := hO.mono B0.out.size
 clear hO hk
 go_wp2_with fail
 go_ret
 exact ⟨⟨_, _, rfl, HY.out, O2.out⟩, B2.out⟩
end Go.Proofs.YtpmgndgkmffcnaaGreatDoor
