/- EgS5 PtCopy PtEqv EgI1 FlFindM FlIxO -/
import Derived.Test.YtikknmoeefipmaaGreatDoorQs21
import Derived.Test.YtikknmoeefipmaaGreatDoorQs2
import Derived.Test.YtikknmoeefipmaaGreatDoorQs20
import Derived.WalkKit
import Derived.ProofKit
import Derived.OpenShut
import Derived.Below
import Derived.WalkSmall
import Derived.BigQuiet
import Derived.Deep.QuietTactic
import Derived.Deep.RegionWith
import Derived.Handy
import Derived.Test.YtikknmoeefipmaaGreatDoorQs1
import Derived.Laws.CopyOwn
import Derived.Test.YtikknmoeefipmaaGreatDoorRows
import Derived.Laws.StructEq
import Derived.Test.YtikknmoeefipmaaGreatDoorQs17
import Derived.Test.YtikknmoeefipmaaGreatDoorQs15
import Derived.Test.YtikknmoeefipmaaGreatDoorQs13
import Derived.Test.YtikknmoeefipmaaGreatDoorQs8
import Derived.Test.YtikknmoeefipmaaGreatDoorQs14
namespace Go.Proofs.YtikknmoeefipmaaGreatDoor
open Go.ChangeShapes Go.WideShapes Go.ChangeAt Go.RowKit Go.PlainAid
set_option linter.unusedVariables false
noncomputable instance (e : Eng) : Decidable (EOk e) := Classical.propDecidable _
def COk (c : List Ser) : Prop := c.length ≤ 10 ∧ ∀ x ∈ c, x.pts.length ≤ 200 ∧ Rising x.pts ∧ (∀ p ∈ x.pts, inB p) ∧ x.key.size ≤ 1000
theorem SOk.col {c : List Ser} (h : SOk c) : COk c := by
 obtain ⟨h1, _, h3⟩ := (SOk_iff c).1 h
 refine ⟨by omega, fun x hx => ?_⟩
 obtain ⟨h4, h5, h6⟩ := (POk_iff _).1 (h3 x hx).2.2
 exact ⟨by omega, h5, h6, by have := (h3 x hx).1.2.1; omega⟩
theorem lays_col {e : Eng} (hc : COk e.cache) (hF : ∀ s ∈ e.files, isF s) : ∀ l ∈ lays e, COk l := fun l hl => by
 rcases List.mem_append.1 hl with h | h
 ·obtain ⟨s, hs, rfl⟩ := List.mem_map.1 h
  exact ((hF s hs).good).2.1.col
 ·rw [List.mem_singleton.1 h]; exact hc
theorem plain_keys {ls : List (List Ser)} {f : Int} (h : ∀ l ∈ ls, COk l) : ∀ x ∈ plainR ls f, x.key.size ≤ maxLen := fun x hx => by
 obtain ⟨l, hl, y, hy, e⟩ := mem_keysL.1 (mem_plainK hx).1
 rw [← e]
 have := ((h l hl).2 y hy).2.2.2
 unfold maxLen
 omega
theorem lays_ok {e : Eng} (hn : e.files.length ≤ 9) (hc : COk e.cache) (hF : ∀ s ∈ e.files, isF s) : LOk (lays e) := by
 have hall := lays_col hc hF
 refine ⟨⟨?_, fun l hl => ⟨(hall l hl).1, fun x hx => ((hall l hl).2 x hx).1⟩⟩, fun l hl x hx => ((hall l hl).2 x hx).2.1, fun l hl x hx => ((hall l hl).2 x hx).2.2.1⟩
 unfold lays laysF
 rw [List.length_append, List.length_map, List.length_singleton]
 omega
theorem plainE_short {e : Eng} (h : LOk (lays e)) : SShort (plainE e) := by
 refine ⟨?_, fun x hx => ?_⟩
 ·have h1 := plainK_len (lays e) e.floor (keysL (lays e))
  have h2 := h.1.keys
  unfold plainE plainR
  omega
 ·rw [(mem_plainK hx).2.1]
  have := h.has_len e.floor x.key
  omega
theorem first_at {x : Ser} (h : 1 ≤ x.pts.length) {w : World} {B n c : Nat} {A : Option Addr} (hu : Lies w B 2 (.slice A n c) (ptR x.pts)) : ∃ g off, A = some ⟨g, off, none⟩ ∧ g < B ∧ n = x.pts.length ∧ w.cell? ⟨g, off, none⟩ = some (.int .i64 (tAt x.pts 0)) := by
 obtain ⟨A', c', e, hl⟩ := pt_look hu
 cases e
 obtain ⟨g, off, e, hg, h1, _⟩ := hl 0 (by omega)
 refine ⟨g, off, e, hg, rfl, ?_⟩
 rw [Nat.zero_mul, Nat.add_zero] at h1
 exact h1
def InOk (e : Eng) : Prop := (0 ≤ e.floor ∧ e.floor ≤ 1099511627776) ∧ SOk e.cache ∧ cntS e.cache ≤ 40 ∧ e.files.length ≤ 4
theorem EOk.inOk {e : Eng} (h : EOk e) : InOk e := ⟨h.1.1, h.1.2.2.1, h.1.2.2.2.1, h.1.2.1⟩
set_option maxHeartbeats 4000000 in
theorem specEngineOk_no (e : Eng) (v : Value) (w : World) (B : Nat) (hv : EngV w B v e) (hs : EShort e) (hB : B ≤ w.heap.size) (hno : ¬ InOk e) :
  Calls Tryz.prog 35 #[v] w fun b w' => b = .returned (.bool false) ∧ Below w.heap.size w w' := by
 obtain ⟨vc, vf, rfl, hc, hl⟩ := hv
 unfold vE
 obtain ⟨Ac, cc, rfl, _⟩ := hc.look
 obtain ⟨A, cap, rfl, _⟩ := st_look hl
 have HV : Hid (EngV w B (vE e.floor (.slice Ac e.cache.length cc) (.slice A e.files.length cap)) e) := ⟨_, _, rfl, hc, hl⟩
 have HC : Hid (SerV w B (.slice Ac e.cache.length cc) e.cache) := hc
 have HB : Hid (B ≤ w.heap.size) := hB
 have HSh : Hid (EShort e) := hs
 obtain ⟨X0, hX0⟩ : ∃ X0, X0 = w.alloc (.cells #[.int .i64 e.floor, .slice Ac e.cache.length cc, .slice A e.files.length cap] 35) := ⟨_, rfl⟩
 have BX : Hid (Below w.heap.size w X0) := by unfold Hid; rw [hX0]; exact (Below.refl _ w).alloc (Nat.le_refl _) _
 have KX : Hid (Blk X0 w.heap.size #[.int .i64 e.floor, .slice Ac e.cache.length cc, .slice A e.files.length cap] 35) := by unfold Hid; rw [hX0]; exact Blk.new w _ _
 have ZB : Hid (B ≤ X0.heap.size) := Nat.le_trans hB BX.out.size
 by_cases hf : 0 ≤ e.floor ∧ e.floor ≤ 1099511627776
 ·have c0 := in_yes e.floor 0 1099511627776 X0 hf.1 hf.2
  have c1 := specSeriesOk e.cache _ X0 B (HC.out.on (BX.out.mono hB)) hs.1 hs.2.1 ZB.out
  by_cases hso : SOk e.cache
  ·rw [decide_eq_true hso] at c1
   have hco := hso.col
   have c2 := fun wx hx => specCount e.cache (.slice Ac e.cache.length cc) wx B hx (by have := hco.1; omega) (fun x hx => by have := (hco.2 x hx).1; omega)
   have qC := cntS_le e.cache (fun x hx => by have := (hco.2 x hx).1; omega) e.cache.length (Nat.le_refl _)
   rw [List.take_length] at qC
   have hcl := hco.1
   have hfl := hs.2.2.1
   have HN : Hid (¬ (cntS e.cache ≤ 40 ∧ e.files.length ≤ 4)) := fun h => hno ⟨hf, hso, h.1, h.2⟩
   clear hno hso hco hs hc hl hB hf
   have k0 := KX.out.cell 0 _ rfl
   have k1 := KX.out.cell 1 _ rfl
   have k2 := KX.out.cell 2 _ rfl
   have q1 : (e.cache.length : Int) ≤ 10 := by omega
   have q2 : (e.files.length : Int) ≤ 1048576 := by omega
   have q3 : (cntS e.cache : Int) ≤ 10000 := by omega
   go_enter Tryz.func35, Tryz.ntmps35
   go_wp2_with fail
   rw [← hX0]
   clear hX0
   refine c0.mono ?_
   rintro b X1 ⟨rfl, rfl⟩
   go_wp2_with fail
   refine c1.mono ?_
   rintro b X1 ⟨rfl, hlk⟩
   have K1 := KX.out.on hlk.below KX.out.lt
   have m1 := K1.cell 1 _ rfl
   have m2 := K1.cell 2 _ rfl
   have B1 : Hid (Below w.heap.size w X1) := BX.out.trans (hlk.below.mono BX.out.size)
   have c3 := c2 X1 (HC.out.on (B1.out.mono HB.out))
   clear hlk c2 c1 K1 k0 k1 k2
   go_wp2_with fail
   refine c3.mono ?_
   rintro b X2 ⟨rfl, rfl⟩
   clear c3
   generalize cntS e.cache = cn at *
   generalize e.files.length = fn at *
   by_cases h4 : 40 < cn
   ·have q5 : (40 : Int) < (cn : Int) := by omega
    go_wp2_with fail
    go_ret
    exact ⟨rfl, B1.out⟩
   ·have q5 : ¬ (40 : Int) < (cn : Int) := by omega
    have q6 : (4 : Int) < (fn : Int) := by have := HN.out; omega
    clear h4
    go_wp2_with fail
    go_ret
    exact ⟨rfl, B1.out⟩
  ·rw [decide_eq_false hso] at c1
   clear hno hso hs hc hl hB hf
   have k0 := KX.out.cell 0 _ rfl
   have k1 := KX.out.cell 1 _ rfl
   go_enter Tryz.func35, Tryz.ntmps35
   go_wp2_with fail
   rw [← hX0]
   clear hX0
   refine c0.mono ?_
   rintro b X1 ⟨rfl, rfl⟩
   go_wp2_with fail
   refine c1.mono ?_
   rintro b X1 ⟨rfl, hlk⟩
   have B1 : Hid (Below w.heap.size w X1) := BX.out.trans (hlk.below.mono BX.out.size)
   clear hlk c1 k0 k1
   go_wp2_with fail
   go_ret
   exact ⟨rfl, B1.out⟩
 ·have c0 := in_no e.floor 0 1099511627776 X0 (by omega)
  clear hno hs hc hl hB hf
  have k0 := KX.out.cell 0 _ rfl
  go_enter Tryz.func35, Tryz.ntmps35
  go_wp2_with fail
  rw [← hX0]
  clear hX0
  refine c0.mono ?_
  rintro b X1 ⟨rfl, rfl⟩
  go_wp2_with fail
  go_ret
  exact ⟨rfl, BX.out⟩
set_option maxHeartbeats 4000000 in
theorem specEngineOk_in (e : Eng) (v : Value) (w : World) (B : Nat) (hv : EngV w B v e) (hs : EShort e) (hB : B ≤ w.heap.size) (hin : InOk e) :
  Calls Tryz.prog 35 #[v] w fun b w' => b = .returned (.bool (decide (EOk e))) ∧ Below w.heap.size w w' := by
 obtain ⟨vc, vf, rfl, hc, hl⟩ := hv
 unfold vE
 obtain ⟨Ac, cc, rfl, _⟩ := hc.look
 obtain ⟨A, cap, rfl, _⟩ := st_look hl
 have HV : Hid (EngV w B (vE e.floor (.slice Ac e.cache.length cc) (.slice A e.files.length cap)) e) := ⟨_, _, rfl, hc, hl⟩
 have HC : Hid (SerV w B (.slice Ac e.cache.length cc) e.cache) := hc
 have HB : Hid (B ≤ w.heap.size) := hB
 have HSh : Hid (EShort e) := hs
 obtain ⟨X0, hX0⟩ : ∃ X0, X0 = w.alloc (.cells #[.int .i64 e.floor, .slice Ac e.cache.length cc, .slice A e.files.length cap] 35) := ⟨_, rfl⟩
 have BX : Hid (Below w.heap.size w X0) := by unfold Hid; rw [hX0]; exact (Below.refl _ w).alloc (Nat.le_refl _) _
 have KX : Hid (Blk X0 w.heap.size #[.int .i64 e.floor, .slice Ac e.cache.length cc, .slice A e.files.length cap] 35) := by unfold Hid; rw [hX0]; exact Blk.new w _ _
 have ZB : Hid (B ≤ X0.heap.size) := Nat.le_trans hB BX.out.size
 obtain ⟨hf, hso, h40, h4⟩ := hin
 have c0 := in_yes e.floor 0 1099511627776 X0 hf.1 hf.2
 have c1 := specSeriesOk e.cache _ X0 B (HC.out.on (BX.out.mono hB)) hs.1 hs.2.1 ZB.out
 rw [decide_eq_true hso] at c1
 have hco := hso.col
 have c2 := fun wx hx => specCount e.cache (.slice Ac e.cache.length cc) wx B hx (by have := hco.1; omega) (fun x hx => by have := (hco.2 x hx).1; omega)
 have HIn : Hid (InOk e) := ⟨hf, hso, h40, h4⟩
 have hcl := hso.1
 have HL : Hid (∀ wx, Below w.heap.size w wx → ∀ j, j < e.cache.length → ∃ g off u, Ac = some ⟨g, off, none⟩ ∧ g < B ∧ wx.cell? ⟨g, off + j * 2, none⟩ = some (.string (e.cache.getD j default).key) ∧ wx.cell? ⟨g, off + j * 2 + 1, none⟩ = some u ∧ Lies wx B 2 u (ptR (e.cache.getD j default).pts)) := fun wx hx => by
  obtain ⟨A', c', e', h⟩ := (HC.out.on (hx.mono HB.out)).look
  cases e'
  exact h
 have HOne : Hid (∀ j, j < e.cache.length → 1 ≤ (e.cache.getD j default).pts.length ∧ (e.cache.getD j default).pts.length ≤ 60) := fun j hj => ⟨(hso.2 j hj).2.1, (hso.2 j hj).2.2.1⟩
 have HBad : Hid (∀ j, j < e.cache.length → tAt (e.cache.getD j default).pts 0 < e.floor → decide (EOk e) = false) := fun j hj h => decide_eq_false fun hok => by
  have := hok.1.2.2.2.2 _ (getD_mem _ j hj)
  omega
 have HGood : Hid ((∀ j, j < e.cache.length → e.floor ≤ tAt (e.cache.getD j default).pts 0) → PreOk e) := fun h => ⟨hf, h4, hso, h40, fun x hx => by
  obtain ⟨j, hj, rfl⟩ := List.getElem_of_mem hx
  rw [getD_at _ j hj]
  exact h j hj⟩
 have k0 := KX.out.cell 0 _ rfl
 have k1 := KX.out.cell 1 _ rfl
 have k2 := KX.out.cell 2 _ rfl
 have q1 : (e.cache.length : Int) ≤ 5 := by omega
 have q2 : (e.files.length : Int) ≤ 4 := by omega
 have q3 : (cntS e.cache : Int) ≤ 40 := by omega
 clear hso hco hs hc hl hB hf h40 h4
 go_enter Tryz.func35, Tryz.ntmps35
 go_wp2_with fail
 rw [← hX0]
 clear hX0
 refine c0.mono ?_
 rintro b X1 ⟨rfl, rfl⟩
 go_wp2_with fail
 refine c1.mono ?_
 rintro b X1 ⟨rfl, hlk⟩
 have K1 := KX.out.on hlk.below KX.out.lt
 have HK1 : Hid (Blk X1 w.heap.size #[.int .i64 e.floor, .slice Ac e.cache.length cc, .slice A e.files.length cap] 35) := K1
 have m0 := K1.cell 0 _ rfl
 have m1 := K1.cell 1 _ rfl
 have m2 := K1.cell 2 _ rfl
 have B1 : Hid (Below w.heap.size w X1) := BX.out.trans (hlk.below.mono BX.out.size)
 have c3 := c2 X1 (HC.out.on (B1.out.mono HB.out))
 clear hlk c2 c1 K1 k0 k1 k2
 go_wp2_with fail
 refine c3.mono ?_
 rintro b X2 ⟨rfl, rfl⟩
 clear c3
 generalize hcn : cntS e.cache = cn at *
 clear hcn
 generalize hfn : e.files.length = fn at *
 have HFN : Hid (e.files.length = fn) := hfn
 clear hfn
 generalize hn : e.cache.length = n at *
 have HCN : Hid (e.cache.length = n) := hn
 clear hn
 have q5 : ¬ (40 : Int) < (cn : Int) := by omega
 have q6 : ¬ (4 : Int) < (fn : Int) := by omega
 generalize hfl : e.floor = f at *
 have HFl : Hid (e.floor = f) := hfl
 clear hfl
 go_wp2_with fail
 go_loopw [3] (fun v3 wr => ∃ i : Nat, i ≤ n ∧ v3 = .int .i64 (i : Int) ∧ Hid (∀ j, j < i → f ≤ tAt (e.cache.getD j default).pts 0) ∧ Like X1 wr) (fun i _ => n - (intOf i).toNat)
 case atStart => exact ⟨0, by omega, rfl, fun j hj => by omega, Like.refl _⟩
 case round =>
  obtain ⟨i, hi, rfl, HI, hlk⟩ := hrel
  have HLk : Hid (Like X1 wr) := hlk
  have K2 := HK1.out.on hlk.below HK1.out.lt
  have HK2 : Hid (Blk wr w.heap.size #[.int .i64 f, .slice Ac n cc, .slice A fn cap] 35) := K2
  have n0 := K2.cell 0 _ rfl
  have n1 := K2.cell 1 _ rfl
  have n2 := K2.cell 2 _ rfl
  have B2 : Hid (Below w.heap.size w wr) := B1.out.trans (hlk.below.mono B1.out.size)
  clear hlk K2 m0 m1 m2
  by_cases hlt : i < n
  ·have q4 : (i : Int) < (n : Int) := by omega
   obtain ⟨g, off, u, rfl, hg, e1, e2, hu⟩ := HL.out wr B2.out i hlt
   obtain ⟨A5, n5, c5, rfl⟩ : ∃ A5 n5 c5, u = .slice A5 n5 c5 := by obtain ⟨A5, c5, e, _⟩ := hu; exact ⟨_, _, _, e⟩
   obtain ⟨g5, o5, rfl, hg5, hn5, e5⟩ := first_at (HOne.out i hlt).1 hu
   have q7 := HOne.out i hlt
   rw [← hn5] at q7
   have q8 : (0 : Int) < (n5 : Int) := by omega
   have q9 : (n5 : Int) ≤ 60 := by omega
   have HBi : Hid (tAt (e.cache.getD i default).pts 0 < f → decide (EOk e) = false) := HBad.out i hlt
   have HIn2 : Hid (f ≤ tAt (e.cache.getD i default).pts 0 → ∀ j, j < i + 1 → f ≤ tAt (e.cache.getD j default).pts 0) := fun h j hj => by
    by_cases e : j = i
    ·rw [e]; exact h
    ·exact HI.out j (by omega)
   clear hu hn5 q7 e1
   generalize tAt (e.cache.getD i default).pts 0 = t at *
   have HF : ∀ wx : World, Like X1 wx → wx.cell? ⟨w.heap.size, 1, none⟩ = some (.slice (some ⟨g, off, none⟩) n cc) ∧ wx.cell? ⟨w.heap.size, 0, none⟩ = some (.int .i64 f) ∧ wx.cell? ⟨g, off + i * 2 + 1, none⟩ = some (.slice (some ⟨g5, o5, none⟩) n5 c5) ∧ wx.cell? ⟨g5, o5, none⟩ = some (.int .i64 t) := fun wx hx => by
    have hh : wx.heap = wr.heap := hx.1.trans HLk.out.1.symm
    rw [cell?_heap hh, cell?_heap hh, cell?_heap hh, cell?_heap hh]
    exact ⟨n1, n0, e2, e5⟩
   by_cases hlow : t < f
   ·have HD : Hid (decide (EOk e) = false) := HBi.out hlow
    clear HF
    go_wp2_with fail
    go_quiet (fail)
    go_wp2_with fail
    go_ret
    exact ⟨by rw [HD.out]; rfl, B2.out.trans ((below_drewN wr nq).mono B2.out.size)⟩
   ·have q10 : f ≤ t := by omega
    have HI2 : Hid (∀ j, j < i + 1 → f ≤ tAt (e.cache.getD j default).pts 0) := HIn2.out q10
    clear HF
    go_wp2_with fail
    go_quiet (fail)
    go_wp2_with fail
    go_roundw
    case rel => exact ⟨i + 1, by omega, by go_num, HI2, HLk.out.drewN _⟩
    case measure => simp [intOf]; omega
  ·obtain rfl : i = n := by omega
   have HPre : Hid (PreOk e) := HGood.out HI.out
   have c4 := specLayers e _ wr B (HV.out.on (B2.out.mono HB.out)) (by have := HPre.out.2.1; omega) HSh.out.2.2.2 (Nat.le_trans HB.out B2.out.size)
   unfold vE at c4
   go_wp2_with fail
   refine c4.mono ?_
   rintro b X3 ⟨⟨u, ok, rfl, hA⟩, hb3⟩
   have HA : Hid ((ok = true ∧ (∀ s ∈ e.files, isF s) ∧ LayV X3 X3.heap.size u (lays e)) ∨ (ok = false ∧ ∃ s ∈ e.files, ¬ isF s)) := hA
   have K3 := HK2.out.on hb3 HK2.out.lt
   have p0 := K3.cell 0 _ rfl
   have B3 : Hid (Below w.heap.size w X3) := B2.out.trans (hb3.mono B2.out.size)
   clear hA hb3 c4 n0 n1 n2 K3
   rcases HA.out with ⟨rfl, hF, hLv⟩ | ⟨rfl, s, hsm, hsn⟩
   ·have HCol : Hid (∀ l ∈ lays e, COk l) := lays_col HIn.out.2.1.col hF
    have HLok : Hid (LOk (lays e)) := lays_ok (by have := HPre.out.2.1; omega) HIn.out.2.1.col hF
    have c5 := specPlainL (lays e) f u X3 X3.heap.size hLv HLok.out (Nat.le_refl _)
    have HD : Hid (decide (SOk (plainE e)) = decide (EOk e)) := by
     unfold Hid
     rw [decide_eq_decide]
     exact ⟨fun h => ⟨HPre.out, hF, h⟩, fun h => h.2.2⟩
    have HPe : Hid (plainE e = plainR (lays e) f) := by unfold Hid plainE; rw [HFl.out]
    have HShp : Hid (SShort (plainE e)) := plainE_short HLok.out
    obtain ⟨Au, cu, rfl, _⟩ := hLv.look
    clear hF hLv HA
    go_wp2_with fail
    refine c5.mono ?_
    rintro b X4 ⟨⟨u4, L, rfl, hL, hS⟩, hb4⟩
    have B4 : Hid (Below w.heap.size w X4) := B3.out.trans (hb4.mono B3.out.size)
    have c6 := specSeriesOk (plainE e) u4 X4 X4.heap.size (by rw [HPe.out, ← hL]; exact hS.view) HShp.out (by rw [HPe.out]; exact plain_keys HCol.out) (Nat.le_refl _)
    rw [HD.out] at c6
    clear hL hS hb4 c5
    go_wp2_with fail
    refine c6.mono ?_
    rintro b X5 ⟨rfl, hlk⟩
    have B5 : Hid (Below w.heap.size w X5) := B4.out.trans (hlk.below.mono B4.out.size)
    clear hlk c6
    go_wp2_with fail
    go_ret
    exact ⟨rfl, B5.out⟩
   ·have HD : Hid (decide (EOk e) = false) := decide_eq_false fun h => hsn (h.2.1 s hsm)
    clear hsm hsn HA
    go_wp2_with fail
    go_ret
    exact ⟨by rw [HD.out]; rfl, B3.out⟩
theorem specEngineOk (e : Eng) (v : Value) (w : World) (B : Nat) (hv : EngV w B v e) (hs : EShort e) (hB : B ≤ w.heap.size) :
  Calls Tryz.prog 35 #[v] w fun b w' => b = .returned (.bool (decide (EOk e))) ∧ Below w.heap.size w w' := by
 by_cases h : InOk e
 ·exact specEngineOk_in e v w B hv hs hB h
 ·rw [decide_eq_false fun hok : EOk e => h hok.inOk]
  exact specEngineOk_no e v w B hv hs hB h
end Go.Proofs.YtikknmoeefipmaaGreatDoor
namespace Go.Proofs.YtikknmoeefipmaaGreatDoor
open Go.RowKit Go.PlainAid
theorem run_copy_rows {P : Program} (w : World) (dT sT ty elem : TypeId) (g o dLen dCap : Nat) (a : Addr) (sLen sCap : Nat) (cur : Array Value) (t : TypeId) (cs : List Value) (sz : Nat)
  (hu : P.underlying dT = some (.slice elem)) (hs : (P.info? elem).map (·.size) = some sz)
  (hg : w.heap[g]? = some (.cells cur t (0, 0))) (hn : cs.length = Nat.min sLen dLen * sz)
  (hsrc : ∀ j v, cs[j]? = some v → w.cell? (a.add j) = some v) (hfit : o + cs.length ≤ cur.size) (h1 : ∀ v ∈ cs, v.oneCell' = true) :
  (Builtin.copy_ #[dT, sT] ty #[.slice (some ⟨g, o, none⟩) dLen dCap, .slice (some a) sLen sCap]).run P w =
   .ok (goInt (Nat.min sLen dLen)) (w.setRow g (cur.toList.take o ++ cs ++ cur.toList.drop (o + cs.length)).toArray) := by
 have hl := run_loadCells_list (P := P) w a cs hsrc
 have hst := run_storeCells_at P g o t cs 0 cur w hg (by simpa using hfit) h1
 cases hq : P.info? elem with
 | none => simp [hq] at hs
 | some i =>
  have hi : i.size = sz := by simpa [hq] using hs
  simp [Builtin.copy_, run_underlying hu, Builtin.lenOf, Builtin.firstCells, sizeOf, typeInfo, hq, hi, ← hn, hl, hst]
theorem run_copy_no {P : Program} (w : World) (dT sT ty elem : TypeId) (d a : Option Addr) (dLen dCap sCap : Nat) (sz : Nat) (hu : P.underlying dT = some (.slice elem)) (hs : (P.info? elem).map (·.size) = some sz) :
  (Builtin.copy_ #[dT, sT] ty #[.slice d dLen dCap, .slice a 0 sCap]).run P w = .ok (goInt 0) w := by
 cases hq : P.info? elem with
 | none => simp [hq] at hs
 | some i =>
  have hl : ∀ (x : Addr), (loadCells x 0).run P w = .ok #[] w := fun x => by simpa using run_loadCells_list (P := P) w x [] (by simp)
  have hm : Nat.min 0 dLen = 0 := Nat.zero_min _
  cases d <;> cases a <;> simp [Builtin.copy_, run_underlying hu, Builtin.lenOf, Builtin.firstCells, sizeOf, typeInfo, hq, hm, storeCells, hl]
theorem run_copy_own {P : Program} (w : World) (dT sT ty e : TypeId) (sz : Nat) (hu : P.underlying dT = some (.slice e)) (hs : (P.info? e).map (·.size) = some sz)
  (base g cap : Nat) (rows : List (List Value)) (hown : Owns w base e sz (.slice (some ⟨g, 0, none⟩) rows.length cap) rows)
  (k : Nat) (dp : Option Addr) (dLen dCap : Nat) (hdl : dLen = rows.length - k) (hdp : k < rows.length → dp = some ⟨g, k * sz, none⟩)
  (more : List (List Value)) (u : Value) (B : Nat) (hl : Lies w B sz u more) (h1 : ∀ r ∈ more, ∀ y ∈ r, y.oneCell' = true) (hfit : k + more.length ≤ rows.length) :
  ∃ w', (Builtin.copy_ #[dT, sT] ty #[.slice dp dLen dCap, u]).run P w = .ok (.int .i64 (more.length : Int)) w' ∧ Owns w' base e sz (.slice (some ⟨g, 0, none⟩) rows.length cap) (rows.take k ++ more ++ rows.drop (k + more.length)) ∧ Below base w w' ∧ (∀ b, b ≠ g → w'.heap[b]? = w.heap[b]?) := by
 obtain ⟨A, c, rfl, hz, hms, hm⟩ := hl
 by_cases h0 : more.length = 0
 ·have hnil : more = [] := List.eq_nil_of_length_eq_zero h0
  subst hnil
  refine ⟨w, run_copy_no (P := P) w dT sT ty e dp A dLen dCap c sz hu hs, ?_, Below.refl _ _, fun _ _ => rfl⟩
  simpa using hown
 ·rcases hm with hm | ⟨gs, off, rfl, hgs, hc⟩
  ·exact absurd hm h0
  have hkl : k < rows.length := by omega
  have hdp' := hdp hkl
  subst hdp'
  obtain ⟨hrs, hlen, hor⟩ := hown
  rcases hor with ⟨e1, _⟩ | ⟨g', cap', cur, e1, hbg, hg, hnc, hcm, hcs, htake⟩
  ·cases e1
  ·cases e1
   have hfl : more.flatten.length = more.length * sz := flat_length sz more hms
   have hmin : Nat.min more.length dLen = more.length := Nat.min_eq_left (by omega)
   have hsz1 : (k + more.length) * sz ≤ rows.length * sz := Nat.mul_le_mul_right sz hfit
   have hsz2 : rows.length * sz ≤ cap * sz := Nat.mul_le_mul_right sz hnc
   have hadd : (k + more.length) * sz = k * sz + more.length * sz := Nat.add_mul _ _ _
   have hrun := run_copy_rows (P := P) w dT sT ty e g (k * sz) dLen dCap ⟨gs, off, none⟩ more.length c cur e more.flatten sz hu hs hg (by rw [hmin, hfl]) (fun j v hj => by
    have e2 : (⟨gs, off, none⟩ : Addr).add j = ⟨gs, off + j, none⟩ := by cases j <;> simp [Addr.add]
    rw [e2]
    exact hc j v hj) (by omega) (fun y hy => by
    obtain ⟨r, hr, hyr⟩ := List.mem_flatten.1 hy
    exact h1 r hr y hyr)
   rw [hmin] at hrun
   refine ⟨_, hrun, ?_, below_setRow (Below.refl _ _) hbg _, fun b hb => setRow_other w g b _ hb⟩
   have hft : rows.flatten = (rows.take k).flatten ++ (rows.drop k).flatten := by rw [← List.flatten_append, List.take_append_drop]
   have hl1 : (rows.take k).flatten.length = k * sz := by rw [flat_length sz _ (fun r hr => hrs r (List.mem_of_mem_take hr)), List.length_take, Nat.min_eq_left (by omega)]
   have hl2 : (rows.take (k + more.length)).flatten.length = (k + more.length) * sz := by rw [flat_length sz _ (fun r hr => hrs r (List.mem_of_mem_take hr)), List.length_take, Nat.min_eq_left (by omega)]
   have hft2 : rows.flatten = (rows.take (k + more.length)).flatten ++ (rows.drop (k + more.length)).flatten := by rw [← List.flatten_append, List.take_append_drop]
   have hall : ∀ r ∈ rows.take k ++ more ++ rows.drop (k + more.length), r.length = sz := by
    intro r hr
    rcases List.mem_append.1 hr with hr | hr
    ·rcases List.mem_append.1 hr with hr | hr
     ·exact hrs r (List.mem_of_mem_take hr)
     ·exact hms r hr
    ·exact hrs r (List.mem_of_mem_drop hr)
   have hnl : (rows.take k ++ more ++ rows.drop (k + more.length)).length = rows.length := by
    simp only [List.length_append, List.length_take, List.length_drop]
    omega
   have hcl : cur.toList.length = cap * sz := by rw [Array.length_toList]; exact hcs
   have hf1 : (rows.take k).flatten = cur.toList.take (k * sz) := by
    have : (rows.take k).flatten = rows.flatten.take (k * sz) := by rw [hft]; exact (List.take_left' hl1).symm
    rw [this, ← htake, List.take_take]
    congr 1
    omega
   have hf2 : (rows.drop (k + more.length)).flatten = (cur.toList.drop ((k + more.length) * sz)).take (rows.length * sz - (k + more.length) * sz) := by
    have : (rows.drop (k + more.length)).flatten = rows.flatten.drop ((k + more.length) * sz) := by rw [hft2]; exact (List.drop_left' hl2).symm
    rw [this, ← htake, List.drop_take]
   refine ⟨hall, ?_, .inr ⟨g, cap, _, by rw [hnl], hbg, setRow_heap w g cur _ e _ hg, by rw [hnl]; exact hnc, hcm, ?_, ?_⟩⟩
   ·rw [flat_length sz _ hall]
   ·rw [List.size_toArray]
    simp only [List.length_append, List.length_take, List.length_drop, hfl, hcl]
    omega
   ·rw [hnl, List.toList_toArray, List.flatten_append, List.flatten_append, hf1, hf2, hfl, ← hadd]
    rw [List.take_append]
    have e3 : (List.take (k * sz) cur.toList ++ more.flatten).length = (k + more.length) * sz := by
     simp only [List.length_append, List.length_take, hfl, hcl]
     omega
    rw [e3, List.take_of_length_le (by omega)]
end Go.Proofs.YtikknmoeefipmaaGreatDoor
namespace Go.Proofs.YtikknmoeefipmaaGreatDoor
open Go.ChangeShapes Go.WideShapes Go.ChangeAt Go.RowKit Go.PlainAid
set_option linter.unusedVariables false
theorem elem_pts : Tryz.prog.elem 48 = 90 := by kernel_rfl
theorem size_pt : (Tryz.prog.info? 90).map (·.size) = some 2 := by kernel_rfl
set_option maxRecDepth 100000 in
theorem cut_from {w : World} {B n c : Nat} {A : Option Addr} {rows : List (List Value)} (h : Lies w B 2 (.slice A n c) rows) (k : Nat) (hk : k ≤ rows.length) : ∃ A' c', (∀ wx, (Instr.sliceAt 48 (.slice A n c) (some (.int .i64 (k : Int))) none none).run Tryz.prog wx = .ok (.slice A' (n - k) c') wx) ∧ Lies w B 2 (.slice A' (n - k) c') (rows.drop k) ∧ (c ≠ k → A' = A.map (·.add (k * 2))) := by
 have hr := h.room
 have hu : Tryz.prog.underlying 48 = some (.slice (Tryz.prog.elem 48)) := by rw [elem_pts]; exact Tryz.underlying48
 have hz := size_pt
 cases hq : Tryz.prog.info? 90 with
 | none => rw [hq] at hz; simp at hz
 | some i =>
  rw [hq] at hz
  have hi : i.size = 2 := by simpa using hz
  have hrun : ∀ wx, (Instr.sliceAt 48 (.slice A n c) (some (.int .i64 (k : Int))) none none).run Tryz.prog wx = .ok (.slice (if c = k then A else A.map (·.add (k * 2))) (n - k) (c - k)) wx := fun wx => by
   rw [run_sliceAt_slice wx 48 _ _ _ _ hu, run_slice_l wx 48 A n c hu .i64 (k : Int) (by omega) (by omega), elem_pts]
   simp [sizeOf, typeInfo, hq, hi, sliced]
  refine ⟨_, _, hrun, ?_, fun hne => if_neg hne⟩
  by_cases hck : c = k
  ·rw [if_pos hck]
   have h0 : rows.drop k = [] := List.drop_eq_nil_of_le (by omega)
   rw [h0]
   refine ⟨A, c - k, by simp; omega, ⟨fun e => by omega, by simp⟩, fun r hr => (by cases hr), .inl rfl⟩
  ·rw [if_neg hck]
   match A, h with
   | none, h =>
    obtain ⟨A', c', e, hz, hs, hh⟩ := h
    cases e
    have := hz.1 rfl
    rcases hh with hh | ⟨g, off, e, _⟩
    ·have hk0 : k = 0 := by omega
     subst hk0
     simp only [Option.map_none, List.drop_zero, Nat.sub_zero]
     exact ⟨none, c, rfl, hz, hs, .inl hh⟩
    ·cases e
   | some ad, h =>
    obtain ⟨b, off, spot⟩ := ad
    by_cases hl0 : rows.length = k
    ·have h0 : rows.drop k = [] := List.drop_eq_nil_of_le (by omega)
     rw [h0]
     refine ⟨_, c - k, by rw [show n - k = 0 by omega]; rfl, ⟨fun e => (by cases e), by simp⟩, fun r hr => (by cases hr), .inl rfl⟩
    ·have hspot : spot = none := by
      obtain ⟨A', c', e, hz, hs, hh⟩ := h
      cases e
      rcases hh with hh | ⟨g, off, e, _⟩
      ·omega
      ·cases e; rfl
     subst hspot
     have e1 : (⟨b, off, none⟩ : Addr).add (k * 2) = ⟨b, off + k * 2, none⟩ := by
      generalize k * 2 = j
      cases j <;> simp [Addr.add]
     have := h.behind k hk
     simp only [Option.map_some, e1]
     exact this
theorem cut_to (A : Option Addr) (n c k : Nat) (hk : k ≤ c) (wx : World) : (Instr.sliceAt 48 (.slice A n c) none (some (.int .i64 (k : Int))) none).run Tryz.prog wx = .ok (.slice A k c) wx := by
 have hu : Tryz.prog.underlying 48 = some (.slice (Tryz.prog.elem 48)) := by rw [elem_pts]; exact Tryz.underlying48
 have hz := size_pt
 cases hq : Tryz.prog.info? 90 with
 | none => rw [hq] at hz; simp at hz
 | some i =>
  rw [run_sliceAt_slice wx 48 _ _ _ _ hu, run_slice_h wx 48 A n c hu .i64 (k : Int) (by omega) (by omega), elem_pts]
  have e : A.map (·.add (0 * i.size)) = A := by
   cases A <;> simp [Addr.add]
  simp [sizeOf, typeInfo, hq, sliced]
  intro _
  simpa using e
def sliceLen : Value → Nat
 | .slice _ n _ => n
 | _ => 0
end Go.Proofs.YtikknmoeefipmaaGreatDoor
namespace Go.Proofs.YtikknmoeefipmaaGreatDoor
open Go.ChangeShapes Go.WideShapes Go.ChangeAt Go.RowKit Go.PlainAid
set_option linter.unusedVariables false
set_option maxHeartbeats 1000000 in
theorem implHowMany (l : List Ser) (v : Value) (w : World) (B : Nat) (hv : SerV w B v l) (hn : l.length ≤ 1000) (hs : ∀ x ∈ l, x.pts.length ≤ 1000) (hB : B ≤ w.heap.size) :
  Calls Tryz.prog 56 #[v] w fun e w' => e = .returned (.int .i64 (cntS l : Int)) ∧ Below w.heap.size w w' := by
 obtain ⟨A, cap, rfl, hl⟩ := hv.look
 have HL : Hid (∀ wx, Below w.heap.size w wx → ∀ j, j < l.length → ∃ g off u, A = some ⟨g, off, none⟩ ∧ g < B ∧ wx.cell? ⟨g, off + j * 2, none⟩ = some (.string (l.getD j default).key) ∧ wx.cell? ⟨g, off + j * 2 + 1, none⟩ = some u ∧ Lies wx B 2 u (ptR (l.getD j default).pts)) := fun wx hx => by
  obtain ⟨A', c', e', h⟩ := (hv.on (hx.mono hB)).look
  cases e'
  exact h
 have HC : Hid (∀ k, k ≤ l.length → cntS (l.take k) ≤ 1000 * k) := cntS_le l hs
 have HS : Hid (∀ k, k < l.length → cntS (l.take (k + 1)) = cntS (l.take k) + (l.getD k default).pts.length) := fun k hk => cntS_snoc l k hk
 have HT : Hid (∀ k, k = l.length → cntS (l.take k) = cntS l) := fun k hk => by rw [hk, List.take_length]
 have HM : Hid (∀ k, k < l.length → (l.getD k default).pts.length ≤ 1000) := fun k hk => hs _ (getD_mem l k hk)
 have H0 : Hid (cntS (l.take 0) = 0) := by simp [Hid, cntS]
 have q1 : (l.length : Int) ≤ 1000 := by omega
 clear hl hv hs hB
 generalize hN : l.length = n at *
 clear hN
 go_enter Tryz.func56, Tryz.ntmps56
 go_wp2_with fail
 go_loopw [3, 8] (fun v3 v8 wr => ∃ k : Nat, k ≤ n ∧ v8 = .int .i64 (k : Int) ∧ v3 = .int .i64 (cntS (l.take k) : Int) ∧ Below w.heap.size w wr) (fun _ i _ => n - (intOf i).toNat)
 case atStart => exact ⟨0, by omega, rfl, by rw [H0.out]; rfl, Below.refl _ _⟩
 case round =>
  obtain ⟨k, hk, rfl, rfl, hb⟩ := hrel
  have HBr : Hid (Below w.heap.size w wr) := hb
  clear hb
  by_cases hlt : k < n
  ·have q4 : (k : Int) < (n : Int) := by omega
   obtain ⟨g, off, u, rfl, hg, e1, e2, hu⟩ := HL.out wr HBr.out k hlt
   obtain ⟨A', c', rfl, _⟩ := pt_look hu
   have h1 := HC.out k hk
   have h2 := HM.out k hlt
   have h3 := HS.out k hlt
   have HE : Hid (cntS (l.take (k + 1)) = cntS (l.take k) + (l.getD k default).pts.length) := h3
   clear hu h3
   generalize cntS (l.take k) = c at *
   generalize (l.getD k default).pts.length = p at *
   generalize (l.getD k default).key = xk at *
   have q5 : (c : Int) ≤ 1000000 := by omega
   have q6 : (p : Int) ≤ 1000 := by omega
   have w2 : wrap64 ((c : Int) + (p : Int)) = (c : Int) + (p : Int) := by unfold wrap64; omega
   have BA : Hid (Below w.heap.size w (wr.alloc (.cells #[.string xk, .slice A' p c'] 98))) := HBr.out.alloc HBr.out.size _
   go_wp2_with fail
   go_roundw
   case rel => exact ⟨k + 1, by omega, by go_num, by rw [HE.out]; go_num, BA.out⟩
   case measure => simp [intOf]; omega
  ·obtain rfl : k = n := by omega
   have HE : Hid (cntS (l.take k) = cntS l) := HT.out k rfl
   go_wp2_with fail
   go_ret
   exact ⟨by rw [← HE.out]; rfl, HBr.out⟩
def CaOk (l : List Ser) (f : Int) : Prop := SOk l ∧ cntS l ≤ 40 ∧ ∀ x ∈ l, f ≤ tAt x.pts 0
noncomputable instance (l : List Ser) (f : Int) : Decidable (CaOk l f) := Classical.propDecidable _
set_option maxHeartbeats 2000000 in
theorem implCacheOk (l : List Ser) (f : Int) (v : Value) (w : World) (B : Nat) (hv : SerV w B v l) (hs : SShort l) (hf : ∀ x ∈ l, x.key.size ≤ maxLen) (hB : B ≤ w.heap.size) :
  Calls Tryz.prog 118 #[v, .int .i64 f] w fun e w' => e = .returned (.bool (decide (CaOk l f))) ∧ Below w.heap.size w w' := by
 have HV : Hid (SerV w B v l) := hv
 obtain ⟨A, cap, rfl, hl⟩ := hv.look
 have HL : Hid (∀ wx, Below w.heap.size w wx → ∀ j, j < l.length → ∃ g off u, A = some ⟨g, off, none⟩ ∧ g < B ∧ wx.cell? ⟨g, off + j * 2, none⟩ = some (.string (l.getD j default).key) ∧ wx.cell? ⟨g, off + j * 2 + 1, none⟩ = some u ∧ Lies wx B 2 u (ptR (l.getD j default).pts)) := fun wx hx => by
  obtain ⟨A', c', e', h⟩ := (hv.on (hx.mono hB)).look
  cases e'
  exact h
 have c1 := implSeriesOk l _ w B hv hs hf hB
 have HB : Hid (B ≤ w.heap.size) := hB
 by_cases hso : SOk l
 ·rw [decide_eq_true hso] at c1
  have hco := hso.col
  have c2 := fun wx hx hb => implHowMany l (.slice A l.length cap) wx B hx (by have := hco.1; omega) (fun x hx => by have := (hco.2 x hx).1; omega) hb
  have qC := cntS_le l (fun x hx => by have := (hco.2 x hx).1; omega) l.length (Nat.le_refl _)
  rw [List.take_length] at qC
  have hcl := hso.1
  have HOne : Hid (∀ j, j < l.length → 1 ≤ (l.getD j default).pts.length ∧ (l.getD j default).pts.length ≤ 60) := fun j hj => ⟨(hso.2 j hj).2.1, (hso.2 j hj).2.2.1⟩
  have HBad : Hid (∀ j, j < l.length → tAt (l.getD j default).pts 0 < f → decide (CaOk l f) = false) := fun j hj h => decide_eq_false fun hok => by
   have := hok.2.2 _ (getD_mem _ j hj)
   omega
  have HGood : Hid (cntS l ≤ 40 → (∀ j, j < l.length → f ≤ tAt (l.getD j default).pts 0) → decide (CaOk l f) = true) := fun h40 h => decide_eq_true ⟨hso, h40, fun x hx => by
   obtain ⟨j, hj, rfl⟩ := List.getElem_of_mem hx
   rw [getD_at _ j hj]
   exact h j hj⟩
  have HMany : Hid (40 < cntS l → decide (CaOk l f) = false) := fun h => decide_eq_false fun hok => by have := hok.2.1; omega
  have q1 : (l.length : Int) ≤ 5 := by omega
  have q2 : (cntS l : Int) ≤ 5000 := by omega
  clear hl hv hs hf hB hso hco
  go_enter Tryz.func118, Tryz.ntmps118
  go_wp2_with fail
  refine c1.mono ?_
  rintro b X1 ⟨rfl, hb1⟩
  have B1 : Hid (Below w.heap.size w X1) := hb1
  have c3 := c2 X1 (HV.out.on (hb1.mono HB.out)) (Nat.le_trans HB.out hb1.size)
  clear hb1 c2 c1
  go_wp2_with fail
  refine c3.mono ?_
  rintro b X2 ⟨rfl, hb2⟩
  have B2 : Hid (Below w.heap.size w X2) := B1.out.trans (hb2.mono B1.out.size)
  clear hb2 c3
  generalize cntS l = cn at *
  generalize hn : l.length = n at *
  clear hn
  by_cases h4 : 40 < cn
  ·have q5 : (40 : Int) < (cn : Int) := by omega
   have HD : Hid (decide (CaOk l f) = false) := HMany.out h4
   go_wp2_with fail
   go_ret
   exact ⟨by rw [HD.out]; rfl, B2.out⟩
  ·have q5 : ¬ (40 : Int) < (cn : Int) := by omega
   have H40 : Hid (cn ≤ 40) := by unfold Hid; omega
   clear h4
   go_wp2_with fail
   go_loopw [17] (fun v17 wr => ∃ i : Nat, i ≤ n ∧ v17 = .int .i64 (i : Int) ∧ Hid (∀ j, j < i → f ≤ tAt (l.getD j default).pts 0) ∧ Below w.heap.size w wr) (fun i _ => n - (intOf i).toNat)
   case atStart => exact ⟨0, by omega, rfl, fun j hj => by omega, B2.out⟩
   case round =>
    obtain ⟨i, hi, rfl, HI, hb⟩ := hrel
    have HBr : Hid (Below w.heap.size w wr) := hb
    clear hb
    by_cases hlt : i < n
    ·have q4 : (i : Int) < (n : Int) := by omega
     obtain ⟨g, off, u, rfl, hg, e1, e2, hu⟩ := HL.out wr HBr.out i hlt
     obtain ⟨A5, n5, c5, rfl⟩ : ∃ A5 n5 c5, u = .slice A5 n5 c5 := by obtain ⟨A5, c5, e, _⟩ := hu; exact ⟨_, _, _, e⟩
     obtain ⟨g5, o5, rfl, hg5, hn5, e5⟩ := first_at (HOne.out i hlt).1 hu
     have q7 := HOne.out i hlt
     rw [← hn5] at q7
     have q8 : (0 : Int) < (n5 : Int) := by omega
     have q9 : (n5 : Int) ≤ 60 := by omega
     have HBi : Hid (tAt (l.getD i default).pts 0 < f → decide (CaOk l f) = false) := HBad.out i hlt
     have HIn2 : Hid (f ≤ tAt (l.getD i default).pts 0 → ∀ j, j < i + 1 → f ≤ tAt (l.getD j default).pts 0) := fun h j hj => by
      by_cases e : j = i
      ·rw [e]; exact h
      ·exact HI.out j (by omega)
     clear hu hn5 q7
     generalize tAt (l.getD i default).pts 0 = t at *
     generalize (l.getD i default).key = xk at *
     have BA : Hid (Below w.heap.size w (wr.alloc (.cells #[.string xk, .slice (some ⟨g5, o5, none⟩) n5 c5] 98))) := HBr.out.alloc HBr.out.size _
     have e6 := cell_alloc_keep e5 (.cells #[.string xk, .slice (some ⟨g5, o5, none⟩) n5 c5] 98)
     by_cases hlow : t < f
     ·have HD : Hid (decide (CaOk l f) = false) := HBi.out hlow
      go_wp2_with fail
      go_ret
      exact ⟨by rw [HD.out]; rfl, BA.out⟩
     ·have q10 : f ≤ t := by omega
      have HI2 : Hid (∀ j, j < i + 1 → f ≤ tAt (l.getD j default).pts 0) := HIn2.out q10
      go_wp2_with fail
      go_roundw
      case rel => exact ⟨i + 1, by omega, by go_num, HI2, BA.out⟩
      case measure => simp [intOf]; omega
    ·obtain rfl : i = n := by omega
     have HD : Hid (decide (CaOk l f) = true) := HGood.out H40.out HI.out
     go_wp2_with fail
     go_ret
     exact ⟨by rw [HD.out]; rfl, HBr.out⟩
 ·rw [decide_eq_false hso] at c1
  have HD : Hid (decide (CaOk l f) = false) := decide_eq_false fun h => hso h.1
  clear hl hv hs hf hB hso
  go_enter Tryz.func118, Tryz.ntmps118
  go_wp2_with fail
  refine c1.mono ?_
  rintro b X1 ⟨rfl, hb1⟩
  have B1 : Hid (Below w.heap.size w X1) := hb1
  clear hb1 c1
  go_wp2_with fail
  go_ret
  exact ⟨by rw [HD.out]; rfl, B1.out⟩
set_option maxHeartbeats 2000000 in
theorem cachedKeys (l : List Ser) (v : Value) (w : World) (B : Nat) (hv : SerV w B v l) (hn : l.length ≤ 1000) (hB : B ≤ w.heap.size) :
  Calls Tryz.prog 278 #[v] w fun e w' => (∃ u, e = .returned u ∧ Owns w' w.heap.size 9 1 u (stR (l.map Ser.key))) ∧ Below w.heap.size w w' := by
 obtain ⟨A, cap, rfl, hl⟩ := hv.look
 have HL : Hid (∀ wx, Below w.heap.size w wx → ∀ j, j < l.length → ∃ g off u, A = some ⟨g, off, none⟩ ∧ g < B ∧ wx.cell? ⟨g, off + j * 2, none⟩ = some (.string (l.getD j default).key) ∧ wx.cell? ⟨g, off + j * 2 + 1, none⟩ = some u ∧ Lies wx B 2 u (ptR (l.getD j default).pts)) := fun wx hx => by
  obtain ⟨A', c', e', h⟩ := (hv.on (hx.mono hB)).look
  cases e'
  exact h
 have HT : Hid (∀ k, k < l.length → (l.take (k + 1)).map Ser.key = (l.take k).map Ser.key ++ [(l.getD k default).key]) := fun k hk => by rw [take_getD l k hk, List.map_append]; rfl
 have HA : Hid (∀ k, k = l.length → (l.take k).map Ser.key = l.map Ser.key) := fun k hk => by rw [hk, List.take_length]
 have q1 : (l.length : Int) ≤ 1000 := by omega
 have HLn : Hid (∀ k, k ≤ l.length → (stR ((l.take k).map Ser.key)).length ≤ 2097152) := fun k hk => by rw [stR_length, List.length_map, List.length_take]; omega
 clear hl hv hB
 generalize hN : l.length = n at *
 clear hN
 go_enter Tryz.func278, Tryz.ntmps278
 go_wp2_with fail
 go_loopw [3, 8] (fun v3 v8 wr => ∃ k : Nat, k ≤ n ∧ v8 = .int .i64 (k : Int) ∧ Owns wr w.heap.size 9 1 v3 (stR ((l.take k).map Ser.key)) ∧ Below w.heap.size w wr) (fun _ i _ => n - (intOf i).toNat)
 case atStart => exact ⟨0, by omega, rfl, Owns.nil _ _ _ _, Below.refl _ _⟩
 case round =>
  obtain ⟨k, hk, rfl, hO, hb⟩ := hrel
  have HO : Hid (Owns wr w.heap.size 9 1 u3 (stR ((l.take k).map Ser.key))) := hO
  have HBr : Hid (Below w.heap.size w wr) := hb
  obtain ⟨A3, n3, c3, rfl⟩ := hO.shape
  clear hO hb
  by_cases hlt : k < n
  ·have q4 : (k : Int) < (n : Int) := by omega
   obtain ⟨g, off, u, rfl, hg, e1, e2, hu⟩ := HL.out wr HBr.out k hlt
   obtain ⟨A', c', rfl, _⟩ := pt_look hu
   have HE : Hid ((l.take (k + 1)).map Ser.key = (l.take k).map Ser.key ++ [(l.getD k default).key]) := HT.out k hlt
   have L2 := HLn.out k hk
   clear hu
   generalize (l.take k).map Ser.key = o at *
   generalize (l.getD k default).pts.length = pl at *
   generalize (l.getD k default).key = xk at *
   have HO2 : Hid (Owns (wr.alloc (.cells #[.string xk, .slice A' pl c'] 98)) w.heap.size 9 1 (.slice A3 n3 c3) (stR o)) := HO.out.alloc _
   have BA : Hid (Below w.heap.size w (wr.alloc (.cells #[.string xk, .slice A' pl c'] 98))) := HBr.out.alloc HBr.out.size _
   have Z : w.heap.size ≤ (wr.alloc (.cells #[.string xk, .slice A' pl c'] 98)).heap.size := BA.out.size
   have LL : Hid ((stR o).length ≤ 2097152) := L2
   clear L2
   go_wp2_with (at_builtin; refine Shut.out ?_)
   unfold Shut
   refine wpList_append_row (w := wr.alloc (.cells #[.string xk, .slice A' pl c'] 98)) rfl (.tmp 12) (.tmp 15) 24 9 (.string ⟨#[]⟩) 1 16 rfl Tryz.underlying24 infoStr rfl (by omega) w.heap.size (.slice A3 n3 c3) (stR o) rfl HO2.out [.string xk] rfl (st_cell xk) (by rw [World.size_alloc]; rfl) LL.out (by omega) Z ?_
   intro v' w2 hO2 hb2 hk2 hw2
   obtain ⟨A2, n2, c2, rfl⟩ := hO2.shape
   have O2 : Hid (Owns w2 w.heap.size 9 1 (.slice A2 n2 c2) (stR (o ++ [xk]))) := by unfold Hid; rw [stR_append]; exact hO2
   have B2 : Hid (Below w.heap.size w w2) := BA.out.trans hb2
   clear hO2 hb2 hk2 hw2
   go_wp2_with fail
   go_roundw
   case rel => exact ⟨k + 1, by omega, by go_num, by rw [HE.out]; exact O2.out, B2.out⟩
   case measure => simp [intOf]; omega
  ·obtain rfl : k = n := by omega
   have HE := HA.out k rfl
   go_wp2_with fail
   go_ret
   refine ⟨⟨_, rfl, ?_⟩, HBr.out⟩
   rw [← HE]
   exact HO.out
set_option maxHeartbeats 1000000 in
theorem cachedPoints (l : List Ser) (key : ByteArray) (v : Value) (w : World) (B : Nat) (hv : SerV w B v l) (hn : l.length ≤ 1048576) (hB : B ≤ w.heap.size) :
  Calls Tryz.prog 217 #[v, .string key] w fun e w' => (∃ u, e = .returned u ∧ Lies w' B 2 u (ptR (ptsAt l key))) ∧ Below w.heap.size w w' := by
 have HV : Hid (SerV w B v l) := hv
 obtain ⟨A, cap, rfl, hl⟩ := hv.look
 have HL : Hid (∀ wx, Below w.heap.size w wx → ∀ j, j < l.length → ∃ g off u, A = some ⟨g, off, none⟩ ∧ g < B ∧ wx.cell? ⟨g, off + j * 2, none⟩ = some (.string (l.getD j default).key) ∧ wx.cell? ⟨g, off + j * 2 + 1, none⟩ = some u ∧ Lies wx B 2 u (ptR (l.getD j default).pts)) := fun wx hx => by
  obtain ⟨A', c', e', h⟩ := (hv.on (hx.mono hB)).look
  cases e'
  exact h
 have HB : Hid (B ≤ w.heap.size) := hB
 have q1 : (l.length : Int) ≤ 1048576 := by omega
 clear hl hv hn hB
 generalize hN : l.length = n at *
 have HN : Hid (l.length = n) := hN
 clear hN
 go_enter Tryz.func217, Tryz.ntmps217
 go_wp2_with fail
 go_loopw [9] (fun v9 wr => ∃ k : Nat, k ≤ n ∧ v9 = .int .i64 (k : Int) ∧ Hid (∀ i, i < k → (l.getD i default).key ≠ key) ∧ Below w.heap.size w wr) (fun i _ => n - (intOf i).toNat)
 case atStart => exact ⟨0, by omega, rfl, fun i hi => by omega, Below.refl _ _⟩
 case round =>
  obtain ⟨k, hk, rfl, HJ, hb⟩ := hrel
  have HBr : Hid (Below w.heap.size w wr) := hb
  clear hb
  by_cases hlt : k < n
  ·have q4 : (k : Int) < (n : Int) := by omega
   obtain ⟨g, off, u, rfl, hg, e1, e2, hu⟩ := HL.out wr HBr.out k hlt
   have HU : Hid (Lies wr B 2 u (ptR (l.getD k default).pts)) := hu
   obtain ⟨A5, n5, c5, rfl⟩ : ∃ A5 n5 c5, u = .slice A5 n5 c5 := by obtain ⟨A5, c5, e, _⟩ := hu; exact ⟨_, _, _, e⟩
   clear hu
   by_cases hkey : (l.getD k default).key = key
   ·have HF : Hid (ptsAt l key = (l.getD k default).pts) := ptsAt_at (by rw [HN.out]; exact hlt) hkey HJ.out
    rw [hkey] at e1
    clear hkey
    have BA : Hid (Below w.heap.size w (wr.alloc (.cells #[.string key, .slice A5 n5 c5] 98))) := HBr.out.alloc HBr.out.size _
    have UA : Hid (Lies (wr.alloc (.cells #[.string key, .slice A5 n5 c5] 98)) B 2 (.slice A5 n5 c5) (ptR (ptsAt l key))) := by
     unfold Hid
     rw [HF.out]
     exact HU.out.on ((Below.refl B wr).alloc (Nat.le_trans HB.out HBr.out.size) _)
    go_wp2_with fail
    go_ret
    exact ⟨⟨_, rfl, UA.out⟩, BA.out⟩
   ·have HK : Hid ((l.getD k default).key ≠ key) := hkey
    have hne := bytes_ne hkey
    clear hkey
    have HJ2 : Hid (∀ i, i < k + 1 → (l.getD i default).key ≠ key) := fun i hi => by
     by_cases e : i = k
     ·rw [e]; exact HK.out
     ·exact HJ.out i (by omega)
    clear HK
    generalize (l.getD k default).key = xk at e1 hne
    have BA : Hid (Below w.heap.size w (wr.alloc (.cells #[.string xk, .slice A5 n5 c5] 98))) := HBr.out.alloc HBr.out.size _
    go_wp2_with fail
    go_roundw
    case rel => exact ⟨k + 1, by omega, by go_num, HJ2, BA.out⟩
    case measure => simp [intOf]; omega
  ·obtain rfl : k = n := by omega
   have HF : Hid (ptsAt l key = []) := ptsAt_none fun x hx => by
    obtain ⟨j, hj, rfl⟩ := List.getElem_of_mem hx
    rw [getD_at l j hj]
    exact HJ.out j (by rw [← HN.out]; exact hj)
   go_wp2_with fail
   go_ret
   refine ⟨⟨_, rfl, ?_⟩, HBr.out⟩
   rw [HF.out]
   exact ⟨none, 0, rfl, ⟨fun _ => rfl, Nat.le_refl _⟩, fun r hr => (by cases hr), .inl rfl⟩
end Go.Proofs.YtikknmoeefipmaaGreatDoor
namespace Go.Proofs.YtikknmoeefipmaaGreatDoor
open Go.ChangeShapes Go.WideShapes Go.ChangeAt Go.RowKit Go.PlainAid
set_option linter.unusedVariables false
def FfAns (s key : ByteArray) (l : List Pnt) (ok : Bool) : Prop := (ok = true ∧ ∃ m j, GoodF s m ∧ j < m.length ∧ (sAt m j).key = key ∧ (∀ i, i < j → (sAt m i).key ≠ key) ∧ l = (sAt m j).pts) ∨ (ok = false ∧ l = [] ∧ ∀ m, GoodF s m → ∀ j, j < m.length → (sAt m j).key ≠ key)
theorem FfAns.one {s key : ByteArray} {l l' : List Pnt} {x y : Bool} (h : FfAns s key l x) (h' : FfAns s key l' y) : l = l' ∧ x = y := by
 rcases h with ⟨h1, m, j, h2, h3, h4, h5, h6⟩ | ⟨h1, h2, h3⟩ <;> rcases h' with ⟨h1', m', j', h2', h3', h4', h5', h6'⟩ | ⟨h1', h2', h3'⟩
 ·obtain rfl := h2.one h2'
  obtain rfl : j = j' := by
   rcases Nat.lt_trichotomy j j' with e | e | e
   ·exact absurd h4 (h5' j e)
   ·exact e
   ·exact absurd h4' (h5 j' e)
  exact ⟨h6.trans h6'.symm, h1.trans h1'.symm⟩
 ·exact absurd h4 (h3' m h2 j h3)
 ·exact absurd h4' (h3 m' h2' j' h3')
 ·exact ⟨h2.trans h2'.symm, h1.trans h1'.symm⟩
theorem FfAns.len {s key : ByteArray} {l : List Pnt} {x : Bool} (h : FfAns s key l x) : l.length ≤ 60 := by
 rcases h with ⟨_, m, j, h2, h3, _, _, h6⟩ | ⟨_, h2, _⟩
 ·rw [h6]
  exact (h2.2.1.2 j h3).2.2.1
 ·rw [h2]
  simp
def FfOk (s key : ByteArray) (w' : World) (b : Nat) (e : Ending) : Prop := ∃ v l ok, e = .returned (.tuple #[v, .bool ok]) ∧ FfAns s key l ok ∧ Owns w' b 90 2 v (ptR l)
end Go.Proofs.YtikknmoeefipmaaGreatDoor
namespace Go.Proofs.YtikknmoeefipmaaGreatDoor
open Go.ChangeShapes Go.WideShapes Go.ChangeAt Go.RowKit Go.PlainAid
set_option linter.unusedVariables false
def IxI (s : ByteArray) (P : List Spot) : Prop := (∃ m, GoodF s m ∧ P = (List.range m.length).map (spotOf m)) ∨ ((∀ m, ¬ GoodF s m) ∧ P = [])
set_option maxHeartbeats 2000000 in
theorem indexOfV (s : ByteArray) (w : World) (hs : s.size ≤ 1048576) (hst : SumTab w) (a0 a1 a2 : Addr) (he : Errs w a0 a1 a2) : Calls Tryz.prog 119 #[.string s] w fun e w' => (∃ v P, e = .returned v ∧ IxI s P ∧ Owns w' w.heap.size 180 5 v (spR P)) ∧ Below w.heap.size w w' := by
 have HS : Hid (s.size ≤ 1048576) := hs
 have c1 := implReadFile s w hs hst a0 a1 a2 he
 clear hs hst he
 go_enter Tryz.func119, Tryz.ntmps119
 go_wp2_with fail
 refine c1.mono ?_
 rintro e X1 ⟨⟨u1, L1, ok1, hR, rfl, _⟩, hb⟩
 have HR : Hid (RfAns s (L1.map Prod.fst) ok1) := hR
 have B1 : Hid (Below w.heap.size w X1) := hb
 clear hR hb c1
 cases ok1 with
 | false =>
  have HN : Hid (IxI s []) := by
   rcases HR.out with ⟨h, _⟩ | ⟨_, _, h⟩
   ·cases h
   ·exact .inr ⟨h, rfl⟩
  go_wp2_with fail
  go_ret
  exact ⟨⟨_, [], rfl, HN.out, Owns.nil _ _ _ _⟩, B1.out⟩
 | true =>
 have HY : Hid (IxI s (spots s)) := by
  rcases HR.out with ⟨_, h⟩ | ⟨h, _⟩
  ·exact .inl ⟨_, h, h.read.2⟩
  ·cases h
 have C0 : Hid (CurB (X1.alloc (.cells #[.string s, .int .i64 0] 243)) X1.heap.size s 0 243) := Blk.new X1 _ _
 have B0 : Hid (Below w.heap.size w (X1.alloc (.cells #[.string s, .int .i64 0] 243))) := B1.out.alloc B1.out.size _
 go_wp2_with fail
 refine (readerOfV s X1).mono ?_
 rintro e W1 ⟨rfl, hW1⟩
 rw [← hW1] at C0 B0
 clear hW1
 go_wp2_with fail
 refine (readIndexV s 0 X1.heap.size W1 C0.out HS.out).mono ?_
 rintro e X2 ⟨⟨u2, rfl, hO⟩, _, hk⟩
 have B2 : Hid (Below w.heap.size w X2) := B0.out.trans (hk.1.mono B1.out.size)
 have O2 : Hid (Owns X2 w.heap.size 180 5 u2 (spR (spots s))) := hO.mono B0.out.size
 clear hO hk
 go_wp2_with fail
 go_ret
 exact ⟨⟨_, _, rfl, HY.out, O2.out⟩, B2.out⟩
end Go.Proofs.YtikknmoeefipmaaGreatDoor
