/- FlText FlReadI FlMathS BkReadS -/
import Derived.Test.YtikknmoeefipmaaGreatDoorQp15
import Derived.Test.YtikknmoeefipmaaGreatDoorQp0
import Derived.WalkKit
import Derived.ProofKit
import Derived.OpenShut
import Derived.Below
import Derived.WalkSmall
import Derived.BigQuiet
import Derived.Deep.QuietTactic
import Derived.Deep.RegionWith
import Derived.Handy
import Derived.Test.YtikknmoeefipmaaGreatDoorQp14
import Derived.Test.YtikknmoeefipmaaGreatDoorQp13
import Derived.Test.YtikknmoeefipmaaGreatDoorQp9
import Derived.Test.YtikknmoeefipmaaGreatDoorRows
open List (setIfInBounds_toArray set_cons_zero set_cons_succ)
namespace Go.Proofs.YtikknmoeefipmaaGreatDoor
open Go.ChangeShapes Go.WideShapes Go.ChangeAt Go.RowKit Go.PlainAid
set_option linter.unusedVariables false
def upB (l : List Ser) (k : Nat) : List UInt8 := magic ++ blks l k
def upI (l : List Ser) (k : Nat) : List UInt8 := magic ++ (blks l l.length ++ idxB l k)
theorem upB_zero (l : List Ser) : (⟨#[]⟩ : ByteArray) ++ ⟨#[116, 115, 98, 49]⟩ = txt (upB l 0) := by
 show txt [] ++ txt magic = _
 rw [txt_cat, upB, blks, cat_zero, List.append_nil, List.nil_append]
theorem upB_succ (l : List Ser) (k : Nat) : txt (upB l k) ++ showB (sAt l k).pts = txt (upB l (k + 1)) := by
 conv => lhs; arg 2; rw [← txt_bl (showB (sAt l k).pts)]
 rw [txt_cat]
 unfold upB blks
 rw [cat_succ, List.append_assoc]
 rfl
theorem upB_size (l : List Ser) (k : Nat) : (txt (upB l k)).size = atB l k := by rw [txt_size, upB, List.length_append]; rfl
theorem upI_zero (l : List Ser) : upB l l.length = upI l 0 := by unfold upB upI idxB; rw [cat_zero, List.append_nil]
theorem upI_succ (l : List Ser) (k : Nat) : txt (upI l k) ++ txt (spB l k) = txt (upI l (k + 1)) := by
 rw [txt_cat]
 unfold upI idxB
 rw [cat_succ]
 simp only [List.append_assoc]
theorem upI_size {l : List Ser} (h : SOk l) (k : Nat) (hk : k ≤ l.length) : (txt (upI l k)).size ≤ 5000 := by
 have h1 := blks_length l l.length
 have h2 := idxB_length h k hk
 have := h.1
 rw [txt_size, upI, List.length_append, List.length_append]
 have : magic.length = 4 := rfl
 omega
theorem body_four {l : List Ser} (h : SOk l) : txt (upI l l.length) ++ fixed (atB l l.length) 4 = txt (bodyF l) := by
 have := atB_le h l.length (Nat.le_refl _)
 rw [fixed_four _ (by omega), four, txt_cat]
 unfold upI bodyF
 simp only [List.append_assoc]
theorem file_four (l : List Ser) : txt (bodyF l) ++ fixed (crc (txt (bodyF l))) 4 = txt (fileB l) := by
 rw [fixed_four _ (crc_lt _), four, txt_cat]
 rfl
theorem spot_is {l : List Ser} (h : SOk l) (k : Nat) (hk : k < l.length) : (⟨(sAt l k).key, (txt (upB l k)).size, (showB (sAt l k).pts).size, (tAt (sAt l k).pts 0).toNat, (tAt (sAt l k).pts ((sAt l k).pts.length - 1)).toNat⟩ : Spot) = spotOf l k := by
 unfold spotOf
 rw [upB_size, ← bl_length]
 rfl
theorem spotOf_fits {l : List Ser} (h : SOk l) (k : Nat) (hk : k < l.length) : SpFits (spotOf l k) := by
 obtain ⟨h1, h2, h3, h4, h5⟩ := nums_le h k hk
 have := h.key k hk
 exact ⟨show (sAt l k).key.size ≤ 1048576 by omega, h2, h3, h4, h5⟩
theorem spots_snoc (l : List Ser) (k : Nat) : (List.range (k + 1)).map (spotOf l) = (List.range k).map (spotOf l) ++ [spotOf l k] := by rw [List.range_succ, List.map_append]; rfl
theorem range_get (l : List Ser) (n k : Nat) (hk : k < n) : ((List.range n).map (spotOf l)).getD k default = spotOf l k := by
 rw [← getD_at _ k (by simpa using hk), List.getElem_map, List.getElem_range]
theorem fileT_no {l : List Ser} (h : ¬ (1 ≤ l.length ∧ SOk l)) : fileT l = ⟨#[]⟩ := by unfold fileT; rw [if_neg h]; rfl
theorem fileT_yes {l : List Ser} (h : 1 ≤ l.length ∧ SOk l) : fileT l = txt (fileB l) := by unfold fileT; rw [if_pos h]
theorem bodyF_size {l : List Ser} (h : SOk l) : (txt (bodyF l)).size ≤ 5000 := by rw [txt_size]; exact (bodyF_length h).2
theorem four_small (n : Nat) : (fixed n 4).size ≤ 4 := by
 unfold fixed
 split <;> rw [txt_size]
 ·rw [low_length]; omega
 ·simp
set_option maxHeartbeats 4000000 in
theorem implFileText (l : List Ser) (v : Value) (w : World) (B : Nat) (hv : SerV w B v l) (hn : SShort l) (hf : ∀ x ∈ l, x.key.size ≤ maxLen) (hB : B ≤ w.heap.size) (hst : SumTab w) : Calls Tryz.prog 94 #[v] w fun e w' => e = .returned (.string (fileT l)) ∧ Below w.heap.size w w' := by
 have c1 := implSeriesOk l v w B hv hn hf hB
 have ST : Hid (SumTab w) := hst
 clear hst
 obtain ⟨A, cap, rfl, hl⟩ := hv.look
 have HV0 : Hid (SerV w B (.slice A l.length cap) l) := hv
 have HL : Hid (∀ j, j < l.length → ∃ g off u, A = some ⟨g, off, none⟩ ∧ g < B ∧ w.cell? ⟨g, off + j * 2, none⟩ = some (.string (sAt l j).key) ∧ w.cell? ⟨g, off + j * 2 + 1, none⟩ = some u ∧ Lies w B 2 u (ptR (sAt l j).pts)) := hl
 have HB : Hid (B ≤ w.heap.size) := hB
 have q0 : (l.length : Int) ≤ 1048576 := by have := hn.1; omega
 clear hl hn hv hB hf
 by_cases h0 : l.length = 0
 ·have HE : Hid (fileT l = ⟨#[]⟩) := fileT_no (fun hh => by omega)
  rw [h0]
  clear c1 h0 q0 HV0
  go_enter Tryz.func94, Tryz.ntmps94
  go_wp2_with fail
  go_ret
  exact ⟨by rw [HE.out]; rfl, Below.refl _ _⟩
 have d0 : ((l.length : Int) == 0) = false := by rw [beq_eq_false_iff_ne]; omega
 have d1 : decide ((l.length : Int) = 0) = false := decide_eq_false (by omega)
 by_cases hok : ¬ SOk l
 ·have HE : Hid (fileT l = ⟨#[]⟩) := fileT_no (fun hh => hok hh.2)
  rw [decide_eq_false hok] at c1
  clear hok
  go_enter Tryz.func94, Tryz.ntmps94
  go_wp2_with fail
  refine c1.mono ?_
  rintro e w1 ⟨rfl, hb1⟩
  go_wp2_with fail
  go_ret
  exact ⟨by rw [HE.out]; rfl, hb1⟩
 have HK : Hid (SOk l) := (Decidable.not_not (p := SOk l)).1 hok
 rw [decide_eq_true HK.out] at c1
 have HE : Hid (fileT l = txt (fileB l)) := fileT_yes ⟨by omega, HK.out⟩
 have H1 : Hid (1 ≤ l.length) := by unfold Hid; omega
 have q1 : (l.length : Int) ≤ 5 := by have := HK.out.1; omega
 clear hok h0
 generalize hN : l.length = n at *
 have HN : Hid (l.length = n) := hN
 clear hN
 go_enter Tryz.func94, Tryz.ntmps94
 go_wp2_with fail
 refine c1.mono ?_
 rintro e w1 ⟨rfl, hb1⟩
 have B1 : Hid (Below w.heap.size w w1) := hb1
 have C1 : Hid (CurB (w1.alloc (.cells #[.string ⟨#[]⟩, .int .i64 0] 177)) w1.heap.size ⟨#[]⟩ 0 177) := Blk.new w1 _ _
 have HG : Hid (w.heap.size ≤ w1.heap.size) := hb1.size
 have B1a : Hid (Below w.heap.size w (w1.alloc (.cells #[.string ⟨#[]⟩, .int .i64 0] 177))) := hb1.alloc hb1.size _
 clear hb1 c1
 generalize hg : w1.heap.size = g at *
 go_wp2_with fail
 refine (writeV ⟨#[]⟩ ⟨#[116, 115, 98, 49]⟩ _ g 0 C1.out (by simp [ByteArray.size])).mono ?_
 rintro e X0 ⟨⟨uu, rfl⟩, hC, hk⟩
 rw [upB_zero l, upB_size] at hC
 have B0 : Hid (Below w.heap.size w X0) := B1a.out.trans (hk.1.mono HG.out)
 have C0 : Hid (CurB X0 g (txt (upB l 0)) (atB l 0) 177) := hC
 clear hk hC hg
 go_wp2_with fail
 go_loopw [4, 21] (fun v4 v21 wr => ∃ k : Nat, k ≤ n ∧ v21 = .int .i64 (k : Int) ∧ Owns wr w.heap.size 180 5 v4 (spR ((List.range k).map (spotOf l))) ∧ CurB wr g (txt (upB l k)) (atB l k) 177 ∧ Below w.heap.size w wr) (fun _ i _ => n - (intOf i).toNat)
 case atStart => exact ⟨0, by omega, rfl, Owns.nil _ _ _ _, C0.out, B0.out⟩
 case round =>
  obtain ⟨k, hk, rfl, hO, hC, hb⟩ := hrel
  have HO : Hid (Owns wr w.heap.size 180 5 u4 (spR ((List.range k).map (spotOf l)))) := hO
  have HC : Hid (CurB wr g (txt (upB l k)) (atB l k) 177) := hC
  have HB1 : Hid (Below w.heap.size w wr) := hb
  clear hO hC hb
  by_cases hlt : k < n
  ·have q4 : (k : Int) < (n : Int) := by omega
   obtain ⟨gs, off, us, rfl, hg, e1, e2, hu⟩ := HL.out k hlt
   have hgw : gs < w.heap.size := Nat.lt_of_lt_of_le hg HB.out
   rw [← HB1.out.cell (p := ⟨_, _, none⟩) hgw] at e1
   rw [← HB1.out.cell (p := ⟨_, _, none⟩) hgw] at e2
   have HU : Hid (Lies wr B 2 us (ptR (sAt l k).pts)) := hu.on (HB1.out.mono HB.out)
   obtain ⟨A', cap', rfl, _⟩ := pt_look hu
   have hsk := HK.out.2 k (by have := HN.out; omega)
   have HP1 : Hid (1 ≤ (sAt l k).pts.length ∧ POk (sAt l k).pts) := hsk.2
   have HSp : Hid ((⟨(sAt l k).key, (txt (upB l k)).size, (showB (sAt l k).pts).size, (tAt (sAt l k).pts 0).toNat, (tAt (sAt l k).pts ((sAt l k).pts.length - 1)).toNat⟩ : Spot) = spotOf l k) := spot_is HK.out k (by have := HN.out; omega)
   have HSu : Hid (txt (upB l k) ++ showB (sAt l k).pts = txt (upB l (k + 1))) := upB_succ l k
   have HSz : Hid ((txt (upB l k)).size = atB l k ∧ (txt (upB l (k + 1))).size = atB l (k + 1) ∧ atB l k ≤ 4504) := ⟨upB_size l k, upB_size l (k + 1), atB_le HK.out k (by have := HN.out; omega)⟩
   clear hu hsk
   have HWa : Hid (∀ cs, Below w.heap.size w (wr.alloc (.cells cs 98))) := fun cs => HB1.out.alloc HB1.out.size _
   have HWu : Hid (∀ cs, Below wr.heap.size wr (wr.alloc (.cells cs 98))) := fun cs => (Below.refl _ wr).alloc (Nat.le_refl _) _
   generalize hx : sAt l k = x at *
   clear hx hgw hg
   obtain ⟨xk, xp⟩ := x
   simp only at e1 e2 HU HP1 HSp HSu
   have cw := fun (cs : Array Value) => writeBlockV (txt (upB l k)) ⟨xk, xp⟩ (.slice A' xp.length cap') (wr.alloc (.cells cs 98)) g B (by rw [HSz.out.1]; exact Blk.alloc HC.out _) (HU.out.on ((HWu.out cs).mono (Nat.le_trans HB.out HB1.out.size))) HP1.out.1 HP1.out.2 (Nat.le_trans HB.out HG.out) (by rw [HSz.out.1]; have := HSz.out; omega) (ST.out.on (HWa.out cs))
   simp only [HSp.out, HSu.out, HSz.out.2.1] at cw
   unfold vSr vSp at cw
   generalize hpn : xp.length = pn at *
   go_wp2_with fail
   refine (cw _).mono ?_
   rintro e X1 ⟨rfl, hC1, hk1⟩
   have C1 : Hid (CurB X1 g (txt (upB l (k + 1))) (atB l (k + 1)) 177) := hC1
   have B1 : Hid (Below w.heap.size w X1) := (HWa.out _).trans (hk1.1.mono HG.out)
   have O1 : Hid (Owns X1 w.heap.size 180 5 u4 (spR ((List.range k).map (spotOf l)))) := hk1.owns (HO.out.alloc _) ((HO.out.alloc (.cells #[.string xk, .slice A' pn cap'] 98)).notBlk (Blk.alloc HC.out (.cells #[.string xk, .slice A' pn cap'] 98)) (by decide))
   have NB : Hid (u4.ownBlock ≠ some g) := O1.out.notBlk C1.out (by decide)
   have Z1 : w.heap.size ≤ X1.heap.size := B1.out.size
   have L2 : Hid ((spR ((List.range k).map (spotOf l))).length ≤ 2097152) := by unfold Hid; rw [spR_length, List.length_map, List.length_range]; omega
   clear hC1 hk1 cw
   go_wp2_with (at_builtin; refine wpList_append_row (w := X1) rfl (.tmp 25) (.tmp 28) 163 180 (.agg #[.string ⟨#[]⟩, .int .i64 0, .int .i64 0, .int .i64 0, .int .i64 0]) 5 48 rfl Tryz.underlying163 Tryz.infoSp rfl (by omega) w.heap.size u4 (spR ((List.range k).map (spotOf l))) rfl O1.out (spC (spotOf l k)) rfl (sp_one _) rfl L2.out (by omega) Z1 ?_; intro v2 w4 hO4 hb4 hk4 hw4; refine Shut.out ?_)
   unfold Shut
   have P2 : Hid (Owns w4 w.heap.size 180 5 v2 (spR ((List.range (k + 1)).map (spotOf l)))) := by unfold Hid; rw [spots_snoc, spR_append]; exact hO4
   have C4 : Hid (CurB w4 g (txt (upB l (k + 1))) (atB l (k + 1)) 177) := (hk4 g (Blk.lt C1.out) NB.out).trans C1.out
   have B4 : Hid (Below w.heap.size w w4) := B1.out.trans hb4
   clear hO4 hb4 hk4 hw4
   go_wp2_with fail
   go_roundw
   case rel => exact ⟨k + 1, by omega, by go_num, P2.out, C4.out, B4.out⟩
   case measure => simp [intOf]; omega
  ·obtain rfl : k = n := by omega
   have mm : wr.cell? ⟨g, 1, none⟩ = some (.int .i64 (atB l k : Int)) := Blk.cell HC.out 1 _ rfl
   have HSz : Hid (atB l k ≤ 4504) := atB_le HK.out k (by have := HN.out; omega)
   obtain ⟨A4, c4, e4, hl4⟩ := sp_look HO.out.lies
   rw [List.length_map, List.length_range] at e4
   subst e4
   obtain ⟨g4, o4, rfl, _⟩ := hl4 0 (by rw [List.length_map, List.length_range]; have := H1.out; omega)
   clear hl4
   have NB : Hid (g4 ≠ g) := fun e => HO.out.notBlk HC.out (by decide) (by rw [e]; rfl)
   have HC2 : Hid (CurB wr g (txt (upI l 0)) (atB l k) 177) := by
    unfold Hid
    rw [← upI_zero, HN.out]
    exact HC.out
   go_wp2_with fail
   refine (placeV wr g (atB l k) mm).mono ?_
   rintro e w' ⟨rfl, rfl⟩
   clear mm
   go_wp2_with fail
   go_loopw [35] (fun v35 ws => ∃ (j p : Nat), j ≤ k ∧ v35 = .int .i64 (j : Int) ∧ Owns ws w.heap.size 180 5 (.slice (some ⟨g4, o4, none⟩) k c4) (spR ((List.range k).map (spotOf l))) ∧ CurB ws g (txt (upI l j)) p 177 ∧ Below w.heap.size w ws) (fun i _ => k - (intOf i).toNat)
   case atStart => exact ⟨0, _, by omega, rfl, HO.out, HC2.out, HB1.out⟩
   case round =>
    obtain ⟨j, p, hj, rfl, hO, hC, hb⟩ := hrel
    have JO : Hid (Owns wr w.heap.size 180 5 (.slice (some ⟨g4, o4, none⟩) k c4) (spR ((List.range k).map (spotOf l)))) := hO
    have JC : Hid (CurB wr g (txt (upI l j)) p 177) := hC
    have JB : Hid (Below w.heap.size w wr) := hb
    clear hO hC hb
    by_cases hjt : j < k
    ·have q5 : (j : Int) < (k : Int) := by omega
     obtain ⟨A5, c5, e5, hl5⟩ := sp_look JO.out.lies
     rw [List.length_map, List.length_range] at e5
     cases e5
     obtain ⟨g5, o5, e5, _, e0, e1, e2, e3, e4⟩ := hl5 j (by rw [List.length_map, List.length_range]; exact hjt)
     cases e5
     clear hl5
     rw [range_get l k j hjt] at e0 e1 e2 e3 e4
     have HSF : Hid (SpFits (spotOf l j)) := spotOf_fits HK.out j (by have := HN.out; omega)
     have HKS : Hid ((sAt l j).key.size ≤ 8 ∧ (txt (upI l j)).size ≤ 5000 ∧ (txt (upI l (j + 1))).size ≤ 5000) := ⟨(HK.out.key j (by have := HN.out; omega)).2, upI_size HK.out j (by have := HN.out; omega), upI_size HK.out (j + 1) (by have := HN.out; omega)⟩
     have HSu : Hid (txt (upI l j) ++ txt (spT (spotOf l j)) = txt (upI l (j + 1))) := upI_succ l j
     have cw := fun (cs : Array Value) => writeSpotV (txt (upI l j)) (spotOf l j) (wr.alloc (.cells cs 180)) g p (Blk.alloc JC.out _) HSF.out (by have := HKS.out; show (txt (upI l j)).size + (sAt l j).key.size ≤ 900000; omega)
     have HWa : Hid (∀ cs, Below w.heap.size w (wr.alloc (.cells cs 180))) := fun cs => JB.out.alloc JB.out.size _
     have JOa : Hid (∀ cs, Owns (wr.alloc (.cells cs 180)) w.heap.size 180 5 (.slice (some ⟨g4, o4, none⟩) k c4) (spR ((List.range k).map (spotOf l)))) := fun cs => JO.out.alloc _
     simp only [HSu.out] at cw
     unfold vSp at cw
     generalize spotOf l j = x at *
     go_wp2_with fail
     refine (cw _).mono ?_
     rintro e X1 ⟨⟨uu', rfl⟩, hC1, hk1⟩
     have C1 : Hid (CurB X1 g (txt (upI l (j + 1))) (txt (upI l (j + 1))).size 177) := hC1
     have B1 : Hid (Below w.heap.size w X1) := (HWa.out _).trans (hk1.1.mono HG.out)
     have O1 : Hid (Owns X1 w.heap.size 180 5 (.slice (some ⟨g4, o4, none⟩) k c4) (spR ((List.range k).map (spotOf l)))) := hk1.owns (JOa.out _) (fun e => NB.out (Option.some.inj e))
     clear hC1 hk1 cw
     go_wp2_with fail
     go_roundw
     case rel => exact ⟨j + 1, _, by omega, by go_num, O1.out, C1.out, B1.out⟩
     case measure => simp [intOf]; omega
    ·obtain rfl : j = k := by omega
     clear JO
     have HF4 : Hid (txt (upI l j) ++ fixed (atB l j) 4 = txt (bodyF l)) := by have := body_four HK.out; rw [HN.out] at this; exact this
     have HF8 : Hid (txt (bodyF l) ++ fixed (crc (txt (bodyF l))) 4 = txt (fileB l)) := file_four l
     have HS5 : Hid ((txt (upI l j)).size ≤ 5000 ∧ (txt (bodyF l)).size ≤ 5000) := ⟨upI_size HK.out j (by have := HN.out; omega), bodyF_size HK.out⟩
     have HC32 := crc_lt (txt (bodyF l))
     have z4 := four_small (atB l j)
     have z8 := four_small (crc (txt (bodyF l)))
     have f4 := fun wx => impl_fixed (atB l j) 4 wx (by have := HSz.out; omega) (by omega) (by omega)
     have f8 := fun wx => impl_fixed (crc (txt (bodyF l))) 4 wx (by omega) (by omega) (by omega)
     go_wp2_with fail
     refine (f4 _).mono ?_
     rintro e Y1 ⟨rfl, hb1⟩
     have CY1 : Hid (CurB Y1 g (txt (upI l j)) p 177) := Blk.on JC.out hb1 (Blk.lt JC.out)
     have BY1 : Hid (Below w.heap.size w Y1) := JB.out.trans (hb1.mono JB.out.size)
     clear hb1
     go_wp2_with fail
     refine (writeV (txt (upI l j)) (fixed (atB l j) 4) Y1 g p CY1.out (by have := HS5.out; omega)).mono ?_
     rintro e Y2 ⟨⟨u1, rfl⟩, hC2, hk2⟩
     rw [HF4.out] at hC2
     have CY2 : Hid (CurB Y2 g (txt (bodyF l)) (txt (bodyF l)).size 177) := hC2
     have BY2 : Hid (Below w.heap.size w Y2) := BY1.out.trans (hk2.1.mono HG.out)
     clear hC2 hk2
     have m0 : Y2.cell? ⟨g, 0, none⟩ = some (.string (txt (bodyF l))) := Blk.cell CY2.out 0 _ rfl
     go_wp2_with fail
     refine (impl_crc (txt (bodyF l)) Y2 (by have := HS5.out; omega) (ST.out.on BY2.out)).mono ?_
     rintro e w' ⟨rfl, rfl⟩
     clear m0
     go_wp2_with fail
     refine (f8 _).mono ?_
     rintro e Y3 ⟨rfl, hb3⟩
     have CY3 : Hid (CurB Y3 g (txt (bodyF l)) (txt (bodyF l)).size 177) := Blk.on CY2.out hb3 (Blk.lt CY2.out)
     have BY3 : Hid (Below w.heap.size w Y3) := BY2.out.trans (hb3.mono BY2.out.size)
     clear hb3
     go_wp2_with fail
     refine (writeV (txt (bodyF l)) (fixed (crc (txt (bodyF l))) 4) Y3 g _ CY3.out (by have := HS5.out; omega)).mono ?_
     rintro e Y4 ⟨⟨u2, rfl⟩, hC4, hk4⟩
     rw [HF8.out] at hC4
     have BY4 : Hid (Below w.heap.size w Y4) := BY3.out.trans (hk4.1.mono HG.out)
     have m4 : Y4.cell? ⟨g, 0, none⟩ = some (.string (txt (fileB l))) := Blk.cell hC4 0 _ rfl
     clear hk4 hC4
     go_wp2_with fail
     go_ret
     exact ⟨by rw [HE.out]; rfl, BY4.out⟩
end Go.Proofs.YtikknmoeefipmaaGreatDoor
namespace Go.Proofs.YtikknmoeefipmaaGreatDoor
open Go.ChangeShapes Go.WideShapes Go.ChangeAt Go.RowKit Go.PlainAid
set_option linter.unusedVariables false
theorem spot_fits_at (s : ByteArray) (e : Nat) : ∀ f p, ∀ x ∈ idxA s e f p, x.at' ≤ 562949953421311 ∧ x.size ≤ 562949953421311 ∧ x.key.size ≤ s.size
 | 0, _, x, hx => by cases hx
 | f + 1, p, x, hx => by
  rw [idxA] at hx
  split at hx
  ·rcases List.mem_cons.1 hx with rfl | hx
   ·refine ⟨rvN_le _, rvN_le _, ?_⟩
    show (s.extract (tkP s p) (spK s p)).size ≤ s.size
    rw [ByteArray.size_extract]
    omega
   ·exact spot_fits_at s e f _ x hx
  ·cases hx
theorem spots_fit (s : ByteArray) : ∀ x ∈ spots s, x.at' ≤ 562949953421311 ∧ x.size ≤ 562949953421311 ∧ x.key.size ≤ s.size := by
 unfold spots
 split
 ·intro x hx; cases hx
 ·exact spot_fits_at s _ _ _
theorem serAll_take (s : ByteArray) (k : Nat) (h : k < (spots s).length) : ((spots s).take (k + 1)).map (serA s) = ((spots s).take k).map (serA s) ++ [serA s ((spots s).getD k default)] := by
 rw [take_getD _ k h, List.map_append]
 rfl
theorem serAll_short (s : ByteArray) : SShort (serAll s) := by
 refine ⟨by unfold serAll; rw [List.length_map]; have := spots_length s; omega, fun x hx => ?_⟩
 obtain ⟨y, _, rfl⟩ := List.mem_map.1 hx
 have := rbP_length (blkA s y)
 show (rbP (blkA s y)).length ≤ 1048576
 omega
theorem serAll_keys (s : ByteArray) (hs : s.size ≤ 1048576) : ∀ x ∈ serAll s, x.key.size ≤ maxLen := by
 intro x hx
 obtain ⟨y, hy, rfl⟩ := List.mem_map.1 hx
 have := (spots_fit s y hy).2.2
 show y.key.size ≤ maxLen
 unfold maxLen
 omega
theorem rf_yes {s : ByteArray} (h0 : serAll s ≠ []) (h : fileT (serAll s) = s) : RfAns s (serAll s) true := by
 refine .inl ⟨rfl, GoodF.of (List.length_pos_iff.2 h0) ?_ h⟩
 rcases Nat.lt_or_ge s.size 8 with h8 | h8
 ·exfalso
  apply h0
  unfold serAll spots
  rw [if_pos h8]
  rfl
 ·exact h8
theorem rf_no {s : ByteArray} (h : serAll s = [] ∨ fileT (serAll s) ≠ s) : RfAns s [] false := by
 refine .inr ⟨rfl, rfl, fun m hm => ?_⟩
 have e := hm.read.1
 rcases h with h | h
 ·rw [h] at e
  have := hm.1
  rw [← e] at this
  simp at this
 ·exact h (by rw [e]; exact hm.2.2)
theorem SerO.snoc {w1 w2 : World} {base : Nat} {v v' : Value} {L : List (Ser × Value)} {x : Ser} {u : Value} (ho : Owns w2 base 98 2 v' (srR L ++ [srC (x, u)])) (hL : ∀ p ∈ L, Owns w2 base 90 2 p.2 (ptR p.1.pts)) (hA : L.Pairwise fun p q => Apart p.2 q.2) (hu : Owns w2 base 90 2 u (ptR x.pts)) (hn : ∀ p ∈ L, Apart p.2 u) : SerO w2 base v' (L ++ [(x, u)]) := by
 refine ⟨by rw [srR_append]; exact ho, ?_, ?_⟩
 ·intro p hp
  rcases List.mem_append.1 hp with hp | hp
  ·exact hL p hp
  ·rw [List.mem_singleton.1 hp]
   exact hu
 ·rw [List.pairwise_append]
  refine ⟨hA, List.pairwise_singleton _ _, fun p hp q hq => ?_⟩
  rw [List.mem_singleton.1 hq]
  exact hn p hp
theorem SerO.others {w w' : World} {base g : Nat} {v : Value} {L : List (Ser × Value)} (h : SerO w base v L) (hk : KeptBut g w w') (hg : g < base) : SerO w' base v L :=
 ⟨hk.owns h.1 (h.1.below hg), fun p hp => hk.owns (h.2.1 p hp) ((h.2.1 p hp).below hg), h.2.2⟩
set_option maxHeartbeats 4000000 in
theorem implReadFile (s : ByteArray) (w : World) (hs : s.size ≤ 1048576) (hst : SumTab w) (a0 a1 a2 : Addr) (he : Errs w a0 a1 a2) : Calls Tryz.prog 155 #[.string s] w fun e w' => (∃ u L ok, RfAns s (L.map Prod.fst) ok ∧ e = .returned (.tuple #[u, .bool ok]) ∧ SerO w' w.heap.size u L) ∧ Below w.heap.size w w' := by
 have HS : Hid (s.size ≤ 1048576) := hs
 have ST : Hid (SumTab w) := hst
 have ER : Hid (Errs w a0 a1 a2) := he
 have C0 : Hid (CurB (w.alloc (.cells #[.string s, .int .i64 0] 243)) w.heap.size s 0 243) := Blk.new w _ _
 have B0 : Hid (Below w.heap.size w (w.alloc (.cells #[.string s, .int .i64 0] 243))) := (Below.refl _ w).alloc (Nat.le_refl _) _
 have HZ0 : Hid ((w.alloc (.cells #[.string s, .int .i64 0] 243)).heap.size = w.heap.size + 1) := World.size_alloc _ _
 have q0 : (s.size : Int) ≤ 1048576 := by omega
 clear hs hst he
 go_enter Tryz.func155, Tryz.ntmps155
 go_wp2_with fail
 refine (readerOfV s w).mono ?_
 rintro e W1 ⟨rfl, hW1⟩
 rw [← hW1] at C0 B0 HZ0
 clear hW1
 go_wp2_with fail
 refine (readIndexV s 0 w.heap.size W1 C0.out HS.out).mono ?_
 rintro e X1 ⟨⟨u11, rfl, hO⟩, ⟨p1, hC⟩, hk⟩
 rw [HZ0.out] at hO
 obtain ⟨A11, c11, e11, _⟩ := sp_look hO.lies
 have HN5 : Hid ((spots s).length ≤ 5) := spots_length s
 have C1 : Hid (CurB X1 w.heap.size s p1 243) := hC
 have B1 : Hid (Below w.heap.size w X1) := B0.out.trans hk.1
 have O1 : Hid (Owns X1 (w.heap.size + 1) 180 5 u11 (spR (spots s))) := hO
 generalize hn : (spots s).length = n at *
 have HNn : Hid ((spots s).length = n) := hn
 subst e11
 have q1 : (n : Int) ≤ 5 := by have := HN5.out; omega
 clear hO hC hk hn B0 C0 HZ0
 go_wp2_with fail
 go_loopw [5, 13] (fun v5 v13 wr => ∃ (k p : Nat) (L : List (Ser × Value)), k ≤ n ∧ v13 = .int .i64 (k : Int) ∧ L.map Prod.fst = ((spots s).take k).map (serA s) ∧ SerO wr (w.heap.size + 1) v5 L ∧ Owns wr (w.heap.size + 1) 180 5 (.slice A11 n c11) (spR (spots s)) ∧ CurB wr w.heap.size s p 243 ∧ Below w.heap.size w wr) (fun _ i _ => n - (intOf i).toNat)
 case atStart => exact ⟨0, p1, [], by omega, rfl, by simp, ⟨Owns.nil _ _ _ _, fun p hp => (by cases hp), List.Pairwise.nil⟩, O1.out, C1.out, B1.out⟩
 case round =>
  obtain ⟨k, p, L, hk, rfl, hLm, hO, hO11, hC, hb⟩ := hrel
  have HLM : Hid (L.map Prod.fst = ((spots s).take k).map (serA s)) := hLm
  have HLL : Hid (L.length = k) := by have := congrArg List.length hLm; rw [List.length_map, List.length_map, List.length_take] at this; have := HNn.out; unfold Hid; omega
  have HO : Hid (SerO wr (w.heap.size + 1) u5 L) := hO
  have HO11 : Hid (Owns wr (w.heap.size + 1) 180 5 (.slice A11 n c11) (spR (spots s))) := hO11
  have HC : Hid (CurB wr w.heap.size s p 243) := hC
  have HB1 : Hid (Below w.heap.size w wr) := hb
  clear hO hLm hO11 hC hb
  by_cases hlt : k < n
  ·have q4 : (k : Int) < (n : Int) := by omega
   obtain ⟨A5, c5, e5, hl5⟩ := sp_look HO11.out.lies
   rw [HNn.out] at e5 hl5
   cases e5
   obtain ⟨g5, o5, rfl, _, e0, e1, e2, e3, e4⟩ := hl5 k hlt
   clear hl5
   have HT : Hid (((spots s).take (k + 1)).map (serA s) = ((spots s).take k).map (serA s) ++ [serA s ((spots s).getD k default)]) := serAll_take s k (by rw [HNn.out]; exact hlt)
   have HFx : Hid (((spots s).getD k default).at' ≤ 562949953421311 ∧ ((spots s).getD k default).size ≤ 562949953421311 ∧ ((spots s).getD k default).key.size ≤ s.size) := spots_fit s _ (getD_mem _ k (by rw [HNn.out]; exact hlt))
   generalize hx : (spots s).getD k default = x at *
   clear hx
   obtain ⟨xk, xa, xz, xf, xl⟩ := x
   simp only at e0 e1 e2 e3 e4 HFx
   have KB0 : Hid (Blk (wr.alloc (.cells #[.string xk, .int .i64 (xa : Int), .int .i64 (xz : Int), .int .i64 (xf : Int), .int .i64 (xl : Int)] 180)).drew wr.heap.size #[.string xk, .int .i64 (xa : Int), .int .i64 (xz : Int), .int .i64 (xf : Int), .int .i64 (xl : Int)] 180) := Blk.new wr _ _
   have CB0 : Hid (CurB (wr.alloc (.cells #[.string xk, .int .i64 (xa : Int), .int .i64 (xz : Int), .int .i64 (xf : Int), .int .i64 (xl : Int)] 180)).drew w.heap.size s p 243) := Blk.alloc HC.out _
   have BB0 : Hid (Below w.heap.size w (wr.alloc (.cells #[.string xk, .int .i64 (xa : Int), .int .i64 (xz : Int), .int .i64 (xf : Int), .int .i64 (xl : Int)] 180)).drew) := (HB1.out.alloc HB1.out.size _).drew
   have OL0 : Hid (SerO (wr.alloc (.cells #[.string xk, .int .i64 (xa : Int), .int .i64 (xz : Int), .int .i64 (xf : Int), .int .i64 (xl : Int)] 180)).drew (w.heap.size + 1) u5 L) := HO.out.on ((Below.refl _ wr).alloc (Nat.le_refl _) _).drew
   have OS0 : Hid (Owns (wr.alloc (.cells #[.string xk, .int .i64 (xa : Int), .int .i64 (xz : Int), .int .i64 (xf : Int), .int .i64 (xl : Int)] 180)).drew (w.heap.size + 1) 180 5 (.slice (some ⟨g5, o5, none⟩) n c11) (spR (spots s))) := HO11.out.on ((Below.refl _ wr).alloc (Nat.le_refl _) _).drew
   have HHS : Hid (w.heap.size < wr.heap.size) := Blk.lt HC.out
   have S0 : Hid ((wr.alloc (.cells #[.string xk, .int .i64 (xa : Int), .int .i64 (xz : Int), .int .i64 (xf : Int), .int .i64 (xl : Int)] 180)).drew.cell? ⟨wr.heap.size, 0, none⟩ = some (.string xk) ∧ (wr.alloc (.cells #[.string xk, .int .i64 (xa : Int), .int .i64 (xz : Int), .int .i64 (xf : Int), .int .i64 (xl : Int)] 180)).drew.cell? ⟨wr.heap.size, 1, none⟩ = some (.int .i64 (xa : Int)) ∧ (wr.alloc (.cells #[.string xk, .int .i64 (xa : Int), .int .i64 (xz : Int), .int .i64 (xf : Int), .int .i64 (xl : Int)] 180)).drew.cell? ⟨wr.heap.size, 2, none⟩ = some (.int .i64 (xz : Int)) ∧ (wr.alloc (.cells #[.string xk, .int .i64 (xa : Int), .int .i64 (xz : Int), .int .i64 (xf : Int), .int .i64 (xl : Int)] 180)).drew.cell? ⟨wr.heap.size, 3, none⟩ = some (.int .i64 (xf : Int)) ∧ (wr.alloc (.cells #[.string xk, .int .i64 (xa : Int), .int .i64 (xz : Int), .int .i64 (xf : Int), .int .i64 (xl : Int)] 180)).drew.cell? ⟨wr.heap.size, 4, none⟩ = some (.int .i64 (xl : Int))) := ⟨KB0.out.cell 0 _ rfl, KB0.out.cell 1 _ rfl, KB0.out.cell 2 _ rfl, KB0.out.cell 3 _ rfl, KB0.out.cell 4 _ rfl⟩
   have cC := clone xk (wr.alloc (.cells #[.string xk, .int .i64 (xa : Int), .int .i64 (xz : Int), .int .i64 (xf : Int), .int .i64 (xl : Int)] 180)).drew (by have := HFx.out; have := HS.out; omega)
   go_wp2_with fail
   refine wp_region_until (fun w' => w'.cell? ⟨wr.heap.size, 0, none⟩ = some (.string xk) ∧ w'.cell? ⟨wr.heap.size, 1, none⟩ = some (.int .i64 (xa : Int)) ∧ w'.cell? ⟨wr.heap.size, 2, none⟩ = some (.int .i64 (xz : Int)) ∧ w'.cell? ⟨wr.heap.size, 3, none⟩ = some (.int .i64 (xf : Int)) ∧ w'.cell? ⟨wr.heap.size, 4, none⟩ = some (.int .i64 (xl : Int))) (fun i => i == 9 || i == 10) 11 (by rfl) (by kernel_rfl) ?_
   refine tKe 0 (v := ?_) S0.out ?_ ?_; rotate_left; focus (intro w hSw; (try dsimp only at hSw); go_simp; try with_reducible rfl)
   try simp only [Act.put, zQ1, zQ2, zQ3]
   refine tKe 1 (v := ?_) S0.out ?_ ?_; rotate_left; focus (intro w hSw; (try dsimp only at hSw); go_simp; try with_reducible rfl)
   try simp only [Act.put, zQ1, zQ2, zQ3]
   refine tKe 2 (v := ?_) S0.out ?_ ?_; rotate_left; focus (intro w hSw; (try dsimp only at hSw); go_simp; try with_reducible rfl)
   try simp only [Act.put, zQ1, zQ2, zQ3]
   refine tKe 4 (v := ?_) S0.out ?_ ?_; rotate_left; focus (intro w hSw; (try dsimp only at hSw); go_simp; try with_reducible rfl)
   try simp only [Act.put, zQ1, zQ2, zQ3]
   refine tKe 5 (v := ?_) S0.out ?_ ?_; rotate_left; focus (intro w hSw; (try dsimp only at hSw); go_simp; try with_reducible rfl)
   try simp only [Act.put, zQ1, zQ2, zQ3]
   refine uNe 3 (fun K hK => ?_)
   go_simp
   refine cC.mono ?_
   rintro e X2 ⟨rfl, hb2⟩
   have KB2 : Hid (Blk X2 wr.heap.size #[.string xk, .int .i64 (xa : Int), .int .i64 (xz : Int), .int .i64 (xf : Int), .int .i64 (xl : Int)] 180) := KB0.out.on hb2 KB0.out.lt
   have CB2 : Hid (CurB X2 w.heap.size s p 243) := Blk.on CB0.out hb2 (Blk.lt CB0.out)
   have BB2 : Hid (Below w.heap.size w X2) := BB0.out.trans (hb2.mono BB0.out.size)
   have OL2 : Hid (SerO X2 (w.heap.size + 1) u5 L) := OL0.out.on hb2
   have OS2 : Hid (Owns X2 (w.heap.size + 1) 180 5 (.slice (some ⟨g5, o5, none⟩) n c11) (spR (spots s))) := OS0.out.on hb2
   clear hb2 cC KB0 CB0 BB0 OL0 OS0
   go_wp2_with fail
   refine hK.out _ _ (fun _ _ => ⟨KB2.out.cell 0 _ rfl, KB2.out.cell 1 _ rfl, KB2.out.cell 2 _ rfl, KB2.out.cell 3 _ rfl, KB2.out.cell 4 _ rfl⟩) ?_
   clear hK K
   try simp only [Act.put, zQ1, zQ2, zQ3]
   refine uNe 6 (fun K hK => ?_)
   go_simp
   refine (readBlockV s p w.heap.size ⟨xk, xa, xz, xf, xl⟩ X2 w CB2.out HS.out ⟨HFx.out.1, HFx.out.2.1⟩ BB2.out (Nat.le_refl _) ST.out a0 a1 a2 ER.out).mono ?_
   rintro e X3 ⟨⟨u3, rfl, hO3⟩, ⟨p3, hC3⟩, hk3⟩
   obtain ⟨A3, n3, c3, rfl⟩ := hO3.shape
   have KB3 : Hid (Blk X3 wr.heap.size #[.string xk, .int .i64 (xa : Int), .int .i64 (xz : Int), .int .i64 (xf : Int), .int .i64 (xl : Int)] 180) := hk3.blk KB2.out (by have := HHS.out; omega)
   have CB3 : Hid (CurB X3 w.heap.size s p3 243) := hC3
   have BB3 : Hid (Below w.heap.size w X3) := BB2.out.trans hk3.1
   have OL3 : Hid (SerO X3 (w.heap.size + 1) u5 L) := OL2.out.others hk3 (by omega)
   have OS3 : Hid (Owns X3 (w.heap.size + 1) 180 5 (.slice (some ⟨g5, o5, none⟩) n c11) (spR (spots s))) := hk3.owns OS2.out (OS2.out.below (by omega))
   have UP3 : Hid (Owns X3 X2.heap.size 90 2 (.slice A3 n3 c3) (ptR (serA s ⟨xk, xa, xz, xf, xl⟩).pts)) := hO3
   have AP3 : Hid (∀ q ∈ L, Apart q.2 (.slice A3 n3 c3)) := fun q hq gg h1 h2 => by
    have := ((OL2.out.2.1 q hq).lt gg h1).2
    have := (hO3.lt gg h2).1
    omega
   have Z23 : Hid (w.heap.size + 1 ≤ X2.heap.size) := by have := Blk.lt CB2.out; unfold Hid; omega
   have Z3 : w.heap.size + 1 ≤ X3.heap.size := by have := Blk.lt CB3.out; omega
   clear hO3 hC3 hk3 KB2 CB2 BB2 OL2 OS2
   obtain ⟨nA, nm, nc, w5, r5, hO5, hb5, hk5, _⟩ := run_append_row (P := Tryz.prog) X3 33 33 98 (.agg #[.string ⟨#[]⟩, .slice none 0 0]) 2 40 Tryz.underlying33 Tryz.infoSr rfl (by omega) (w.heap.size + 1) u5 (srR L) OL3.out.1 [.string xk, .slice A3 n3 c3] rfl (by intro y hy; simp only [List.mem_cons, List.not_mem_nil, or_false] at hy; rcases hy with rfl | rfl <;> rfl) (by rw [srR_length, HLL.out]; omega) (by omega) Z3
   have hne5 : ∀ (v : Value) (b : Nat) (e : TypeId) (sz : Nat) (r : List (List Value)), Owns X3 b e sz v r → e ≠ 98 → Owns w5 b e sz v r := fun v b e sz r ho hne => ho.kept fun gg hg hv => hk5 gg hg (fun hu => ho.apartT OL3.out.1 hne gg hv hu)
   have CB5 : Hid (CurB w5 w.heap.size s p3 243) := (hk5 w.heap.size (Blk.lt CB3.out) (OL3.out.1.below (by omega))).trans CB3.out
   have BB5 : Hid (Below w.heap.size w w5) := BB3.out.trans (hb5.mono (by omega))
   have OS5 : Hid (Owns w5 (w.heap.size + 1) 180 5 (.slice (some ⟨g5, o5, none⟩) n c11) (spR (spots s))) := hne5 _ _ _ _ _ OS3.out (by decide)
   have OL5 : Hid (SerO w5 (w.heap.size + 1) (.slice nA nm nc) (L ++ [(serA s ⟨xk, xa, xz, xf, xl⟩, .slice A3 n3 c3)])) := SerO.snoc (w1 := X3) (v := u5) hO5 (fun q hq => hne5 _ _ _ _ _ (OL3.out.2.1 q hq) (by decide)) OL3.out.2.2 (hne5 _ _ _ _ _ (UP3.out.mono Z23.out) (by decide)) AP3.out
   have HLMn : Hid ((L ++ [(serA s ⟨xk, xa, xz, xf, xl⟩, Value.slice A3 n3 c3)]).map Prod.fst = ((spots s).take (k + 1)).map (serA s)) := by
    unfold Hid
    rw [HT.out, List.map_append, HLM.out]
    rfl
   clear hO5 hb5 hk5 hne5
   go_wp2_with fail
   refine hK.out _ _ (fun _ _ => ⟨KB3.out.cell 0 _ rfl, KB3.out.cell 1 _ rfl, KB3.out.cell 2 _ rfl, KB3.out.cell 3 _ rfl, KB3.out.cell 4 _ rfl⟩) ?_
   clear hK K
   try simp only [Act.put, zQ1, zQ2, zQ3]
   refine pUr 7 (v := ?_) ?_ ?_; rotate_left; focus (intro w; go_simp; try with_reducible rfl)
   try simp only [Act.put, zQ1, zQ2, zQ3]
   refine uNe 8 (fun K hK => ?_)
   go_simp
   refine hK.out _ _ (fun _ h => ⟨cell_alloc_keep h.1 _, cell_alloc_keep h.2.1 _, cell_alloc_keep h.2.2.1 _, cell_alloc_keep h.2.2.2.1 _, cell_alloc_keep h.2.2.2.2 _⟩) ?_
   clear hK K
   try simp only [Act.put, zQ1, zQ2, zQ3]
   refine uNe 9 (fun K hK => ?_)
   refine step_append_run (by rfl) (.tmp 17) (.tmp 25) 33 (by rfl) _ _ _ _ (by rfl) (by rfl) r5 ?_
   refine hK.out _ _ (fun h => by cases h) ?_
   clear hK K
   try simp only [Act.put, zQ1, zQ2, zQ3]
   refine uNe 10 (fun K hK => ?_)
   go_simp
   refine hK.out _ _ (fun h => by cases h) ?_
   clear hK K
   try simp only [Act.put, zQ1, zQ2, zQ3]
   refine until_done (by kernel_rfl) ?_ _
   go_wp2_with fail
   go_roundw
   case rel => exact ⟨k + 1, p3, _, by omega, by go_num, HLMn.out, OL5.out, OS5.out, CB5.out, BB5.out⟩
   case measure => simp [intOf]; omega
  ·obtain rfl : k = n := by omega
   have HA : Hid (L.map Prod.fst = serAll s) := by
    unfold Hid
    rw [HLM.out, List.take_of_length_le (by rw [HNn.out]; exact Nat.le_refl _)]
    rfl
   obtain ⟨A5, c5, e5, _⟩ := sr_look HO.out.lies.1
   rw [HLL.out] at e5
   subst e5
   by_cases h0 : k = 0
   ·subst h0
    have HE : Hid (serAll s = []) := by unfold Hid; rw [← HA.out, List.eq_nil_of_length_eq_zero HLL.out]; rfl
    go_wp2_with fail
    exact bodyPost_ret (results_tmp2 rfl _ _ _) rfl ⟨⟨_, [], _, rf_no (.inl HE.out), rfl, Owns.nil _ _ _ _, fun p hp => (by cases hp), List.Pairwise.nil⟩, HB1.out⟩
   have d0 : ((k : Int) == 0) = false := by rw [beq_eq_false_iff_ne]; omega
   have d1 : decide ((k : Int) = 0) = false := decide_eq_false (by omega)
   have HNE : Hid (serAll s ≠ []) := fun e => h0 (by rw [← HLL.out, ← List.length_map (f := Prod.fst), HA.out, e]; rfl)
   have cF := implFileText (serAll s) (.slice A5 k c5) wr wr.heap.size ⟨L, HA.out, HO.out.lies⟩ (serAll_short s) (serAll_keys s HS.out) (Nat.le_refl _) (ST.out.on HB1.out)
   by_cases hEq : fileT (serAll s) = s
   ·rw [hEq] at cF
    have HEQ : Hid (fileT (serAll s) = s) := hEq
    clear hEq
    go_wp2_with fail
    refine cF.mono ?_
    rintro e Y ⟨rfl, hbY⟩
    have BY : Hid (Below w.heap.size w Y) := HB1.out.trans (hbY.mono HB1.out.size)
    have OY : Hid (SerO Y w.heap.size (.slice A5 k c5) L) := (HO.out.on hbY).mono (by omega)
    clear hbY cF
    go_wp2_with fail
    exact bodyPost_ret (results_tmp2 rfl _ _ _) rfl ⟨⟨_, L, _, by rw [HA.out]; exact rf_yes HNE.out HEQ.out, rfl, OY.out⟩, BY.out⟩
   ·have HEQ : Hid (fileT (serAll s) ≠ s) := hEq
    have hne := bytes_ne hEq
    clear hEq
    go_wp2_with fail
    refine cF.mono ?_
    rintro e Y ⟨rfl, hbY⟩
    have BY : Hid (Below w.heap.size w Y) := HB1.out.trans (hbY.mono HB1.out.size)
    clear hbY cF
    go_wp2_with fail
    exact bodyPost_ret (results_tmp2 rfl _ _ _) rfl ⟨⟨_, [], _, rf_no (.inr HEQ.out), rfl, Owns.nil _ _ _ _, fun p hp => (by cases hp), List.Pairwise.nil⟩, BY.out⟩
end Go.Proofs.YtikknmoeefipmaaGreatDoor
namespace Go.Proofs.YtikknmoeefipmaaGreatDoor
open Go.RowKit Go.PlainAid
def fourN (l : List Ser) (j i : Nat) : Nat := if i = 0 then atB l j else if i = 1 then (blkB l j).length else if i = 2 then fT l j else lT l j
theorem four_cat (l : List Ser) (j : Nat) : cat (fun i => vF 6 (fourN l j i)) 4 = vF 6 (atB l j) ++ (vF 6 (blkB l j).length ++ (vF 6 (fT l j) ++ vF 6 (lT l j))) := by
 rw [cat_succ, cat_succ, cat_succ, cat_succ, cat_zero]
 simp only [fourN, List.nil_append, List.append_assoc]
 rfl
theorem GoodF.ends {s : ByteArray} {m : List Ser} (h : GoodF s m) : s.size - 8 = posF m m.length ∧ 12 ≤ s.size ∧ rdv (rest s (s.size - 8)) 4 = posF m 0 ∧ posF m 0 ≤ s.size - 8 := by
 have hp := posF_end h.2.1
 obtain ⟨h1, h2⟩ := begin_read h.2.1
 rw [h.text] at *
 have ee : (txt (fileB m)).size - 8 = posF m m.length := by rw [txt_size]; omega
 have h0 : posF m 0 = atB m m.length := by unfold posF idxB; rw [cat_zero]; rfl
 refine ⟨ee, h2, by rw [h1, h0], ?_⟩
 rw [ee]
 rcases Nat.eq_zero_or_pos m.length with h3 | h3
 ·rw [h3]; exact Nat.le_refl _
 ·exact Nat.le_of_lt (posF_lt h.2.1 0 h3)
theorem GoodF.more {s : ByteArray} {m : List Ser} (h : GoodF s m) (k : Nat) (hk : k ≤ m.length) (hp : posF m k < s.size - 8) : k < m.length := by
 rcases Nat.lt_or_ge k m.length with h1 | h1
 ·exact h1
 ·exfalso
  have : k = m.length := by omega
  subst this
  rw [h.ends.1] at hp
  omega
theorem GoodF.last {s : ByteArray} {m : List Ser} (h : GoodF s m) (k : Nat) (hk : k ≤ m.length) (hp : ¬ posF m k < s.size - 8) : k = m.length := by
 rcases Nat.lt_or_ge k m.length with h1 | h1
 ·exfalso
  rw [h.ends.1] at hp
  exact hp (posF_lt h.2.1 k h1)
 ·omega
theorem GoodF.step {s : ByteArray} {m : List Ser} (h : GoodF s m) (k : Nat) (hk : k < m.length) (p : Nat) (hp : p = posF m k) :
  rvN (s.extract p (s.size - 8)) = (sAt m k).key.size ∧ 1 ≤ rvK (s.extract p (s.size - 8)) ∧ p + rvK (s.extract p (s.size - 8)) + (sAt m k).key.size ≤ s.size - 8 ∧
  s.extract (p + rvK (s.extract p (s.size - 8))) (p + rvK (s.extract p (s.size - 8)) + (sAt m k).key.size) = (sAt m k).key ∧
  Rd (s.extract (p + rvK (s.extract p (s.size - 8)) + (sAt m k).key.size) (s.size - 8)) 4 (rowOf (fun i => (fourN m k i : Int)) 4) (cat (fun i => vF 6 (fourN m k i)) 4).length ∧
  p + rvK (s.extract p (s.size - 8)) + (sAt m k).key.size + (cat (fun i => vF 6 (fourN m k i)) 4).length = posF m (k + 1) ∧
  atB m k ≤ s.size ∧ (blkB m k).length ≤ s.size - atB m k ∧ s.extract (atB m k) (atB m k + (blkB m k).length) = showB (sAt m k).pts := by
 have hok := h.2.1
 obtain ⟨hend, h12, _, _⟩ := h.ends
 obtain ⟨a, b, hf, ha, hb⟩ := file_at m k hk
 obtain ⟨n1, n2, n3, n4, n5⟩ := nums_le hok k hk
 have hs := h.text
 have hblk := blk_read (l := m) k hk
 have hsp : spB m k = vF 6 (sAt m k).key.size ++ (bl (sAt m k).key ++ cat (fun i => vF 6 (fourN m k i)) 4) := by rw [four_cat]; rfl
 have hlen : posF m m.length = a.length + (spB m k ++ b).length := by
  rw [ha]
  unfold posF
  rw [hb]
  simp only [List.length_append]
  omega
 subst hp
 rw [← ha]
 generalize hK : (sAt m k).key = K at *
 generalize hC : cat (fun i => vF 6 (fourN m k i)) 4 = C at *
 generalize hT : low (atB m m.length) 4 ++ low (crc (txt (bodyF m))) 4 = T at *
 have e0 : fileB m = a ++ ((spB m k ++ b) ++ T) := by rw [hf]; simp only [List.append_assoc]
 have x0 : s.extract a.length (s.size - 8) = txt (vF 6 K.size ++ (bl K ++ (C ++ b))) := by
  rw [hend, hlen, hs, e0, extract_mid, hsp]
  simp only [List.append_assoc]
 have hr := rv_var K.size (bl K ++ (C ++ b)) n1
 rw [← x0] at hr
 rw [hr.1, hr.2]
 have hpos : 1 ≤ (vF 6 K.size).length := vF_pos _ _
 have hsl : (spB m k ++ b).length = (vF 6 K.size).length + (K.size + (C.length + b.length)) := by rw [hsp]; simp only [List.length_append, bl_length]; omega
 have e1 : fileB m = (a ++ vF 6 K.size) ++ (bl K ++ (C ++ b ++ T)) := by rw [e0, hsp]; simp only [List.append_assoc]
 have e2 : fileB m = (a ++ vF 6 K.size ++ bl K) ++ ((C ++ b) ++ T) := by rw [e0, hsp]; simp only [List.append_assoc]
 have x1 := extract_mid (a ++ vF 6 K.size) (bl K) (C ++ b ++ T)
 rw [← e1, ← hs, List.length_append, bl_length, txt_bl] at x1
 have x2 := extract_mid (a ++ vF 6 K.size ++ bl K) (C ++ b) T
 rw [← e2, ← hs, List.length_append, List.length_append, bl_length] at x2
 have e3 : a.length + (vF 6 K.size).length + K.size + (C ++ b).length = s.size - 8 := by rw [hend, hlen, hsl, List.length_append]; omega
 rw [e3] at x2
 have hrd := rd_cat (fourN m k) 4 (fun i _ => by unfold fourN; split; exact n2; split; exact n3; split; exact n4; exact n5) b 4 (Nat.le_refl _)
 rw [hC] at hrd
 have hat : atB m k + (blkB m k).length ≤ s.size := by
  obtain ⟨c, hc⟩ := cat_split (blkB m) k m.length hk
  have e4 : (blks m m.length).length = (blks m k).length + ((blkB m k).length + c.length) := by
   show (cat (blkB m) m.length).length = _
   rw [hc]
   simp only [List.length_append]
   rfl
  have := bodyF_length hok
  rw [hs, txt_size, fileB_length, this.1]
  unfold atB
  omega
 refine ⟨rfl, hpos, ?_, x1, ?_, ?_, by omega, by omega, ?_⟩
 ·rw [hend, hlen, hsl]
  omega
 ·rw [x2]
  exact hrd
 ·rw [posF_succ, ← ha, hsp]
  simp only [List.length_append, bl_length]
  omega
 ·rw [← hs] at hblk
  rw [← hblk]
  unfold blkA spotOf tk
  simp only
  rw [show min (atB m k) s.size = atB m k by omega, show min (atB m k + (blkB m k).length) s.size = atB m k + (blkB m k).length by omega]
theorem four_at (m : List Ser) (k : Nat) : (rowOf (fun i => (fourN m k i : Int)) 4).getD 0 0 = (atB m k : Int) ∧ (rowOf (fun i => (fourN m k i : Int)) 4).getD 1 0 = ((blkB m k).length : Int) := ⟨rfl, rfl⟩
theorem take_sAt {m : List Ser} (k : Nat) (hk : k < m.length) : m.take (k + 1) = m.take k ++ [sAt m k] := take_getD m k hk
theorem GoodF.pts {s : ByteArray} {m : List Ser} (h : GoodF s m) (k : Nat) (hk : k < m.length) : Good (showB (sAt m k).pts) (sAt m k).pts := ⟨(h.2.1.2 k hk).2.1, (h.2.1.2 k hk).2.2, rfl⟩
end Go.Proofs.YtikknmoeefipmaaGreatDoor
namespace Go.Proofs.YtikknmoeefipmaaGreatDoor
open Go.ChangeShapes Go.WideShapes Go.ChangeAt Go.RowKit Go.PlainAid
set_option linter.unusedVariables false
set_option maxRecDepth 20000 in
set_option maxHeartbeats 4000000 in
theorem specReadBlock (s : ByteArray) (w : World) (hs : s.size ≤ 1048576) : Calls Tryz.prog 103 #[.string s] w fun e w' => (∃ u l ok, RbAns s l ok ∧ e = .returned (.tuple #[u, .bool ok]) ∧ Owns w' w.heap.size 90 2 u (ptR l)) ∧ Below w.heap.size w w' := by
 obtain ⟨k0, c0, hu, hk0⟩ := unf_body s
 have HK0 : Hid ((code s = 0 ∧ k0 = 8 + rdv s 4) ∨ (code s ≠ 0 ∧ k0 = 0 ∧ bodyR s = ⟨#[]⟩)) := hk0
 have cU := fun wx => spec_unframe s wx hs
 rw [hu] at cU
 have hbz := bodyR_size s
 have qs : (s.size : Int) ≤ 1048576 := by omega
 have q0 : (k0 : Int) ≤ 3000 := by
  rcases hk0 with ⟨h1, h2⟩ | ⟨_, h2, _⟩
  ·have := ((code_zero s).1 h1).2.2.1; omega
  ·omega
 have E0 : Hid (Owns (w.alloc (.cells #[] 90)) w.heap.size 90 2 (.slice (some ⟨w.heap.size, 0, none⟩) 0 0) (ptR [])) := Owns.empty w _ _ _ (Nat.le_refl _)
 have B0 : Hid (Below w.heap.size w (w.alloc (.cells #[] 90))) := (Below.refl _ _).alloc (Nat.le_refl _) _
 clear hu hk0
 go_enter Tryz.func103, Tryz.ntmps103
 go_wp2_with fail
 generalize w.alloc (.cells #[] 90) = w0 at *
 refine (cU w0).mono ?_
 rintro e w1 ⟨rfl, hb⟩
 have B1 : Hid (Below w.heap.size w w1) := B0.out.trans (hb.mono B0.out.size)
 have E1 : Hid (Owns w1 w.heap.size 90 2 (.slice (some ⟨w.heap.size, 0, none⟩) 0 0) (ptR [])) := E0.out.on hb
 clear hb cU
 have cV := spec_readVar (bodyR s) w1 (by omega)
 go_wp2_with fail
 refine cV.mono ?_
 rintro e w2 ⟨hRV, hb⟩
 obtain ⟨n, k, hRd, rfl⟩ := hRV.rd
 have hle := hRd.le
 have HR : Hid (RdV (bodyR s) n k) := hRd
 have B2 : Hid (Below w.heap.size w w2) := B1.out.trans (hb.mono B1.out.size)
 have E2 : Hid (Owns w2 w.heap.size 90 2 (.slice (some ⟨w.heap.size, 0, none⟩) 0 0) (ptR [])) := E1.out.on hb
 have qk : (k : Int) ≤ 7 := by omega
 have qb : ((bodyR s).size : Int) ≤ 2000 := by omega
 have qkb : (k : Int) ≤ ((bodyR s).size : Int) := by omega
 have hkb : k ≤ (bodyR s).size := hle.1
 have HKG : Hid (∀ m, Good s m → k ≠ 0 ∧ k0 = s.size) := fun m hm => by
  have h1 := (HR.out.one hm.steps.rn).2
  have h2 := vF_pos 6 m.length
  obtain ⟨r1, r2, _⟩ := hm.read
  rcases HK0.out with ⟨_, h3⟩ | ⟨h3, _⟩
  ·exact ⟨by omega, by omega⟩
  ·exact absurd r1 h3
 clear hRd hRV cV hle hb
 by_cases hk1 : k = 0
 ·have HNO : Hid (∀ m, ¬ Good s m) := fun m hm => (HKG.out m hm).1 hk1
  subst hk1
  go_wp2_with fail
  go_ret2
  exact ⟨⟨_, [], false, .inr ⟨rfl, rfl, HNO.out⟩, rfl, E2.out⟩, B2.out⟩
 have d0 : decide (k = 0) = false := decide_eq_false hk1
 have d1 : ((k : Int) == 0) = false := by rw [beq_eq_false_iff_ne]; omega
 by_cases hk2 : k0 ≠ s.size
 ·have HNO : Hid (∀ m, ¬ Good s m) := fun m hm => hk2 (HKG.out m hm).2
  have d2 : ((k0 : Int) == (s.size : Int)) = false := by rw [beq_eq_false_iff_ne]; omega
  have d3 : ¬ k0 = s.size := hk2
  go_wp2_with fail
  go_ret2
  exact ⟨⟨_, [], false, .inr ⟨rfl, rfl, HNO.out⟩, rfl, E2.out⟩, B2.out⟩
 have hk2' : k0 = s.size := Decidable.not_not.1 hk2
 have HK2 : Hid (k0 = s.size) := hk2'
 have d2 : ((k0 : Int) == (s.size : Int)) = true := beq_iff_eq.2 (by omega)
 clear hk2
 have cT := specReadTimesA ((bodyR s).extract k (bodyR s).size) n w2 (by rw [ByteArray.size_extract]; omega)
 subst hk2'
 go_wp2_with fail
 refine cT.mono ?_
 rintro e w3 ⟨⟨t, a, ut, hAT, rfl, hNT⟩, hb⟩
 have HAT : Hid (RdAns showT rowT ((bodyR s).extract k (bodyR s).size) n t a) := hAT
 have hsh := hAT.short rowT_length
 have LT : Hid (t.length ≤ 60) := hsh.1
 have hak : k + a ≤ (bodyR s).size := by have h2 := hsh.2; rw [ByteArray.size_extract] at h2; omega
 have B3 : Hid (Below w.heap.size w w3) := B2.out.trans (hb.mono B2.out.size)
 have E3 : Hid (Owns w3 w.heap.size 90 2 (.slice (some ⟨w.heap.size, 0, none⟩) 0 0) (ptR [])) := E2.out.on hb
 have NT : Hid (Nums w3 w2.heap.size ut t) := hNT
 have qa : (k : Int) + (a : Int) ≤ ((bodyR s).size : Int) := by omega
 have qa1 : (a : Int) ≤ 2000 := by omega
 have ena : ((k : Int) + (a : Int)).toNat = k + a := by omega
 have HAG : Hid (∀ m, Good s m → a ≠ 0) := fun m hm => by
  have hst := hm.steps
  obtain ⟨e1, e2⟩ := HR.out.one hst.rn
  subst e1
  subst e2
  have h1 := (HAT.out.one hst.rt).2
  have h2 := cat_pos (tPiece (ts m)) m.length hm.1 (vF_pos _ _)
  omega
 clear hAT hNT hb cT hsh
 by_cases ha : a = 0
 ·have HNO : Hid (∀ m, ¬ Good s m) := fun m hm => HAG.out m hm ha
  subst ha
  go_wp2_with fail
  go_ret2
  exact ⟨⟨_, [], false, .inr ⟨rfl, rfl, HNO.out⟩, rfl, E3.out⟩, B3.out⟩
 have d4 : decide (a = 0) = false := decide_eq_false ha
 have d5 : ((a : Int) == 0) = false := by rw [beq_eq_false_iff_ne]; omega
 have cW := specReadValuesA ((bodyR s).extract (k + a) (bodyR s).size) n w3 (by rw [ByteArray.size_extract]; omega)
 go_wp2_with fail
 refine cW.mono ?_
 rintro e w4 ⟨⟨v, b, uv, hAV, rfl, hNV⟩, hb⟩
 have HST : Hid (Steps s n k t a v b) := ⟨HR.out, HAT.out, hAV⟩
 have hsv := hAV.short rowV_length
 have LV : Hid (v.length ≤ 60) := hsv.1
 have hbk : k + a + b ≤ (bodyR s).size := by have h2 := hsv.2; rw [ByteArray.size_extract] at h2; omega
 have B4 : Hid (Below w.heap.size w w4) := B3.out.trans (hb.mono B3.out.size)
 have E4 : Hid (Owns w4 w.heap.size 90 2 (.slice (some ⟨w.heap.size, 0, none⟩) 0 0) (ptR [])) := E3.out.on hb
 have NT4 : Hid (Nums w4 w2.heap.size ut t) := NT.out.on hb
 have NV4 : Hid (Nums w4 w3.heap.size uv v) := hNV
 have qb1 : (b : Int) ≤ 2000 := by omega
 have qab : (k : Int) + (a : Int) + (b : Int) ≤ ((bodyR s).size : Int) := by omega
 clear hAV hNV hb cW NT hsv
 by_cases hb0 : b = 0
 ·have HNO : Hid (∀ m, ¬ Good s m) := fun m hm => by have := (HST.out.good hm).2.2.2.2.2.2.1; omega
  subst hb0
  go_wp2_with fail
  go_ret2
  exact ⟨⟨_, [], false, .inr ⟨rfl, rfl, HNO.out⟩, rfl, E4.out⟩, B4.out⟩
 have d6 : decide (b = 0) = false := decide_eq_false hb0
 have d7 : ((b : Int) == 0) = false := by rw [beq_eq_false_iff_ne]; omega
 by_cases hlen : k + a + b ≠ (bodyR s).size
 ·have HNO : Hid (∀ m, ¬ Good s m) := fun m hm => hlen (HST.out.good hm).2.2.2.2.2.2.2
  have d8 : ((k : Int) + (a : Int) + (b : Int) == ((bodyR s).size : Int)) = false := by rw [beq_eq_false_iff_ne]; omega
  have d9 : ¬ (k : Int) + (a : Int) + (b : Int) = ((bodyR s).size : Int) := by omega
  go_wp2_with fail
  go_ret2
  exact ⟨⟨_, [], false, .inr ⟨rfl, rfl, HNO.out⟩, rfl, E4.out⟩, B4.out⟩
 have hlen' : k + a + b = (bodyR s).size := Decidable.not_not.1 hlen
 have d8 : ((k : Int) + (a : Int) + (b : Int) == ((bodyR s).size : Int)) = true := beq_iff_eq.2 (by omega)
 have d10 : ((k : Int) + (a : Int) + (b : Int) != ((bodyR s).size : Int)) = false := by rw [bne, d8]; rfl
 have hc : code s = 0 := by
  rcases HK0.out with ⟨h1, _⟩ | ⟨_, _, h3⟩
  ·exact h1
  ·rw [h3] at hkb
   have : (ByteArray.mk #[]).size = 0 := rfl
   omega
 have h8 : 8 + rdv s 4 = s.size := by
  rcases HK0.out with ⟨_, h1⟩ | ⟨h1, _⟩
  ·omega
  ·exact absurd hc h1
 obtain ⟨hg, htv, hn⟩ := HST.out.back hc h8 hk1 ha hb0 hlen'
 have HG : Hid (Good s (zipP t v)) := hg
 have HZL : Hid ((zipP t v).length = t.length) := by unfold Hid; rw [zipP_length]; omega
 have HZG : Hid (∀ k, k < t.length → k < v.length → (zipP t v).take (k + 1) = (zipP t v).take k ++ [⟨t.getD k 0, v.getD k 0⟩]) := zipP_get t v
 subst hn
 obtain ⟨At, ct, rfl, _, _, h1⟩ := NT4.out.lies
 obtain ⟨Av, cv, rfl, _, _, h2⟩ := NV4.out.lies
 have HT : Hid (∀ j, j < t.length → ∃ g off, At = some ⟨g, off, none⟩ ∧ g < w4.heap.size ∧ w4.cell? ⟨g, off + j, none⟩ = some (.int .i64 (t.getD j 0))) := h1
 have HV : Hid (∀ j, j < v.length → ∃ g off, Av = some ⟨g, off, none⟩ ∧ g < w4.heap.size ∧ w4.cell? ⟨g, off + j, none⟩ = some (.int .i64 (v.getD j 0))) := h2
 have q9 : (t.length : Int) ≤ 60 := by have := LT.out; omega
 clear h1 h2 hlen hg HAG HKG HK0 HK2 hbk
 generalize hm : v.length = m at *
 generalize hn : t.length = N at *
 subst htv
 clear hm hn
 go_wp2_with fail
 go_loopw [14, 15] (fun v14 v15 wr => ∃ k : Nat, k ≤ N ∧ v15 = .int .i64 (k : Int) ∧ Owns wr w4.heap.size 90 2 v14 (ptR ((zipP t v).take k)) ∧ Below w4.heap.size w4 wr) (fun _ i _ => N - (intOf i).toNat)
 case atStart => exact ⟨0, by omega, rfl, by rw [List.take_zero]; exact Owns.empty w4 _ _ _ (Nat.le_refl _), (Below.refl _ _).alloc (Nat.le_refl _) _⟩
 case round =>
  clear hlen' d8 ena hc h8 hak hkb d0 d1 d2 d4 d5 d6 d7 hk1 ha hb0 qab qa qkb
  obtain ⟨k, hk, rfl, hO, hb⟩ := hrel
  have HO : Hid (Owns wr w4.heap.size 90 2 u14 (ptR ((zipP t v).take k))) := hO
  have HB1 : Hid (Below w4.heap.size w4 wr) := hb
  clear hO hb
  by_cases hlt : k < N
  ·have q3 : (k : Int) < (N : Int) := by omega
   obtain ⟨gt, ot, rfl, hgt, hc1⟩ := HT.out k hlt
   obtain ⟨gv, ov, rfl, hgv, hc2⟩ := HV.out k hlt
   have HZ : Hid ((zipP t v).take (k + 1) = (zipP t v).take k ++ [⟨t.getD k 0, v.getD k 0⟩]) := HZG.out k hlt hlt
   rw [← HB1.out.cell (p := ⟨_, _, none⟩) hgt] at hc1
   rw [← HB1.out.cell (p := ⟨_, _, none⟩) hgv] at hc2
   generalize t.getD k 0 = x at *
   generalize v.getD k 0 = y at *
   have hz : w4.heap.size ≤ wr.drew.heap.size := HB1.out.size
   obtain ⟨nA, nm, nc, w5, r5, hO5, hb5, hk5, _⟩ := run_append_row (P := Tryz.prog) wr.drew 48 48 90 (.agg #[.int .i64 0, .int .i64 0]) 2 16 Tryz.underlying48 Tryz.infoPt rfl (by omega) w4.heap.size u14 (ptR ((zipP t v).take k)) (HO.out.kept fun _ _ _ => rfl) [.int .i64 x, .int .i64 y] rfl (pt_cells x y) (by rw [ptR_length, List.length_take]; omega) (by omega) hz
   have B5 : Hid (Below w4.heap.size w4 w5) := (HB1.out.drew).trans hb5
   have O5 : Hid (Owns w5 w4.heap.size 90 2 (.slice nA nm nc) (ptR ((zipP t v).take (k + 1)))) := by unfold Hid; rw [HZ.out, ptR_snoc']; exact hO5
   have S0 : Hid (wr.drew.cell? ⟨gt, ot + k, none⟩ = some (.int .i64 x) ∧ wr.drew.cell? ⟨gv, ov + k, none⟩ = some (.int .i64 y)) := ⟨hc1, hc2⟩
   clear hc1 hc2 hO5 hb5 hk5
   clear hgt hgv
   go_wp2_with fail
   refine wp_region_until (fun w' => w'.cell? ⟨gt, ot + k, none⟩ = some (.int .i64 x) ∧ w'.cell? ⟨gv, ov + k, none⟩ = some (.int .i64 y)) (fun i => i == 11 || i == 12) 13 (by rfl) (by kernel_rfl) ?_
   refine tKe 0 (v := ?_) S0.out ?_ ?_; rotate_left; focus (intro w hSw; (try dsimp only at hSw); go_simp; try with_reducible rfl)
   try simp only [Act.put, zQ1, zQ2, zQ3]
   refine tKe 1 (v := ?_) S0.out ?_ ?_; rotate_left; focus (intro w hSw; (try dsimp only at hSw); go_simp; try with_reducible rfl)
   try simp only [Act.put, zQ1, zQ2, zQ3]
   refine tKe 2 (v := ?_) S0.out ?_ ?_; rotate_left; focus (intro w hSw; (try dsimp only at hSw); go_simp; try with_reducible rfl)
   try simp only [Act.put, zQ1, zQ2, zQ3]
   refine tKe 3 (v := ?_) S0.out ?_ ?_; rotate_left; focus (intro w hSw; (try dsimp only at hSw); go_simp; try with_reducible rfl)
   try simp only [Act.put, zQ1, zQ2, zQ3]
   refine tKe 4 (v := ?_) S0.out ?_ ?_; rotate_left; focus (intro w hSw; (try dsimp only at hSw); go_simp; try with_reducible rfl)
   try simp only [Act.put, zQ1, zQ2, zQ3]
   refine tKe 5 (v := ?_) S0.out ?_ ?_; rotate_left; focus (intro w hSw; (try dsimp only at hSw); go_simp; try with_reducible rfl)
   try simp only [Act.put, zQ1, zQ2, zQ3]
   refine tKe 6 (v := ?_) S0.out ?_ ?_; rotate_left; focus (intro w hSw; (try dsimp only at hSw); go_simp; try with_reducible rfl)
   try simp only [Act.put, zQ1, zQ2, zQ3]
   refine tKe 7 (v := ?_) S0.out ?_ ?_; rotate_left; focus (intro w hSw; (try dsimp only at hSw); go_simp; try with_reducible rfl)
   try simp only [Act.put, zQ1, zQ2, zQ3]
   refine tKe 8 (v := ?_) S0.out ?_ ?_; rotate_left; focus (intro w hSw; (try dsimp only at hSw); go_simp; try with_reducible rfl)
   try simp only [Act.put, zQ1, zQ2, zQ3]
   refine tKe 9 (v := ?_) S0.out ?_ ?_; rotate_left; focus (intro w hSw; (try dsimp only at hSw); go_simp; try with_reducible rfl)
   try simp only [Act.put, zQ1, zQ2, zQ3]
   refine uNe 10 (fun K hK => ?_)
   go_simp
   refine hK.out _ _ (fun _ h => ⟨cell_alloc_keep h.1 _, cell_alloc_keep h.2 _⟩) ?_
   clear hK K
   try simp only [Act.put, zQ1, zQ2, zQ3]
   refine uNe 11 (fun K hK => ?_)
   refine step_append_run (by rfl) (.tmp 77) (.tmp 87) 48 (by rfl) _ _ _ _ (by rfl) (by rfl) r5 ?_
   refine hK.out _ _ (fun h => by cases h) ?_
   clear hK K
   try simp only [Act.put, zQ1, zQ2, zQ3]
   refine uNe 12 (fun K hK => ?_)
   go_simp
   refine hK.out _ _ (fun h => by cases h) ?_
   clear hK K
   try simp only [Act.put, zQ1, zQ2, zQ3]
   refine until_done (by kernel_rfl) ?_ _
   go_wp2_with fail
   go_roundw
   case rel => exact ⟨k + 1, by omega, by go_num, O5.out, B5.out⟩
   case measure => simp [intOf]; omega
  ·obtain rfl : k = N := by omega
   have hF := HO.out
   rw [List.take_of_length_le (by rw [HZL.out]; exact Nat.le_refl _)] at hF
   have HF : Hid (Owns wr w.heap.size 90 2 u14 (ptR (zipP t v))) := hF.mono B4.out.size
   have BF : Hid (Below w.heap.size w wr) := B4.out.trans (HB1.out.mono B4.out.size)
   clear hF HO
   go_wp2_with fail
   go_ret2
   exact ⟨⟨_, zipP t v, true, .inl ⟨rfl, HG.out⟩, rfl, HF.out⟩, BF.out⟩
end Go.Proofs.YtikknmoeefipmaaGreatDoor
