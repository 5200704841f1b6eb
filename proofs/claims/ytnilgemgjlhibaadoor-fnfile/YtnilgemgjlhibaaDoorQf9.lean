/- FlText FlReadI CurAid Cursor CurNew CurOnce -/
import Derived.Test.YtnilgemgjlhibaaDoorQf8
import Derived.Test.YtnilgemgjlhibaaDoorQf0
import Derived.WalkKit
import Derived.ProofKit
import Derived.OpenShut
import Derived.Below
import Derived.WalkSmall
import Derived.BigQuiet
import Derived.Deep.QuietTactic
import Derived.Deep.RegionWith
import Derived.Handy
import Derived.Test.YtnilgemgjlhibaaDoorQf7
import Derived.Test.YtnilgemgjlhibaaDoorQf6
import Derived.OneCell
import Derived.Test.YtnilgemgjlhibaaDoorRows
import Derived.WalkLawsBesides
import Derived.Outline
open List (setIfInBounds_toArray set_cons_zero set_cons_succ)
namespace Go.Proofs.YtnilgemgjlhibaaDoor
open Go.ChangeShapes Go.WideShapes Go.ChangeAt Go.RowKit Go.PlainAid
set_option linter.unusedVariables false
def upB (l : List Ser) (k : Nat) : List UInt8 := magic ++ blks l k
def upI (l : List Ser) (k : Nat) : List UInt8 := magic ++ (blks l l.length ++ idxB l k)
theorem upB_zero (l : List Ser) : (⟨#[]⟩ : ByteArray) ++ ⟨#[116, 115, 98, 49]⟩ = txt (upB l 0) := by
 show txt [] ++ txt magic = _
 rw [txt_cat, upB, blks, cat_zero, List.append_nil, List.nil_append]
theorem upB_succ (l : List Ser) (k : Nat) : txt (upB l k) ++ showB (sAt l k).pts = txt (upB l (k + 1)) := by
 conv => lhs; arg 2; rw [← txt_bl (showB (sAt l k).pts)]
 rw [txt_cat]
 unfold upB blks
 rw [cat_succ, List.append_assoc]
 rfl
theorem upB_size (l : List Ser) (k : Nat) : (txt (upB l k)).size = atB l k := by rw [txt_size, upB, List.length_append]; rfl
theorem upI_zero (l : List Ser) : upB l l.length = upI l 0 := by unfold upB upI idxB; rw [cat_zero, List.append_nil]
theorem upI_succ (l : List Ser) (k : Nat) : txt (upI l k) ++ txt (spB l k) = txt (upI l (k + 1)) := by
 rw [txt_cat]
 unfold upI idxB
 rw [cat_succ]
 simp only [List.append_assoc]
theorem upI_size {l : List Ser} (h : SOk l) (k : Nat) (hk : k ≤ l.length) : (txt (upI l k)).size ≤ 5000 := by
 have h1 := blks_length l l.length
 have h2 := idxB_length h k hk
 have := h.1
 rw [txt_size, upI, List.length_append, List.length_append]
 have : magic.length = 4 := rfl
 omega
theorem body_four {l : List Ser} (h : SOk l) : txt (upI l l.length) ++ fixed (atB l l.length) 4 = txt (bodyF l) := by
 have := atB_le h l.length (Nat.le_refl _)
 rw [fixed_four _ (by omega), four, txt_cat]
 unfold upI bodyF
 simp only [List.append_assoc]
theorem file_four (l : List Ser) : txt (bodyF l) ++ fixed (crc (txt (bodyF l))) 4 = txt (fileB l) := by
 rw [fixed_four _ (crc_lt _), four, txt_cat]
 rfl
theorem spot_is {l : List Ser} (h : SOk l) (k : Nat) (hk : k < l.length) : (⟨(sAt l k).key, (txt (upB l k)).size, (showB (sAt l k).pts).size, (tAt (sAt l k).pts 0).toNat, (tAt (sAt l k).pts ((sAt l k).pts.length - 1)).toNat⟩ : Spot) = spotOf l k := by
 unfold spotOf
 rw [upB_size, ← bl_length]
 rfl
theorem spotOf_fits {l : List Ser} (h : SOk l) (k : Nat) (hk : k < l.length) : SpFits (spotOf l k) := by
 obtain ⟨h1, h2, h3, h4, h5⟩ := nums_le h k hk
 have := h.key k hk
 exact ⟨show (sAt l k).key.size ≤ 1048576 by omega, h2, h3, h4, h5⟩
theorem spots_snoc (l : List Ser) (k : Nat) : (List.range (k + 1)).map (spotOf l) = (List.range k).map (spotOf l) ++ [spotOf l k] := by rw [List.range_succ, List.map_append]; rfl
theorem range_get (l : List Ser) (n k : Nat) (hk : k < n) : ((List.range n).map (spotOf l)).getD k default = spotOf l k := by
 rw [← getD_at _ k (by simpa using hk), List.getElem_map, List.getElem_range]
theorem fileT_no {l : List Ser} (h : ¬ (1 ≤ l.length ∧ SOk l)) : fileT l = ⟨#[]⟩ := by unfold fileT; rw [if_neg h]; rfl
theorem fileT_yes {l : List Ser} (h : 1 ≤ l.length ∧ SOk l) : fileT l = txt (fileB l) := by unfold fileT; rw [if_pos h]
theorem bodyF_size {l : List Ser} (h : SOk l) : (txt (bodyF l)).size ≤ 5000 := by rw [txt_size]; exact (bodyF_length h).2
theorem four_small (n : Nat) : (fixed n 4).size ≤ 4 := by
 unfold fixed
 split <;> rw [txt_size]
 ·rw [low_length]; omega
 ·simp
set_option maxHeartbeats 4000000 in
theorem implFileText (l : List Ser) (v : Value) (w : World) (B : Nat) (hv : SerV w B v l) (hn : SShort l) (hf : ∀ x ∈ l, x.key.size ≤ maxLen) (hB : B ≤ w.heap.size) (hst : SumTab w) : Calls Tryd.prog 6 #[v] w fun e w' => e = .returned (.string (fileT l)) ∧ Below w.heap.size w w' := by
 have c1 := implSeriesOk l v w B hv hn hf hB
 have ST : Hid (SumTab w) := hst
 clear hst
 obtain ⟨A, cap, rfl, hl⟩ := hv.look
 have HV0 : Hid (SerV w B (.slice A l.length cap) l) := hv
 have HL : Hid (∀ j, j < l.length → ∃ g off u, A = some ⟨g, off, none⟩ ∧ g < B ∧ w.cell? ⟨g, off + j * 2, none⟩ = some (.string (sAt l j).key) ∧ w.cell? ⟨g, off + j * 2 + 1, none⟩ = some u ∧ Lies w B 2 u (ptR (sAt l j).pts)) := hl
 have HB : Hid (B ≤ w.heap.size) := hB
 have q0 : (l.length : Int) ≤ 1048576 := by have := hn.1; omega
 clear hl hn hv hB hf
 by_cases h0 : l.length = 0
 ·have HE : Hid (fileT l = ⟨#[]⟩) := fileT_no (fun hh => by omega)
  rw [h0]
  clear c1 h0 q0 HV0
  go_enter Tryd.func6, Tryd.ntmps6
  go_wp2_with fail
  go_ret
  exact ⟨by rw [HE.out]; rfl, Below.refl _ _⟩
 have d0 : ((l.length : Int) == 0) = false := by rw [beq_eq_false_iff_ne]; omega
 have d1 : decide ((l.length : Int) = 0) = false := decide_eq_false (by omega)
 by_cases hok : ¬ SOk l
 ·have HE : Hid (fileT l = ⟨#[]⟩) := fileT_no (fun hh => hok hh.2)
  rw [decide_eq_false hok] at c1
  clear hok
  go_enter Tryd.func6, Tryd.ntmps6
  go_wp2_with fail
  refine c1.mono ?_
  rintro e w1 ⟨rfl, hb1⟩
  go_wp2_with fail
  go_ret
  exact ⟨by rw [HE.out]; rfl, hb1⟩
 have HK : Hid (SOk l) := (Decidable.not_not (p := SOk l)).1 hok
 rw [decide_eq_true HK.out] at c1
 have HE : Hid (fileT l = txt (fileB l)) := fileT_yes ⟨by omega, HK.out⟩
 have H1 : Hid (1 ≤ l.length) := by unfold Hid; omega
 have q1 : (l.length : Int) ≤ 5 := by have := HK.out.1; omega
 clear hok h0
 generalize hN : l.length = n at *
 have HN : Hid (l.length = n) := hN
 clear hN
 go_enter Tryd.func6, Tryd.ntmps6
 go_wp2_with fail
 refine c1.mono ?_
 rintro e w1 ⟨rfl, hb1⟩
 have B1 : Hid (Below w.heap.size w w1) := hb1
 have C1 : Hid (CurB (w1.alloc (.cells #[.string ⟨#[]⟩, .int .i64 0] 48)) w1.heap.size ⟨#[]⟩ 0 48) := Blk.new w1 _ _
 have HG : Hid (w.heap.size ≤ w1.heap.size) := hb1.size
 have B1a : Hid (Below w.heap.size w (w1.alloc (.cells #[.string ⟨#[]⟩, .int .i64 0] 48))) := hb1.alloc hb1.size _
 clear hb1 c1
 generalize hg : w1.heap.size = g at *
 go_wp2_with fail
 refine (writeV ⟨#[]⟩ ⟨#[116, 115, 98, 49]⟩ _ g 0 C1.out (by simp [ByteArray.size])).mono ?_
 rintro e X0 ⟨⟨uu, rfl⟩, hC, hk⟩
 rw [upB_zero l, upB_size] at hC
 have B0 : Hid (Below w.heap.size w X0) := B1a.out.trans (hk.1.mono HG.out)
 have C0 : Hid (CurB X0 g (txt (upB l 0)) (atB l 0) 48) := hC
 clear hk hC hg
 go_wp2_with fail
 go_loopw [4, 21] (fun v4 v21 wr => ∃ k : Nat, k ≤ n ∧ v21 = .int .i64 (k : Int) ∧ Owns wr w.heap.size 52 5 v4 (spR ((List.range k).map (spotOf l))) ∧ CurB wr g (txt (upB l k)) (atB l k) 48 ∧ Below w.heap.size w wr) (fun _ i _ => n - (intOf i).toNat)
 case atStart => exact ⟨0, by omega, rfl, Owns.nil _ _ _ _, C0.out, B0.out⟩
 case round =>
  obtain ⟨k, hk, rfl, hO, hC, hb⟩ := hrel
  have HO : Hid (Owns wr w.heap.size 52 5 u4 (spR ((List.range k).map (spotOf l)))) := hO
  have HC : Hid (CurB wr g (txt (upB l k)) (atB l k) 48) := hC
  have HB1 : Hid (Below w.heap.size w wr) := hb
  clear hO hC hb
  by_cases hlt : k < n
  ·have q4 : (k : Int) < (n : Int) := by omega
   obtain ⟨gs, off, us, rfl, hg, e1, e2, hu⟩ := HL.out k hlt
   have hgw : gs < w.heap.size := Nat.lt_of_lt_of_le hg HB.out
   rw [← HB1.out.cell (p := ⟨_, _, none⟩) hgw] at e1
   rw [← HB1.out.cell (p := ⟨_, _, none⟩) hgw] at e2
   have HU : Hid (Lies wr B 2 us (ptR (sAt l k).pts)) := hu.on (HB1.out.mono HB.out)
   obtain ⟨A', cap', rfl, _⟩ := pt_look hu
   have hsk := HK.out.2 k (by have := HN.out; omega)
   have HP1 : Hid (1 ≤ (sAt l k).pts.length ∧ POk (sAt l k).pts) := hsk.2
   have HSp : Hid ((⟨(sAt l k).key, (txt (upB l k)).size, (showB (sAt l k).pts).size, (tAt (sAt l k).pts 0).toNat, (tAt (sAt l k).pts ((sAt l k).pts.length - 1)).toNat⟩ : Spot) = spotOf l k) := spot_is HK.out k (by have := HN.out; omega)
   have HSu : Hid (txt (upB l k) ++ showB (sAt l k).pts = txt (upB l (k + 1))) := upB_succ l k
   have HSz : Hid ((txt (upB l k)).size = atB l k ∧ (txt (upB l (k + 1))).size = atB l (k + 1) ∧ atB l k ≤ 4504) := ⟨upB_size l k, upB_size l (k + 1), atB_le HK.out k (by have := HN.out; omega)⟩
   clear hu hsk
   have HWa : Hid (∀ cs, Below w.heap.size w (wr.alloc (.cells cs 36))) := fun cs => HB1.out.alloc HB1.out.size _
   have HWu : Hid (∀ cs, Below wr.heap.size wr (wr.alloc (.cells cs 36))) := fun cs => (Below.refl _ wr).alloc (Nat.le_refl _) _
   generalize hx : sAt l k = x at *
   clear hx hgw hg
   obtain ⟨xk, xp⟩ := x
   simp only at e1 e2 HU HP1 HSp HSu
   have cw := fun (cs : Array Value) => writeBlockV (txt (upB l k)) ⟨xk, xp⟩ (.slice A' xp.length cap') (wr.alloc (.cells cs 36)) g B (by rw [HSz.out.1]; exact Blk.alloc HC.out _) (HU.out.on ((HWu.out cs).mono (Nat.le_trans HB.out HB1.out.size))) HP1.out.1 HP1.out.2 (Nat.le_trans HB.out HG.out) (by rw [HSz.out.1]; have := HSz.out; omega) (ST.out.on (HWa.out cs))
   simp only [HSp.out, HSu.out, HSz.out.2.1] at cw
   unfold vSr vSp at cw
   generalize hpn : xp.length = pn at *
   go_wp2_with fail
   refine (cw _).mono ?_
   rintro e X1 ⟨rfl, hC1, hk1⟩
   have C1 : Hid (CurB X1 g (txt (upB l (k + 1))) (atB l (k + 1)) 48) := hC1
   have B1 : Hid (Below w.heap.size w X1) := (HWa.out _).trans (hk1.1.mono HG.out)
   have O1 : Hid (Owns X1 w.heap.size 52 5 u4 (spR ((List.range k).map (spotOf l)))) := hk1.owns (HO.out.alloc _) ((HO.out.alloc (.cells #[.string xk, .slice A' pn cap'] 36)).notBlk (Blk.alloc HC.out (.cells #[.string xk, .slice A' pn cap'] 36)) (by decide))
   have NB : Hid (u4.ownBlock ≠ some g) := O1.out.notBlk C1.out (by decide)
   have Z1 : w.heap.size ≤ X1.heap.size := B1.out.size
   have L2 : Hid ((spR ((List.range k).map (spotOf l))).length ≤ 2097152) := by unfold Hid; rw [spR_length, List.length_map, List.length_range]; omega
   clear hC1 hk1 cw
   go_wp2_with (at_builtin; refine wpList_append_row (w := X1) rfl (.tmp 25) (.tmp 28) 50 52 (.agg #[.string ⟨#[]⟩, .int .i64 0, .int .i64 0, .int .i64 0, .int .i64 0]) 5 48 rfl Tryd.underlying50 Tryd.infoSp rfl (by omega) w.heap.size u4 (spR ((List.range k).map (spotOf l))) rfl O1.out (spC (spotOf l k)) rfl (sp_one _) rfl L2.out (by omega) Z1 ?_; intro v2 w4 hO4 hb4 hk4 hw4; refine Shut.out ?_)
   unfold Shut
   have P2 : Hid (Owns w4 w.heap.size 52 5 v2 (spR ((List.range (k + 1)).map (spotOf l)))) := by unfold Hid; rw [spots_snoc, spR_append]; exact hO4
   have C4 : Hid (CurB w4 g (txt (upB l (k + 1))) (atB l (k + 1)) 48) := (hk4 g (Blk.lt C1.out) NB.out).trans C1.out
   have B4 : Hid (Below w.heap.size w w4) := B1.out.trans hb4
   clear hO4 hb4 hk4 hw4
   go_wp2_with fail
   go_roundw
   case rel => exact ⟨k + 1, by omega, by go_num, P2.out, C4.out, B4.out⟩
   case measure => simp [intOf]; omega
  ·obtain rfl : k = n := by omega
   have mm : wr.cell? ⟨g, 1, none⟩ = some (.int .i64 (atB l k : Int)) := Blk.cell HC.out 1 _ rfl
   have HSz : Hid (atB l k ≤ 4504) := atB_le HK.out k (by have := HN.out; omega)
   obtain ⟨A4, c4, e4, hl4⟩ := sp_look HO.out.lies
   rw [List.length_map, List.length_range] at e4
   subst e4
   obtain ⟨g4, o4, rfl, _⟩ := hl4 0 (by rw [List.length_map, List.length_range]; have := H1.out; omega)
   clear hl4
   have NB : Hid (g4 ≠ g) := fun e => HO.out.notBlk HC.out (by decide) (by rw [e]; rfl)
   have HC2 : Hid (CurB wr g (txt (upI l 0)) (atB l k) 48) := by
    unfold Hid
    rw [← upI_zero, HN.out]
    exact HC.out
   go_wp2_with fail
   refine (placeV wr g (atB l k) mm).mono ?_
   rintro e w' ⟨rfl, rfl⟩
   clear mm
   go_wp2_with fail
   go_loopw [35] (fun v35 ws => ∃ (j p : Nat), j ≤ k ∧ v35 = .int .i64 (j : Int) ∧ Owns ws w.heap.size 52 5 (.slice (some ⟨g4, o4, none⟩) k c4) (spR ((List.range k).map (spotOf l))) ∧ CurB ws g (txt (upI l j)) p 48 ∧ Below w.heap.size w ws) (fun i _ => k - (intOf i).toNat)
   case atStart => exact ⟨0, _, by omega, rfl, HO.out, HC2.out, HB1.out⟩
   case round =>
    obtain ⟨j, p, hj, rfl, hO, hC, hb⟩ := hrel
    have JO : Hid (Owns wr w.heap.size 52 5 (.slice (some ⟨g4, o4, none⟩) k c4) (spR ((List.range k).map (spotOf l)))) := hO
    have JC : Hid (CurB wr g (txt (upI l j)) p 48) := hC
    have JB : Hid (Below w.heap.size w wr) := hb
    clear hO hC hb
    by_cases hjt : j < k
    ·have q5 : (j : Int) < (k : Int) := by omega
     obtain ⟨A5, c5, e5, hl5⟩ := sp_look JO.out.lies
     rw [List.length_map, List.length_range] at e5
     cases e5
     obtain ⟨g5, o5, e5, _, e0, e1, e2, e3, e4⟩ := hl5 j (by rw [List.length_map, List.length_range]; exact hjt)
     cases e5
     clear hl5
     rw [range_get l k j hjt] at e0 e1 e2 e3 e4
     have HSF : Hid (SpFits (spotOf l j)) := spotOf_fits HK.out j (by have := HN.out; omega)
     have HKS : Hid ((sAt l j).key.size ≤ 8 ∧ (txt (upI l j)).size ≤ 5000 ∧ (txt (upI l (j + 1))).size ≤ 5000) := ⟨(HK.out.key j (by have := HN.out; omega)).2, upI_size HK.out j (by have := HN.out; omega), upI_size HK.out (j + 1) (by have := HN.out; omega)⟩
     have HSu : Hid (txt (upI l j) ++ txt (spT (spotOf l j)) = txt (upI l (j + 1))) := upI_succ l j
     have cw := fun (cs : Array Value) => writeSpotV (txt (upI l j)) (spotOf l j) (wr.alloc (.cells cs 52)) g p (Blk.alloc JC.out _) HSF.out (by have := HKS.out; show (txt (upI l j)).size + (sAt l j).key.size ≤ 900000; omega)
     have HWa : Hid (∀ cs, Below w.heap.size w (wr.alloc (.cells cs 52))) := fun cs => JB.out.alloc JB.out.size _
     have JOa : Hid (∀ cs, Owns (wr.alloc (.cells cs 52)) w.heap.size 52 5 (.slice (some ⟨g4, o4, none⟩) k c4) (spR ((List.range k).map (spotOf l)))) := fun cs => JO.out.alloc _
     simp only [HSu.out] at cw
     unfold vSp at cw
     generalize spotOf l j = x at *
     go_wp2_with fail
     refine (cw _).mono ?_
     rintro e X1 ⟨⟨uu', rfl⟩, hC1, hk1⟩
     have C1 : Hid (CurB X1 g (txt (upI l (j + 1))) (txt (upI l (j + 1))).size 48) := hC1
     have B1 : Hid (Below w.heap.size w X1) := (HWa.out _).trans (hk1.1.mono HG.out)
     have O1 : Hid (Owns X1 w.heap.size 52 5 (.slice (some ⟨g4, o4, none⟩) k c4) (spR ((List.range k).map (spotOf l)))) := hk1.owns (JOa.out _) (fun e => NB.out (Option.some.inj e))
     clear hC1 hk1 cw
     go_wp2_with fail
     go_roundw
     case rel => exact ⟨j + 1, _, by omega, by go_num, O1.out, C1.out, B1.out⟩
     case measure => simp [intOf]; omega
    ·obtain rfl : j = k := by omega
     clear JO
     have HF4 : Hid (txt (upI l j) ++ fixed (atB l j) 4 = txt (bodyF l)) := by have := body_four HK.out; rw [HN.out] at this; exact this
     have HF8 : Hid (txt (bodyF l) ++ fixed (crc (txt (bodyF l))) 4 = txt (fileB l)) := file_four l
     have HS5 : Hid ((txt (upI l j)).size ≤ 5000 ∧ (txt (bodyF l)).size ≤ 5000) := ⟨upI_size HK.out j (by have := HN.out; omega), bodyF_size HK.out⟩
     have HC32 := crc_lt (txt (bodyF l))
     have z4 := four_small (atB l j)
     have z8 := four_small (crc (txt (bodyF l)))
     have f4 := fun wx => impl_fixed (atB l j) 4 wx (by have := HSz.out; omega) (by omega) (by omega)
     have f8 := fun wx => impl_fixed (crc (txt (bodyF l))) 4 wx (by omega) (by omega) (by omega)
     go_wp2_with fail
     refine (f4 _).mono ?_
     rintro e Y1 ⟨rfl, hb1⟩
     have CY1 : Hid (CurB Y1 g (txt (upI l j)) p 48) := Blk.on JC.out hb1 (Blk.lt JC.out)
     have BY1 : Hid (Below w.heap.size w Y1) := JB.out.trans (hb1.mono JB.out.size)
     clear hb1
     go_wp2_with fail
     refine (writeV (txt (upI l j)) (fixed (atB l j) 4) Y1 g p CY1.out (by have := HS5.out; omega)).mono ?_
     rintro e Y2 ⟨⟨u1, rfl⟩, hC2, hk2⟩
     rw [HF4.out] at hC2
     have CY2 : Hid (CurB Y2 g (txt (bodyF l)) (txt (bodyF l)).size 48) := hC2
     have BY2 : Hid (Below w.heap.size w Y2) := BY1.out.trans (hk2.1.mono HG.out)
     clear hC2 hk2
     have m0 : Y2.cell? ⟨g, 0, none⟩ = some (.string (txt (bodyF l))) := Blk.cell CY2.out 0 _ rfl
     go_wp2_with fail
     refine (impl_crc (txt (bodyF l)) Y2 (by have := HS5.out; omega) (ST.out.on BY2.out)).mono ?_
     rintro e w' ⟨rfl, rfl⟩
     clear m0
     go_wp2_with fail
     refine (f8 _).mono ?_
     rintro e Y3 ⟨rfl, hb3⟩
     have CY3 : Hid (CurB Y3 g (txt (bodyF l)) (txt (bodyF l)).size 48) := Blk.on CY2.out hb3 (Blk.lt CY2.out)
     have BY3 : Hid (Below w.heap.size w Y3) := BY2.out.trans (hb3.mono BY2.out.size)
     clear hb3
     go_wp2_with fail
     refine (writeV (txt (bodyF l)) (fixed (crc (txt (bodyF l))) 4) Y3 g _ CY3.out (by have := HS5.out; omega)).mono ?_
     rintro e Y4 ⟨⟨u2, rfl⟩, hC4, hk4⟩
     rw [HF8.out] at hC4
     have BY4 : Hid (Below w.heap.size w Y4) := BY3.out.trans (hk4.1.mono HG.out)
     have m4 : Y4.cell? ⟨g, 0, none⟩ = some (.string (txt (fileB l))) := Blk.cell hC4 0 _ rfl
     clear hk4 hC4
     go_wp2_with fail
     go_ret
     exact ⟨by rw [HE.out]; rfl, BY4.out⟩
end Go.Proofs.YtnilgemgjlhibaaDoor
namespace Go.Proofs.YtnilgemgjlhibaaDoor
open Go.ChangeShapes Go.WideShapes Go.ChangeAt Go.RowKit Go.PlainAid
set_option linter.unusedVariables false
theorem spot_fits_at (s : ByteArray) (e : Nat) : ∀ f p, ∀ x ∈ idxA s e f p, x.at' ≤ 562949953421311 ∧ x.size ≤ 562949953421311 ∧ x.key.size ≤ s.size
 | 0, _, x, hx => by cases hx
 | f + 1, p, x, hx => by
  rw [idxA] at hx
  split at hx
  ·rcases List.mem_cons.1 hx with rfl | hx
   ·refine ⟨rvN_le _, rvN_le _, ?_⟩
    show (s.extract (tkP s p) (spK s p)).size ≤ s.size
    rw [ByteArray.size_extract]
    omega
   ·exact spot_fits_at s e f _ x hx
  ·cases hx
theorem spots_fit (s : ByteArray) : ∀ x ∈ spots s, x.at' ≤ 562949953421311 ∧ x.size ≤ 562949953421311 ∧ x.key.size ≤ s.size := by
 unfold spots
 split
 ·intro x hx; cases hx
 ·exact spot_fits_at s _ _ _
theorem serAll_take (s : ByteArray) (k : Nat) (h : k < (spots s).length) : ((spots s).take (k + 1)).map (serA s) = ((spots s).take k).map (serA s) ++ [serA s ((spots s).getD k default)] := by
 rw [take_getD _ k h, List.map_append]
 rfl
theorem serAll_short (s : ByteArray) : SShort (serAll s) := by
 refine ⟨by unfold serAll; rw [List.length_map]; have := spots_length s; omega, fun x hx => ?_⟩
 obtain ⟨y, _, rfl⟩ := List.mem_map.1 hx
 have := rbP_length (blkA s y)
 show (rbP (blkA s y)).length ≤ 1048576
 omega
theorem serAll_keys (s : ByteArray) (hs : s.size ≤ 1048576) : ∀ x ∈ serAll s, x.key.size ≤ maxLen := by
 intro x hx
 obtain ⟨y, hy, rfl⟩ := List.mem_map.1 hx
 have := (spots_fit s y hy).2.2
 show y.key.size ≤ maxLen
 unfold maxLen
 omega
theorem rf_yes {s : ByteArray} (h0 : serAll s ≠ []) (h : fileT (serAll s) = s) : RfAns s (serAll s) true := by
 refine .inl ⟨rfl, GoodF.of (List.length_pos_iff.2 h0) ?_ h⟩
 rcases Nat.lt_or_ge s.size 8 with h8 | h8
 ·exfalso
  apply h0
  unfold serAll spots
  rw [if_pos h8]
  rfl
 ·exact h8
theorem rf_no {s : ByteArray} (h : serAll s = [] ∨ fileT (serAll s) ≠ s) : RfAns s [] false := by
 refine .inr ⟨rfl, rfl, fun m hm => ?_⟩
 have e := hm.read.1
 rcases h with h | h
 ·rw [h] at e
  have := hm.1
  rw [← e] at this
  simp at this
 ·exact h (by rw [e]; exact hm.2.2)
theorem SerO.snoc {w1 w2 : World} {base : Nat} {v v' : Value} {L : List (Ser × Value)} {x : Ser} {u : Value} (ho : Owns w2 base 36 2 v' (srR L ++ [srC (x, u)])) (hL : ∀ p ∈ L, Owns w2 base 39 2 p.2 (ptR p.1.pts)) (hA : L.Pairwise fun p q => Apart p.2 q.2) (hu : Owns w2 base 39 2 u (ptR x.pts)) (hn : ∀ p ∈ L, Apart p.2 u) : SerO w2 base v' (L ++ [(x, u)]) := by
 refine ⟨by rw [srR_append]; exact ho, ?_, ?_⟩
 ·intro p hp
  rcases List.mem_append.1 hp with hp | hp
  ·exact hL p hp
  ·rw [List.mem_singleton.1 hp]
   exact hu
 ·rw [List.pairwise_append]
  refine ⟨hA, List.pairwise_singleton _ _, fun p hp q hq => ?_⟩
  rw [List.mem_singleton.1 hq]
  exact hn p hp
theorem SerO.others {w w' : World} {base g : Nat} {v : Value} {L : List (Ser × Value)} (h : SerO w base v L) (hk : KeptBut g w w') (hg : g < base) : SerO w' base v L :=
 ⟨hk.owns h.1 (h.1.below hg), fun p hp => hk.owns (h.2.1 p hp) ((h.2.1 p hp).below hg), h.2.2⟩
set_option maxHeartbeats 4000000 in
theorem implReadFile (s : ByteArray) (w : World) (hs : s.size ≤ 1048576) (hst : SumTab w) (a0 a1 a2 : Addr) (he : Errs w a0 a1 a2) : Calls Tryd.prog 7 #[.string s] w fun e w' => (∃ u L ok, RfAns s (L.map Prod.fst) ok ∧ e = .returned (.tuple #[u, .bool ok]) ∧ SerO w' w.heap.size u L) ∧ Below w.heap.size w w' := by
 have HS : Hid (s.size ≤ 1048576) := hs
 have ST : Hid (SumTab w) := hst
 have ER : Hid (Errs w a0 a1 a2) := he
 have C0 : Hid (CurB (w.alloc (.cells #[.string s, .int .i64 0] 82)) w.heap.size s 0 82) := Blk.new w _ _
 have B0 : Hid (Below w.heap.size w (w.alloc (.cells #[.string s, .int .i64 0] 82))) := (Below.refl _ w).alloc (Nat.le_refl _) _
 have HZ0 : Hid ((w.alloc (.cells #[.string s, .int .i64 0] 82)).heap.size = w.heap.size + 1) := World.size_alloc _ _
 have q0 : (s.size : Int) ≤ 1048576 := by omega
 clear hs hst he
 go_enter Tryd.func7, Tryd.ntmps7
 go_wp2_with fail
 refine (readerOfV s w).mono ?_
 rintro e W1 ⟨rfl, hW1⟩
 rw [← hW1] at C0 B0 HZ0
 clear hW1
 go_wp2_with fail
 refine (readIndexV s 0 w.heap.size W1 C0.out HS.out).mono ?_
 rintro e X1 ⟨⟨u11, rfl, hO⟩, ⟨p1, hC⟩, hk⟩
 rw [HZ0.out] at hO
 obtain ⟨A11, c11, e11, _⟩ := sp_look hO.lies
 have HN5 : Hid ((spots s).length ≤ 5) := spots_length s
 have C1 : Hid (CurB X1 w.heap.size s p1 82) := hC
 have B1 : Hid (Below w.heap.size w X1) := B0.out.trans hk.1
 have O1 : Hid (Owns X1 (w.heap.size + 1) 52 5 u11 (spR (spots s))) := hO
 generalize hn : (spots s).length = n at *
 have HNn : Hid ((spots s).length = n) := hn
 subst e11
 have q1 : (n : Int) ≤ 5 := by have := HN5.out; omega
 clear hO hC hk hn B0 C0 HZ0
 go_wp2_with fail
 go_loopw [5, 13] (fun v5 v13 wr => ∃ (k p : Nat) (L : List (Ser × Value)), k ≤ n ∧ v13 = .int .i64 (k : Int) ∧ L.map Prod.fst = ((spots s).take k).map (serA s) ∧ SerO wr (w.heap.size + 1) v5 L ∧ Owns wr (w.heap.size + 1) 52 5 (.slice A11 n c11) (spR (spots s)) ∧ CurB wr w.heap.size s p 82 ∧ Below w.heap.size w wr) (fun _ i _ => n - (intOf i).toNat)
 case atStart => exact ⟨0, p1, [], by omega, rfl, by simp, ⟨Owns.nil _ _ _ _, fun p hp => (by cases hp), List.Pairwise.nil⟩, O1.out, C1.out, B1.out⟩
 case round =>
  obtain ⟨k, p, L, hk, rfl, hLm, hO, hO11, hC, hb⟩ := hrel
  have HLM : Hid (L.map Prod.fst = ((spots s).take k).map (serA s)) := hLm
  have HLL : Hid (L.length = k) := by have := congrArg List.length hLm; rw [List.length_map, List.length_map, List.length_take] at this; have := HNn.out; unfold Hid; omega
  have HO : Hid (SerO wr (w.heap.size + 1) u5 L) := hO
  have HO11 : Hid (Owns wr (w.heap.size + 1) 52 5 (.slice A11 n c11) (spR (spots s))) := hO11
  have HC : Hid (CurB wr w.heap.size s p 82) := hC
  have HB1 : Hid (Below w.heap.size w wr) := hb
  clear hO hLm hO11 hC hb
  by_cases hlt : k < n
  ·have q4 : (k : Int) < (n : Int) := by omega
   obtain ⟨A5, c5, e5, hl5⟩ := sp_look HO11.out.lies
   rw [HNn.out] at e5 hl5
   cases e5
   obtain ⟨g5, o5, rfl, _, e0, e1, e2, e3, e4⟩ := hl5 k hlt
   clear hl5
   have HT : Hid (((spots s).take (k + 1)).map (serA s) = ((spots s).take k).map (serA s) ++ [serA s ((spots s).getD k default)]) := serAll_take s k (by rw [HNn.out]; exact hlt)
   have HFx : Hid (((spots s).getD k default).at' ≤ 562949953421311 ∧ ((spots s).getD k default).size ≤ 562949953421311 ∧ ((spots s).getD k default).key.size ≤ s.size) := spots_fit s _ (getD_mem _ k (by rw [HNn.out]; exact hlt))
   generalize hx : (spots s).getD k default = x at *
   clear hx
   obtain ⟨xk, xa, xz, xf, xl⟩ := x
   simp only at e0 e1 e2 e3 e4 HFx
   have KB0 : Hid (Blk (wr.alloc (.cells #[.string xk, .int .i64 (xa : Int), .int .i64 (xz : Int), .int .i64 (xf : Int), .int .i64 (xl : Int)] 52)).drew wr.heap.size #[.string xk, .int .i64 (xa : Int), .int .i64 (xz : Int), .int .i64 (xf : Int), .int .i64 (xl : Int)] 52) := Blk.new wr _ _
   have CB0 : Hid (CurB (wr.alloc (.cells #[.string xk, .int .i64 (xa : Int), .int .i64 (xz : Int), .int .i64 (xf : Int), .int .i64 (xl : Int)] 52)).drew w.heap.size s p 82) := Blk.alloc HC.out _
   have BB0 : Hid (Below w.heap.size w (wr.alloc (.cells #[.string xk, .int .i64 (xa : Int), .int .i64 (xz : Int), .int .i64 (xf : Int), .int .i64 (xl : Int)] 52)).drew) := (HB1.out.alloc HB1.out.size _).drew
   have OL0 : Hid (SerO (wr.alloc (.cells #[.string xk, .int .i64 (xa : Int), .int .i64 (xz : Int), .int .i64 (xf : Int), .int .i64 (xl : Int)] 52)).drew (w.heap.size + 1) u5 L) := HO.out.on ((Below.refl _ wr).alloc (Nat.le_refl _) _).drew
   have OS0 : Hid (Owns (wr.alloc (.cells #[.string xk, .int .i64 (xa : Int), .int .i64 (xz : Int), .int .i64 (xf : Int), .int .i64 (xl : Int)] 52)).drew (w.heap.size + 1) 52 5 (.slice (some ⟨g5, o5, none⟩) n c11) (spR (spots s))) := HO11.out.on ((Below.refl _ wr).alloc (Nat.le_refl _) _).drew
   have HHS : Hid (w.heap.size < wr.heap.size) := Blk.lt HC.out
   have S0 : Hid ((wr.alloc (.cells #[.string xk, .int .i64 (xa : Int), .int .i64 (xz : Int), .int .i64 (xf : Int), .int .i64 (xl : Int)] 52)).drew.cell? ⟨wr.heap.size, 0, none⟩ = some (.string xk) ∧ (wr.alloc (.cells #[.string xk, .int .i64 (xa : Int), .int .i64 (xz : Int), .int .i64 (xf : Int), .int .i64 (xl : Int)] 52)).drew.cell? ⟨wr.heap.size, 1, none⟩ = some (.int .i64 (xa : Int)) ∧ (wr.alloc (.cells #[.string xk, .int .i64 (xa : Int), .int .i64 (xz : Int), .int .i64 (xf : Int), .int .i64 (xl : Int)] 52)).drew.cell? ⟨wr.heap.size, 2, none⟩ = some (.int .i64 (xz : Int)) ∧ (wr.alloc (.cells #[.string xk, .int .i64 (xa : Int), .int .i64 (xz : Int), .int .i64 (xf : Int), .int .i64 (xl : Int)] 52)).drew.cell? ⟨wr.heap.size, 3, none⟩ = some (.int .i64 (xf : Int)) ∧ (wr.alloc (.cells #[.string xk, .int .i64 (xa : Int), .int .i64 (xz : Int), .int .i64 (xf : Int), .int .i64 (xl : Int)] 52)).drew.cell? ⟨wr.heap.size, 4, none⟩ = some (.int .i64 (xl : Int))) := ⟨KB0.out.cell 0 _ rfl, KB0.out.cell 1 _ rfl, KB0.out.cell 2 _ rfl, KB0.out.cell 3 _ rfl, KB0.out.cell 4 _ rfl⟩
   have cC := clone xk (wr.alloc (.cells #[.string xk, .int .i64 (xa : Int), .int .i64 (xz : Int), .int .i64 (xf : Int), .int .i64 (xl : Int)] 52)).drew (by have := HFx.out; have := HS.out; omega)
   go_wp2_with fail
   refine wp_region_until (fun w' => w'.cell? ⟨wr.heap.size, 0, none⟩ = some (.string xk) ∧ w'.cell? ⟨wr.heap.size, 1, none⟩ = some (.int .i64 (xa : Int)) ∧ w'.cell? ⟨wr.heap.size, 2, none⟩ = some (.int .i64 (xz : Int)) ∧ w'.cell? ⟨wr.heap.size, 3, none⟩ = some (.int .i64 (xf : Int)) ∧ w'.cell? ⟨wr.heap.size, 4, none⟩ = some (.int .i64 (xl : Int))) (fun i => i == 9 || i == 10) 11 (by rfl) (by kernel_rfl) ?_
   refine until_take 0 (v := ?_) (by rfl) (by kernel_rfl) (by exact fun _ _ _ h => h) (by rfl) ?_ S0.out ?_
   rotate_left
   ·intro w hSw
    try dsimp only at hSw
    go_simp
    try with_reducible rfl
   try simp only [Act.put, setIfInBounds_toArray, set_cons_zero, set_cons_succ]
   refine until_take 1 (v := ?_) (by rfl) (by kernel_rfl) (by exact fun _ _ _ h => h) (by rfl) ?_ S0.out ?_
   rotate_left
   ·intro w hSw
    try dsimp only at hSw
    go_simp
    try with_reducible rfl
   try simp only [Act.put, setIfInBounds_toArray, set_cons_zero, set_cons_succ]
   refine until_take 2 (v := ?_) (by rfl) (by kernel_rfl) (by exact fun _ _ _ h => h) (by rfl) ?_ S0.out ?_
   rotate_left
   ·intro w hSw
    try dsimp only at hSw
    go_simp
    try with_reducible rfl
   try simp only [Act.put, setIfInBounds_toArray, set_cons_zero, set_cons_succ]
   refine until_take 4 (v := ?_) (by rfl) (by kernel_rfl) (by exact fun _ _ _ h => h) (by rfl) ?_ S0.out ?_
   rotate_left
   ·intro w hSw
    try dsimp only at hSw
    go_simp
    try with_reducible rfl
   try simp only [Act.put, setIfInBounds_toArray, set_cons_zero, set_cons_succ]
   refine until_take 5 (v := ?_) (by rfl) (by kernel_rfl) (by exact fun _ _ _ h => h) (by rfl) ?_ S0.out ?_
   rotate_left
   ·intro w hSw
    try dsimp only at hSw
    go_simp
    try with_reducible rfl
   try simp only [Act.put, setIfInBounds_toArray, set_cons_zero, set_cons_succ]
   refine until_one 3 (by rfl) (by kernel_rfl) (fun K hK => ?_)
   go_simp
   refine cC.mono ?_
   rintro e X2 ⟨rfl, hb2⟩
   have KB2 : Hid (Blk X2 wr.heap.size #[.string xk, .int .i64 (xa : Int), .int .i64 (xz : Int), .int .i64 (xf : Int), .int .i64 (xl : Int)] 52) := KB0.out.on hb2 KB0.out.lt
   have CB2 : Hid (CurB X2 w.heap.size s p 82) := Blk.on CB0.out hb2 (Blk.lt CB0.out)
   have BB2 : Hid (Below w.heap.size w X2) := BB0.out.trans (hb2.mono BB0.out.size)
   have OL2 : Hid (SerO X2 (w.heap.size + 1) u5 L) := OL0.out.on hb2
   have OS2 : Hid (Owns X2 (w.heap.size + 1) 52 5 (.slice (some ⟨g5, o5, none⟩) n c11) (spR (spots s))) := OS0.out.on hb2
   clear hb2 cC KB0 CB0 BB0 OL0 OS0
   go_wp2_with fail
   refine hK.out _ _ (fun _ _ => ⟨KB2.out.cell 0 _ rfl, KB2.out.cell 1 _ rfl, KB2.out.cell 2 _ rfl, KB2.out.cell 3 _ rfl, KB2.out.cell 4 _ rfl⟩) ?_
   clear hK K
   try simp only [Act.put, setIfInBounds_toArray, set_cons_zero, set_cons_succ]
   refine until_one 6 (by rfl) (by kernel_rfl) (fun K hK => ?_)
   go_simp
   refine (readBlockV s p w.heap.size ⟨xk, xa, xz, xf, xl⟩ X2 w CB2.out HS.out ⟨HFx.out.1, HFx.out.2.1⟩ BB2.out (Nat.le_refl _) ST.out a0 a1 a2 ER.out).mono ?_
   rintro e X3 ⟨⟨u3, rfl, hO3⟩, ⟨p3, hC3⟩, hk3⟩
   obtain ⟨A3, n3, c3, rfl⟩ := hO3.shape
   have KB3 : Hid (Blk X3 wr.heap.size #[.string xk, .int .i64 (xa : Int), .int .i64 (xz : Int), .int .i64 (xf : Int), .int .i64 (xl : Int)] 52) := hk3.blk KB2.out (by have := HHS.out; omega)
   have CB3 : Hid (CurB X3 w.heap.size s p3 82) := hC3
   have BB3 : Hid (Below w.heap.size w X3) := BB2.out.trans hk3.1
   have OL3 : Hid (SerO X3 (w.heap.size + 1) u5 L) := OL2.out.others hk3 (by omega)
   have OS3 : Hid (Owns X3 (w.heap.size + 1) 52 5 (.slice (some ⟨g5, o5, none⟩) n c11) (spR (spots s))) := hk3.owns OS2.out (OS2.out.below (by omega))
   have UP3 : Hid (Owns X3 X2.heap.size 39 2 (.slice A3 n3 c3) (ptR (serA s ⟨xk, xa, xz, xf, xl⟩).pts)) := hO3
   have AP3 : Hid (∀ q ∈ L, Apart q.2 (.slice A3 n3 c3)) := fun q hq gg h1 h2 => by
    have := ((OL2.out.2.1 q hq).lt gg h1).2
    have := (hO3.lt gg h2).1
    omega
   have Z23 : Hid (w.heap.size + 1 ≤ X2.heap.size) := by have := Blk.lt CB2.out; unfold Hid; omega
   have Z3 : w.heap.size + 1 ≤ X3.heap.size := by have := Blk.lt CB3.out; omega
   clear hO3 hC3 hk3 KB2 CB2 BB2 OL2 OS2
   obtain ⟨nA, nm, nc, w5, r5, hO5, hb5, hk5, _⟩ := run_append_row (P := Tryd.prog) X3 24 24 36 (.agg #[.string ⟨#[]⟩, .slice none 0 0]) 2 40 Tryd.underlying24 Tryd.infoSr rfl (by omega) (w.heap.size + 1) u5 (srR L) OL3.out.1 [.string xk, .slice A3 n3 c3] rfl (by intro y hy; simp only [List.mem_cons, List.not_mem_nil, or_false] at hy; rcases hy with rfl | rfl <;> rfl) (by rw [srR_length, HLL.out]; omega) (by omega) Z3
   have hne5 : ∀ (v : Value) (b : Nat) (e : TypeId) (sz : Nat) (r : List (List Value)), Owns X3 b e sz v r → e ≠ 36 → Owns w5 b e sz v r := fun v b e sz r ho hne => ho.kept fun gg hg hv => hk5 gg hg (fun hu => ho.apartT OL3.out.1 hne gg hv hu)
   have CB5 : Hid (CurB w5 w.heap.size s p3 82) := (hk5 w.heap.size (Blk.lt CB3.out) (OL3.out.1.below (by omega))).trans CB3.out
   have BB5 : Hid (Below w.heap.size w w5) := BB3.out.trans (hb5.mono (by omega))
   have OS5 : Hid (Owns w5 (w.heap.size + 1) 52 5 (.slice (some ⟨g5, o5, none⟩) n c11) (spR (spots s))) := hne5 _ _ _ _ _ OS3.out (by decide)
   have OL5 : Hid (SerO w5 (w.heap.size + 1) (.slice nA nm nc) (L ++ [(serA s ⟨xk, xa, xz, xf, xl⟩, .slice A3 n3 c3)])) := SerO.snoc (w1 := X3) (v := u5) hO5 (fun q hq => hne5 _ _ _ _ _ (OL3.out.2.1 q hq) (by decide)) OL3.out.2.2 (hne5 _ _ _ _ _ (UP3.out.mono Z23.out) (by decide)) AP3.out
   have HLMn : Hid ((L ++ [(serA s ⟨xk, xa, xz, xf, xl⟩, Value.slice A3 n3 c3)]).map Prod.fst = ((spots s).take (k + 1)).map (serA s)) := by
    unfold Hid
    rw [HT.out, List.map_append, HLM.out]
    rfl
   clear hO5 hb5 hk5 hne5
   go_wp2_with fail
   refine hK.out _ _ (fun _ _ => ⟨KB3.out.cell 0 _ rfl, KB3.out.cell 1 _ rfl, KB3.out.cell 2 _ rfl, KB3.out.cell 3 _ rfl, KB3.out.cell 4 _ rfl⟩) ?_
   clear hK K
   try simp only [Act.put, setIfInBounds_toArray, set_cons_zero, set_cons_succ]
   refine until_pure 7 (v := ?_) (by rfl) (by kernel_rfl) (by exact fun _ _ _ h => h) (by rfl) ?_ ?_
   rotate_left
   ·intro w
    go_simp
    try with_reducible rfl
   try simp only [Act.put, setIfInBounds_toArray, set_cons_zero, set_cons_succ]
   refine until_one 8 (by rfl) (by kernel_rfl) (fun K hK => ?_)
   go_simp
   refine hK.out _ _ (fun _ h => ⟨cell_alloc_keep h.1 _, cell_alloc_keep h.2.1 _, cell_alloc_keep h.2.2.1 _, cell_alloc_keep h.2.2.2.1 _, cell_alloc_keep h.2.2.2.2 _⟩) ?_
   clear hK K
   try simp only [Act.put, setIfInBounds_toArray, set_cons_zero, set_cons_succ]
   refine until_one 9 (by rfl) (by kernel_rfl) (fun K hK => ?_)
   refine step_append_run (by rfl) (.tmp 17) (.tmp 25) 24 (by rfl) _ _ _ _ (by rfl) (by rfl) r5 ?_
   refine hK.out _ _ (fun h => by cases h) ?_
   clear hK K
   try simp only [Act.put, setIfInBounds_toArray, set_cons_zero, set_cons_succ]
   refine until_one 10 (by rfl) (by kernel_rfl) (fun K hK => ?_)
   go_simp
   refine hK.out _ _ (fun h => by cases h) ?_
   clear hK K
   try simp only [Act.put, setIfInBounds_toArray, set_cons_zero, set_cons_succ]
   refine until_done (by kernel_rfl) ?_ _
   go_wp2_with fail
   go_roundw
   case rel => exact ⟨k + 1, p3, _, by omega, by go_num, HLMn.out, OL5.out, OS5.out, CB5.out, BB5.out⟩
   case measure => simp [intOf]; omega
  ·obtain rfl : k = n := by omega
   have HA : Hid (L.map Prod.fst = serAll s) := by
    unfold Hid
    rw [HLM.out, List.take_of_length_le (by rw [HNn.out]; exact Nat.le_refl _)]
    rfl
   obtain ⟨A5, c5, e5, _⟩ := sr_look HO.out.lies.1
   rw [HLL.out] at e5
   subst e5
   by_cases h0 : k = 0
   ·subst h0
    have HE : Hid (serAll s = []) := by unfold Hid; rw [← HA.out, List.eq_nil_of_length_eq_zero HLL.out]; rfl
    go_wp2_with fail
    exact bodyPost_ret (results_tmp2 rfl _ _ _) rfl ⟨⟨_, [], _, rf_no (.inl HE.out), rfl, Owns.nil _ _ _ _, fun p hp => (by cases hp), List.Pairwise.nil⟩, HB1.out⟩
   have d0 : ((k : Int) == 0) = false := by rw [beq_eq_false_iff_ne]; omega
   have d1 : decide ((k : Int) = 0) = false := decide_eq_false (by omega)
   have HNE : Hid (serAll s ≠ []) := fun e => h0 (by rw [← HLL.out, ← List.length_map (f := Prod.fst), HA.out, e]; rfl)
   have cF := implFileText (serAll s) (.slice A5 k c5) wr wr.heap.size ⟨L, HA.out, HO.out.lies⟩ (serAll_short s) (serAll_keys s HS.out) (Nat.le_refl _) (ST.out.on HB1.out)
   by_cases hEq : fileT (serAll s) = s
   ·rw [hEq] at cF
    have HEQ : Hid (fileT (serAll s) = s) := hEq
    clear hEq
    go_wp2_with fail
    refine cF.mono ?_
    rintro e Y ⟨rfl, hbY⟩
    have BY : Hid (Below w.heap.size w Y) := HB1.out.trans (hbY.mono HB1.out.size)
    have OY : Hid (SerO Y w.heap.size (.slice A5 k c5) L) := (HO.out.on hbY).mono (by omega)
    clear hbY cF
    go_wp2_with fail
    exact bodyPost_ret (results_tmp2 rfl _ _ _) rfl ⟨⟨_, L, _, by rw [HA.out]; exact rf_yes HNE.out HEQ.out, rfl, OY.out⟩, BY.out⟩
   ·have HEQ : Hid (fileT (serAll s) ≠ s) := hEq
    have hne := bytes_ne hEq
    clear hEq
    go_wp2_with fail
    refine cF.mono ?_
    rintro e Y ⟨rfl, hbY⟩
    have BY : Hid (Below w.heap.size w Y) := HB1.out.trans (hbY.mono HB1.out.size)
    clear hbY cF
    go_wp2_with fail
    exact bodyPost_ret (results_tmp2 rfl _ _ _) rfl ⟨⟨_, [], _, rf_no (.inr HEQ.out), rfl, Owns.nil _ _ _ _, fun p hp => (by cases hp), List.Pairwise.nil⟩, BY.out⟩
end Go.Proofs.YtnilgemgjlhibaaDoor
namespace Go.Proofs.YtnilgemgjlhibaaDoor
open Go.RowKit Go.PlainAid
structure Mod (B p : Nat) (w w' : World) : Prop where
 os : w'.os = w.os
 tape : w'.tape = w.tape
 output : w'.output = w.output
 size : w.heap.size ≤ w'.heap.size
 block : ∀ b, b < B → b ≠ p → w'.heap[b]? = w.heap[b]?
theorem Mod.refl (B p : Nat) (w : World) : Mod B p w w := ⟨rfl, rfl, rfl, Nat.le_refl _, fun _ _ _ => rfl⟩
theorem Mod.trans {B p : Nat} {a b c : World} (h : Mod B p a b) (k : Mod B p b c) : Mod B p a c :=
 ⟨k.os.trans h.os, k.tape.trans h.tape, k.output.trans h.output, Nat.le_trans h.size k.size, fun i hi hp => (k.block i hi hp).trans (h.block i hi hp)⟩
theorem Mod.mono {B C p : Nat} {a b : World} (h : Mod C p a b) (hB : B ≤ C) : Mod B p a b := ⟨h.os, h.tape, h.output, h.size, fun i hi hp => h.block i (Nat.lt_of_lt_of_le hi hB) hp⟩
theorem Mod.of_below {B p : Nat} {a b : World} (h : Below B a b) : Mod B p a b := ⟨h.os, h.tape, h.output, h.size, fun i hi _ => h.block i hi⟩
theorem Mod.below {B p : Nat} {a b : World} (h : Mod B p a b) (hB : B ≤ p) : Below B a b := ⟨h.os, h.tape, h.output, h.size, fun i hi => h.block i hi (by omega)⟩
theorem Mod.setCell {B p i : Nat} {a b : World} (h : Mod B p a b) (v : Value) : Mod B p a (b.setCell ⟨p, i, none⟩ v) := by
 refine h.trans ⟨rfl, rfl, rfl, ?_, fun j _ hj => ?_⟩
 ·simp
 ·exact Below.heap_setCell _ _ _ _ hj
theorem Mod.drewN {B p : Nat} {a b : World} (h : Mod B p a b) (k : Nat) : Mod B p a (b.drewN k) := by
 have hd := (⟨rfl, rfl, rfl, Nat.le_refl _, fun _ _ => rfl⟩ : Below B b (b.drewN k))
 exact h.trans (Mod.of_below hd)
theorem Mod.drew {B p : Nat} {a b : World} (h : Mod B p a b) : Mod B p a b.drew := h.trans (Mod.of_below (Below.refl B b).drew)
theorem Mod.alloc {B p : Nat} {a b : World} (h : Mod B p a b) (hB : B ≤ b.heap.size) (o : Obj) : Mod B p a (b.alloc o) := h.trans (Mod.of_below ((Below.refl B b).alloc hB o))
def CodeIs (w : World) (p : Nat) (ao : Option Addr) (len : Nat) (cs : Nat → Nat) : Prop :=
 len = 0 ∨ ∃ cb co, ao = some ⟨cb, co, none⟩ ∧ cb < p ∧ ∀ j, j < len → cs j < 256 ∧ w.cell? ⟨cb, co + j, none⟩ = some (.int .u8 (cs j : Int))
theorem CodeIs.kept {w w' : World} {B p : Nat} {ao : Option Addr} {len : Nat} {cs : Nat → Nat} (h : CodeIs w p ao len cs) (hm : Mod B p w w') (hp : p ≤ B) : CodeIs w' p ao len cs := by
 rcases h with h | ⟨cb, co, rfl, hcb, hj⟩
 ·exact .inl h
 ·refine .inr ⟨cb, co, rfl, hcb, fun j hj' => ⟨(hj j hj').1, ?_⟩⟩
  rw [← (hj j hj').2]
  exact World.cell?_of_block (w := w) (hm.block cb (by omega) (by omega))
theorem CodeIs.at {w : World} {p : Nat} {ao : Option Addr} {len : Nat} {cs : Nat → Nat} (h : CodeIs w p ao len cs) {i : Nat} (hi : i < len) :
  ∃ cb co, ao = some ⟨cb, co, none⟩ ∧ cb < p ∧ cs i < 256 ∧ w.cell? ⟨cb, co + i, none⟩ = some (.int .u8 (cs i : Int)) := by
 rcases h with h | ⟨cb, co, rfl, hcb, hj⟩
 ·omega
 ·exact ⟨cb, co, rfl, hcb, (hj i hi).1, (hj i hi).2⟩
def Cur (T : TypeId) (w : World) (p : Nat) (ao : Option Addr) (len cap i : Nat) (h : Int) : Prop := w.heap[p]? = some (.cells #[.slice ao len cap, .int .i64 (i : Int), .int .i64 h] T (0, 0))
theorem Cur.lt {T : TypeId} {w : World} {p : Nat} {ao : Option Addr} {len cap i : Nat} {h : Int} (c : Cur T w p ao len cap i h) : p < w.heap.size := lt_of_block c
theorem Cur.c0 {T : TypeId} {w : World} {p : Nat} {ao : Option Addr} {len cap i : Nat} {h : Int} (c : Cur T w p ao len cap i h) : w.cell? ⟨p, 0, none⟩ = some (.slice ao len cap) := by unfold Cur at c; simp [World.cell?, c]
theorem Cur.c1 {T : TypeId} {w : World} {p : Nat} {ao : Option Addr} {len cap i : Nat} {h : Int} (c : Cur T w p ao len cap i h) : w.cell? ⟨p, 1, none⟩ = some (.int .i64 (i : Int)) := by unfold Cur at c; simp [World.cell?, c]
theorem Cur.c2 {T : TypeId} {w : World} {p : Nat} {ao : Option Addr} {len cap i : Nat} {h : Int} (c : Cur T w p ao len cap i h) : w.cell? ⟨p, 2, none⟩ = some (.int .i64 h) := by unfold Cur at c; simp [World.cell?, c]
theorem Cur.free {T : TypeId} {w : World} {p : Nat} {ao : Option Addr} {len cap i : Nat} {h : Int} (c : Cur T w p ao len cap i h) (j : Nat) : w.frozen? ⟨p, j, none⟩ = false := by unfold Cur at c; simp [World.frozen?, c]
theorem Cur.set2 {T : TypeId} {w : World} {p : Nat} {ao : Option Addr} {len cap i : Nat} {h : Int} (c : Cur T w p ao len cap i h) (h' : Int) : Cur T (w.setCell ⟨p, 2, none⟩ (.int .i64 h')) p ao len cap i h' := by
 have hlt := c.lt
 unfold Cur at c ⊢
 have e : w.heap[p] = .cells #[.slice ao len cap, .int .i64 (i : Int), .int .i64 h] T (0, 0) := by simpa [Array.getElem?_eq_getElem hlt] using c
 show (w.heap.modify p _)[p]? = _
 rw [Array.getElem?_eq_getElem (by simpa using hlt), Array.getElem_modify_self, e]
 rfl
theorem Cur.set1 {T : TypeId} {w : World} {p : Nat} {ao : Option Addr} {len cap i : Nat} {h : Int} (c : Cur T w p ao len cap i h) (k : Nat) : Cur T (w.setCell ⟨p, 1, none⟩ (.int .i64 (k : Int))) p ao len cap k h := by
 have hlt := c.lt
 unfold Cur at c ⊢
 have e : w.heap[p] = .cells #[.slice ao len cap, .int .i64 (i : Int), .int .i64 h] T (0, 0) := by simpa [Array.getElem?_eq_getElem hlt] using c
 show (w.heap.modify p _)[p]? = _
 rw [Array.getElem?_eq_getElem (by simpa using hlt), Array.getElem_modify_self, e]
 rfl
theorem Cur.below {T : TypeId} {w w' : World} {B p : Nat} {ao : Option Addr} {len cap i : Nat} {h : Int} (c : Cur T w p ao len cap i h) (hb : Below B w w') (hp : p < B) : Cur T w' p ao len cap i h := by
 unfold Cur at c ⊢
 rw [hb.block p hp, c]
theorem Cur.drewN {T : TypeId} {w : World} {p : Nat} {ao : Option Addr} {len cap i : Nat} {h : Int} (c : Cur T w p ao len cap i h) (k : Nat) : Cur T (w.drewN k) p ao len cap i h :=
 c.below (⟨rfl, rfl, rfl, Nat.le_refl _, fun _ _ => rfl⟩ : Below (p + 1) w (w.drewN k)) (by omega)
def curH (h : Int) : Int := wrap64 (wrap64 (h * 6364136223846793005) + 1442695040888963407)
def curX (h : Int) : Int := bits .and .i64 (bits .xor .i64 (h / 8589934592) (h / 35184372088832)) 255
theorem and255 (x : Int) : 0 ≤ bits .and .i64 x 255 ∧ bits .and .i64 x 255 ≤ 255 := by
 have e : bits .and .i64 x 255 = IntKind.i64.wrap ((BitVec.ofInt 64 x &&& BitVec.ofInt 64 ((255 : Nat) : Int)).toNat : Int) := rfl
 rw [e, BitVec.toNat_and, ofInt_u64 255 (by omega), nat_mask8]
 have h : (BitVec.ofInt 64 x).toNat % 256 < 256 := Nat.mod_lt _ (by omega)
 rw [Lib.wrap_i64_small _ (by omega)]
 omega
theorem curX_bd (h : Int) : 0 ≤ curX h ∧ curX h ≤ 255 := and255 _
structure Pos where
 i : Nat
 h : Int
def byteV (len : Nat) (cs : Nat → Nat) (s : Pos) : Int := if s.i < len then bits .and .i64 (curX (curH s.h) + (cs s.i : Int)) 255 else curX (curH s.h)
def byteP (len : Nat) (s : Pos) : Pos := if s.i < len then ⟨s.i + 1, curH s.h⟩ else ⟨s.i, curH s.h⟩
theorem byteV_bd (len : Nat) (cs : Nat → Nat) (s : Pos) : 0 ≤ byteV len cs s ∧ byteV len cs s ≤ 255 := by
 unfold byteV
 split
 ·exact and255 _
 ·exact curX_bd _
end Go.Proofs.YtnilgemgjlhibaaDoor
namespace Go.Proofs.YtnilgemgjlhibaaDoor
open Go.ChangeShapes Go.WideShapes Go.ChangeAt Go.RowKit Go.PlainAid
set_option linter.unusedVariables false
set_option maxHeartbeats 1000000 in
theorem byte_in (w : World) (p : Nat) (cb co len cap : Nat) (c i : Nat) (h : Int) (hc : Cur 68 w p (some ⟨cb, co, none⟩) len cap i h) (hcb : cb < p) (hi : i < len) (hl : len ≤ 1048576) (hc255 : c < 256)
  (hcell : w.cell? ⟨cb, co + i, none⟩ = some (.int .u8 (c : Int))) :
  Calls Tryd.prog 49 #[.pointer (some ⟨p, 0, none⟩)] w fun e w' => e = .returned (.int .i64 (bits .and .i64 (curX (curH h) + (c : Int)) 255)) ∧ Cur 68 w' p (some ⟨cb, co, none⟩) len cap (i + 1) (curH h) ∧ Mod w.heap.size p w w' := by
 have c0 := hc.c0
 have c1 := hc.c1
 have c2 := hc.c2
 have f1 := hc.free 1
 have f2 := hc.free 2
 have q1 : (i : Int) < (len : Int) := by omega
 have q2 : (len : Int) ≤ 1048576 := by omega
 go_enter Tryd.func49, Tryd.ntmps49
 go_wp2
 have eH : wrap64 (wrap64 (h * 6364136223846793005) + 1442695040888963407) = curH h := rfl
 rw [eH]
 have hc1 := hc.set2 (curH h)
 have hm1 : Mod w.heap.size p w (w.setCell ⟨p, 2, none⟩ (.int .i64 (curH h))) := (Mod.refl _ _ _).setCell _
 have hcell1 : (w.setCell ⟨p, 2, none⟩ (.int .i64 (curH h))).cell? ⟨cb, co + i, none⟩ = some (.int .u8 (c : Int)) := by
  rw [← hcell]
  exact World.cell?_of_block (w := w) (hm1.block cb (by have := hc.lt; omega) (by omega))
 generalize w.setCell ⟨p, 2, none⟩ (.int .i64 (curH h)) = w1 at *
 generalize hH : curH h = H at *
 have HH : Hid (curH h = H) := hH
 clear hH
 clear eH c0 c1 c2 f1 f2 hcell
 have c0 := hc1.c0
 have c1 := hc1.c1
 have c2 := hc1.c2
 have f1 := hc1.free 1
 have hx := curX_bd H
 obtain ⟨hx1, hx2⟩ := hx
 have eX : bits .and .i64 (bits .xor .i64 (H / 8589934592) (H / 35184372088832)) 255 = curX H := rfl
 go_quiet (fail)
 go_wp2
 go_quiet (fail)
 go_wp2
 go_quiet (fail)
 go_wp2
 go_ret
 have e1 : ((i : Int) + 1) = ((i + 1 : Nat) : Int) := by omega
 rw [HH.out, e1]
 exact ⟨rfl, (hc1.drewN _).set1 (i + 1), (hm1.drewN _).setCell _⟩
set_option maxHeartbeats 1000000 in
theorem byte_out (w : World) (p : Nat) (ao : Option Addr) (len cap : Nat) (i : Nat) (h : Int) (hc : Cur 68 w p ao len cap i h) (hi : len ≤ i) (hi2 : i ≤ 1048576) (hl : len ≤ 1048576) :
  Calls Tryd.prog 49 #[.pointer (some ⟨p, 0, none⟩)] w fun e w' => e = .returned (.int .i64 (curX (curH h))) ∧ Cur 68 w' p ao len cap i (curH h) ∧ Mod w.heap.size p w w' := by
 have c0 := hc.c0
 have c1 := hc.c1
 have c2 := hc.c2
 have f1 := hc.free 1
 have f2 := hc.free 2
 have q1 : (len : Int) ≤ (i : Int) := by omega
 have q2 : (len : Int) ≤ 1048576 := by omega
 have q3 : (i : Int) ≤ 1048576 := by omega
 go_enter Tryd.func49, Tryd.ntmps49
 go_wp2
 have eH : wrap64 (wrap64 (h * 6364136223846793005) + 1442695040888963407) = curH h := rfl
 rw [eH]
 have hc1 := hc.set2 (curH h)
 have hm1 : Mod w.heap.size p w (w.setCell ⟨p, 2, none⟩ (.int .i64 (curH h))) := (Mod.refl _ _ _).setCell _
 generalize w.setCell ⟨p, 2, none⟩ (.int .i64 (curH h)) = w1 at *
 generalize hH : curH h = H at *
 have HH : Hid (curH h = H) := hH
 clear hH
 clear eH c0 c1 c2 f1 f2
 have c0 := hc1.c0
 have c1 := hc1.c1
 have c2 := hc1.c2
 have f1 := hc1.free 1
 have hx := curX_bd H
 obtain ⟨hx1, hx2⟩ := hx
 have eX : bits .and .i64 (bits .xor .i64 (H / 8589934592) (H / 35184372088832)) 255 = curX H := rfl
 go_quiet (fail)
 go_wp2
 go_quiet (fail)
 go_wp2
 go_ret
 rw [HH.out]
 exact ⟨rfl, (hc1.drewN _).drewN _, (hm1.drewN _).drewN _⟩
def At (w : World) (p : Nat) (ao : Option Addr) (len cap : Nat) (cs : Nat → Nat) (s : Pos) : Prop := Cur 68 w p ao len cap s.i s.h ∧ CodeIs w p ao len cs ∧ len ≤ 1048576 ∧ s.i ≤ len
theorem At.lt {w : World} {p : Nat} {ao : Option Addr} {len cap : Nat} {cs : Nat → Nat} {s : Pos} (h : At w p ao len cap cs s) : p < w.heap.size := h.1.lt
theorem At.below {w w' : World} {B p : Nat} {ao : Option Addr} {len cap : Nat} {cs : Nat → Nat} {s : Pos} (h : At w p ao len cap cs s) (hb : Below B w w') (hp : p < B) : At w' p ao len cap cs s :=
 ⟨h.1.below hb hp, h.2.1.kept (Mod.of_below (p := p) hb) (by omega), h.2.2⟩
theorem byte_any (w : World) (p : Nat) (ao : Option Addr) (len cap : Nat) (cs : Nat → Nat) (s : Pos) (h : At w p ao len cap cs s) :
  Calls Tryd.prog 49 #[.pointer (some ⟨p, 0, none⟩)] w fun e w' => e = .returned (.int .i64 (byteV len cs s)) ∧ At w' p ao len cap cs (byteP len s) ∧ Mod w.heap.size p w w' := by
 have hlt := h.lt
 obtain ⟨h1, h2, h3, h4⟩ := h
 by_cases hi : s.i < len
 ·obtain ⟨cb, co, rfl, hcb, hc5, hcell⟩ := h2.at hi
  refine (byte_in w p cb co len cap (cs s.i) s.i s.h h1 hcb hi h3 hc5 hcell).mono ?_
  rintro e w' ⟨he, hc', hm⟩
  refine ⟨by rw [he, byteV, if_pos hi], ?_, hm⟩
  rw [byteP, if_pos hi]
  exact ⟨hc', h2.kept hm (by omega), h3, by show s.i + 1 ≤ len; omega⟩
 ·refine (byte_out w p ao len cap s.i s.h h1 (by omega) (by omega) h3).mono ?_
  rintro e w' ⟨he, hc', hm⟩
  refine ⟨by rw [he, byteV, if_neg hi], ?_, hm⟩
  rw [byteP, if_neg hi]
  exact ⟨hc', h2.kept hm (by omega), h3, h4⟩
def belowV (len : Nat) (cs : Nat → Nat) (n : Int) (s : Pos) : Int :=
 if n ≤ 0 then 0 else if n ≤ 256 then byteV len cs s % n
 else (byteV len cs s * 16777216 + byteV len cs (byteP len s) * 65536 + byteV len cs (byteP len (byteP len s)) * 256 + byteV len cs (byteP len (byteP len (byteP len s)))) % n
def belowP (len : Nat) (n : Int) (s : Pos) : Pos := if n ≤ 0 then s else if n ≤ 256 then byteP len s else byteP len (byteP len (byteP len (byteP len s)))
theorem belowV_bd (len : Nat) (cs : Nat → Nat) (n : Int) (s : Pos) : 0 ≤ belowV len cs n s ∧ (0 < n → belowV len cs n s < n) := by
 unfold belowV
 split
 ·exact ⟨by omega, fun h => by omega⟩
 ·split
  ·exact ⟨Int.emod_nonneg _ (by omega), fun h => Int.emod_lt_of_pos _ h⟩
  ·exact ⟨Int.emod_nonneg _ (by omega), fun h => Int.emod_lt_of_pos _ h⟩
set_option maxHeartbeats 1000000 in
theorem below_any (w : World) (p : Nat) (ao : Option Addr) (len cap : Nat) (cs : Nat → Nat) (s : Pos) (n : Int) (hn : n ≤ 9223372036854775807) (h : At w p ao len cap cs s) :
  Calls Tryd.prog 34 #[.pointer (some ⟨p, 0, none⟩), .int .i64 n] w fun e w' => e = .returned (.int .i64 (belowV len cs n s)) ∧ At w' p ao len cap cs (belowP len n s) ∧ Mod w.heap.size p w w' := by
 by_cases h0 : n ≤ 0
 ·have HV : Hid (belowV len cs n s = 0) := by show belowV len cs n s = 0; rw [belowV, if_pos h0]
  have HP : Hid (belowP len n s = s) := by show belowP len n s = s; rw [belowP, if_pos h0]
  have HA : Hid (At w p ao len cap cs s) := h
  clear h
  go_enter Tryd.func34, Tryd.ntmps34
  go_wp2_with fail
  go_ret
  rw [HV.out, HP.out]
  exact ⟨rfl, HA.out, Mod.refl _ _ _⟩
 ·by_cases h256 : n ≤ 256
  ·have HV : Hid (belowV len cs n s = byteV len cs s % n) := by show belowV len cs n s = _; rw [belowV, if_neg h0, if_pos h256]
   have HP : Hid (belowP len n s = byteP len s) := by show belowP len n s = _; rw [belowP, if_neg h0, if_pos h256]
   have HA : Hid (At w p ao len cap cs s) := h
   clear h
   have hb := byteV_bd len cs s
   obtain ⟨hb1, hb2⟩ := hb
   go_enter Tryd.func34, Tryd.ntmps34
   go_wp2_with fail
   refine (byte_any _ p ao len cap cs s HA.out).mono ?_
   rintro e w1 ⟨rfl, hA1, hm1⟩
   go_wp2_with fail
   go_ret
   rw [HV.out, HP.out]
   exact ⟨rfl, hA1, hm1⟩
  ·have HV : Hid (belowV len cs n s = (byteV len cs s * 16777216 + byteV len cs (byteP len s) * 65536 + byteV len cs (byteP len (byteP len s)) * 256 + byteV len cs (byteP len (byteP len (byteP len s)))) % n) := by
    show belowV len cs n s = _; rw [belowV, if_neg h0, if_neg h256]
   have HP : Hid (belowP len n s = byteP len (byteP len (byteP len (byteP len s)))) := by show belowP len n s = _; rw [belowP, if_neg h0, if_neg h256]
   have HA : Hid (At w p ao len cap cs s) := h
   clear h
   have hb := byteV_bd len cs s
   have hb' := byteV_bd len cs (byteP len s)
   have hb'' := byteV_bd len cs (byteP len (byteP len s))
   have hb3 := byteV_bd len cs (byteP len (byteP len (byteP len s)))
   obtain ⟨a1, a2⟩ := hb
   obtain ⟨a3, a4⟩ := hb'
   obtain ⟨a5, a6⟩ := hb''
   obtain ⟨a7, a8⟩ := hb3
   go_enter Tryd.func34, Tryd.ntmps34
   go_wp2_with fail
   refine (byte_any _ p ao len cap cs s HA.out).mono ?_
   rintro e w1 ⟨rfl, hA1, hm1⟩
   go_wp2_with fail
   refine (byte_any _ p ao len cap cs _ hA1).mono ?_
   rintro e w2 ⟨rfl, hA2, hm2⟩
   go_wp2_with fail
   refine (byte_any _ p ao len cap cs _ hA2).mono ?_
   rintro e w3 ⟨rfl, hA3, hm3⟩
   go_wp2_with fail
   refine (byte_any _ p ao len cap cs _ hA3).mono ?_
   rintro e w4 ⟨rfl, hA4, hm4⟩
   go_wp2_with fail
   go_ret
   rw [HV.out, HP.out]
   exact ⟨rfl, hA4, hm1.trans ((hm2.mono hm1.size).trans ((hm3.mono (Nat.le_trans hm1.size hm2.size)).trans (hm4.mono (Nat.le_trans hm1.size (Nat.le_trans hm2.size hm3.size)))))⟩
end Go.Proofs.YtnilgemgjlhibaaDoor
namespace Go.Proofs.YtnilgemgjlhibaaDoor
open Go.ChangeShapes Go.WideShapes Go.ChangeAt Go.RowKit Go.PlainAid
set_option linter.unusedVariables false
theorem and30 (x : Int) : 0 ≤ bits .and .i64 x 1073741823 ∧ bits .and .i64 x 1073741823 ≤ 1073741823 := by
 have e : bits .and .i64 x 1073741823 = IntKind.i64.wrap ((BitVec.ofInt 64 x &&& BitVec.ofInt 64 ((1073741823 : Nat) : Int)).toNat : Int) := rfl
 have m : ∀ y : Nat, y &&& 1073741823 = y % 1073741824 := fun y => Nat.and_two_pow_sub_one_eq_mod y 30
 rw [e, BitVec.toNat_and, ofInt_u64 1073741823 (by omega), m]
 have h : (BitVec.ofInt 64 x).toNat % 1073741824 < 1073741824 := Nat.mod_lt _ (by omega)
 rw [Lib.wrap_i64_small _ (by omega)]
 omega
def newH (len : Nat) (cs : Nat → Nat) : Nat → Int
 | 0 => 10101 + (len : Int)
 | k + 1 => bits .and .i64 (newH len cs k * 131 + (cs k : Int) + 7) 1073741823
theorem newH_bd (len : Nat) (cs : Nat → Nat) (hl : len ≤ 1048576) (k : Nat) : 0 ≤ newH len cs k ∧ newH len cs k ≤ 1073741823 := by
 cases k with
 | zero => simp only [newH]; omega
 | succ k => exact and30 _
def newP (len : Nat) (cs : Nat → Nat) : Pos := ⟨0, newH len cs (min len 4000)⟩
set_option maxHeartbeats 1000000 in
theorem new_some (w : World) (cb co len cap : Nat) (cs : Nat → Nat) (hl : len ≤ 1048576) (hc : ∀ j, j < len → cs j < 256 ∧ w.cell? ⟨cb, co + j, none⟩ = some (.int .u8 (cs j : Int))) :
  Calls Tryd.prog 14 #[.slice (some ⟨cb, co, none⟩) len cap] w fun e w' => e = .returned (.pointer (some ⟨w.heap.size, 0, none⟩)) ∧ w' = w.alloc (.cells #[.slice (some ⟨cb, co, none⟩) len cap, .int .i64 0, .int .i64 (newH len cs (min len 4000))] 68) := by
 have q1 : (len : Int) ≤ 1048576 := by omega
 have HC : Hid (∀ j, j < len → cs j < 256 ∧ w.cell? ⟨cb, co + j, none⟩ = some (.int .u8 (cs j : Int))) := hc
 clear hc
 go_enter Tryd.func14, Tryd.ntmps14
 go_wp2
 go_loop [3, 4] (fun v3 v4 => ∃ k : Nat, k ≤ len ∧ k ≤ 4000 ∧ v4 = .int .i64 k ∧ v3 = .int .i64 (newH len cs k)) (fun _ i => 4000 - (intOf i).toNat)
 case atStart => exact ⟨0, by omega, by omega, rfl, rfl⟩
 case round =>
  obtain ⟨k, hk, hk4, rfl, rfl⟩ := hrel
  have hb := newH_bd len cs hl k
  obtain ⟨hb1, hb2⟩ := hb
  by_cases hlt : (k : Int) < (len : Int)
  ·by_cases h4 : (k : Int) < 4000
   ·have hck := HC.out k (by omega)
    obtain ⟨hck1, hck2⟩ := hck
    go_wp2
    go_round
    case rel => exact ⟨k + 1, by omega, by omega, by go_num, rfl⟩
    case measure => simp [intOf]; omega
   ·have z : decide ((k : Int) < 4000) = false := by simp; omega
    have hkk : min len 4000 = k := by omega
    have HK : Hid (min len 4000 = k) := hkk
    clear hkk
    go_wp2
    go_ret
    exact ⟨rfl, by rw [HK.out]⟩
  ·have z : (len : Int) ≤ (k : Int) := by omega
   have hkk : min len 4000 = k := by omega
   have HK : Hid (min len 4000 = k) := hkk
   clear hkk
   go_wp2
   go_ret
   exact ⟨rfl, by rw [HK.out]⟩
set_option maxHeartbeats 1000000 in
theorem new_nil (w : World) (ao : Option Addr) (cap : Nat) (cs : Nat → Nat) :
  Calls Tryd.prog 14 #[.slice ao 0 cap] w fun e w' => e = .returned (.pointer (some ⟨w.heap.size, 0, none⟩)) ∧ w' = w.alloc (.cells #[.slice ao 0 cap, .int .i64 0, .int .i64 (newH 0 cs (min 0 4000))] 68) := by
 go_enter Tryd.func14, Tryd.ntmps14
 go_wp2
 refine wp_loop_rounds 1 ?_
 rw [rounds_succ]
 go_wp2
 go_ret
 exact ⟨rfl, rfl⟩
theorem new_any (w : World) (ao : Option Addr) (len cap : Nat) (cs : Nat → Nat) (hl : len ≤ 1048576) (h : CodeIs w w.heap.size ao len cs) :
  Calls Tryd.prog 14 #[.slice ao len cap] w fun e w' => e = .returned (.pointer (some ⟨w.heap.size, 0, none⟩)) ∧ At w' w.heap.size ao len cap cs (newP len cs) ∧ Below w.heap.size w w' := by
 have fin : ∀ (e : Ending) (w' : World), (e = .returned (.pointer (some ⟨w.heap.size, 0, none⟩)) ∧ w' = w.alloc (.cells #[.slice ao len cap, .int .i64 0, .int .i64 (newH len cs (min len 4000))] 68)) → e = .returned (.pointer (some ⟨w.heap.size, 0, none⟩)) ∧ At w' w.heap.size ao len cap cs (newP len cs) ∧ Below w.heap.size w w' := by
  rintro e w' ⟨he, rfl⟩
  have hb : Below w.heap.size w (w.alloc (.cells #[.slice ao len cap, .int .i64 0, .int .i64 (newH len cs (min len 4000))] 68)) := (Below.refl _ _).alloc (Nat.le_refl _) _
  refine ⟨he, ⟨heap_alloc_new w _, h.kept (Mod.of_below (p := w.heap.size) hb) (Nat.le_refl _), hl, Nat.zero_le _⟩, hb⟩
 have h' := h
 rcases h with rfl | ⟨cb, co, rfl, hcb, hj⟩
 ·exact (new_nil w ao cap cs).mono fin
 ·exact (new_some w cb co len cap cs hl hj).mono fin
end Go.Proofs.YtnilgemgjlhibaaDoor
namespace Go.Proofs.YtnilgemgjlhibaaDoor
open Go.ChangeShapes Go.WideShapes Go.ChangeAt Go.RowKit Go.PlainAid
set_option linter.unusedVariables false
set_option maxHeartbeats 400000 in
theorem once_any (w : World) (p : Nat) (ao : Option Addr) (len cap : Nat) (cs : Nat → Nat) (s : Pos) (n : Int) (hn : n ≤ 9223372036854775807) (h : At w p ao len cap cs s) :
  Calls Tryd.prog 32 #[.pointer (some ⟨p, 0, none⟩), .int .i64 n] w fun e w' => e = .returned (.bool (belowV len cs n s == 0)) ∧ At w' p ao len cap cs (belowP len n s) ∧ Mod w.heap.size p w w' := by
 have HA : Hid (At w p ao len cap cs s) := h
 clear h
 go_enter Tryd.func32, Tryd.ntmps32
 go_wp2_with fail
 refine (below_any _ p ao len cap cs s n hn HA.out).mono ?_
 rintro e w1 ⟨rfl, hA1, hm1⟩
 go_wp2_with fail
 go_ret
 exact ⟨rfl, hA1, hm1⟩
end Go.Proofs.YtnilgemgjlhibaaDoor
