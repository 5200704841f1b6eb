/- SnRead RvHas RvDef RvRes WkEq StrLaw -/
import Derived.Test.YtdimaoloapbeoaaGreatDoorRows
import Derived.Test.YtdimaoloapbeoaaGreatDoorQv22
import Derived.Test.YtdimaoloapbeoaaGreatDoorQv2
import Derived.Test.YtdimaoloapbeoaaGreatDoorQv0
import Derived.Test.YtdimaoloapbeoaaGreatDoorQv10
import Derived.Test.YtdimaoloapbeoaaGreatDoorQv21
import Derived.WalkKit
import Derived.ProofKit
import Derived.Below
import Derived.Test.YtdimaoloapbeoaaGreatDoorQv17
import Derived.Deep.RegionWith
import Derived.OpenShut
import Derived.WalkSmall
import Derived.WalkLawsBesides
import Derived.Outline
import Derived.BigQuiet
import Derived.Deep.QuietTactic
namespace Go.Proofs.YtdimaoloapbeoaaGreatDoor
open Go.ChangeShapes Go.WideShapes Go.ChangeAt Go.RowKit Go.PlainAid
set_option linter.unusedVariables false
def snOf (s : ByteArray) : Snp := ⟨(rdv (bodyOf s) 4 : Int), (rdv ((bodyOf s).extract 4 (bodyOf s).size) 4 : Int), s.extract (8 + rdv s 4) s.size⟩
def readSn (s : ByteArray) : Value := if code s = 0 ∧ (bodyOf s).size = 16 ∧ showSn (snOf s) = s then .tuple #[vSnp (snOf s), .bool true] else .tuple #[.agg #[.int .i64 0, .int .i64 0, .string ⟨#[]⟩], .bool false]
theorem Cell3.of {w : World} {g : Nat} {x : Snp} {t : TypeId} (h : Blk w g #[.int .i64 x.index, .int .i64 x.term, .string x.data] t) : Cell3 w g x := ⟨h.cell 0 _ rfl, h.cell 1 _ rfl, h.cell 2 _ rfl, h.lt⟩
theorem spec_rf (b : ByteArray) (hs : b.size ≤ maxLen) : ∃ (i : Int) (ok : Bool), ∀ wx, Calls Tryz.prog 55 #[.string b, .int .i64 4] wx fun e w' => e = .returned (.tuple #[.int .i64 i, .bool ok]) ∧ wx = w' := by
 by_cases h : 4 ≤ b.size
 ·exact ⟨_, _, fun wx => spec_readFixed b 4 wx hs (by omega) (by omega) h⟩
 ·exact ⟨_, _, fun wx => spec_readFixed_no b 4 wx hs (by omega)⟩
theorem show_long (x : Snp) (s : ByteArray) (h : 30000 < x.data.size) (hs : 0 < s.size) : showSn x ≠ s := by
 intro e
 unfold showSn at e
 cases ho : isSn x
 ·rw [ho] at e
  rw [← e] at hs
  cases hs
 ·have := (isSn_in x ho).2.2.2.2
  omega
set_option maxHeartbeats 4000000 in
theorem implReadSnap (s : ByteArray) (w : World) (hs : s.size ≤ 1048576) (ht : SumTab w) (a0 a1 a2 : Addr) (he : Errs w a0 a1 a2) : Calls Tryz.prog 69 #[.string s] w fun e w' => e = .returned (readSn s) ∧ Below w.heap.size w w' := by
 have HT : Hid (SumTab w) := ht
 have HE : Hid (Errs w a0 a1 a2) := he
 clear ht he
 have c1 := fun wx ht he => impl_unframe s wx hs ht a0 a1 a2 he
 have B0 : Hid (Below w.heap.size w (w.alloc (.cells #[.int .i64 0, .int .i64 0, .string ⟨#[]⟩] 32))) := below_one w _
 have K0 : Hid (Blk (w.alloc (.cells #[.int .i64 0, .int .i64 0, .string ⟨#[]⟩] 32)) w.heap.size #[.int .i64 0, .int .i64 0, .string ⟨#[]⟩] 32) := Blk.new w _ _
 have HR : Hid (readSn s = if code s = 0 ∧ (bodyOf s).size = 16 ∧ showSn (snOf s) = s then .tuple #[vSnp (snOf s), .bool true] else .tuple #[.agg #[.int .i64 0, .int .i64 0, .string ⟨#[]⟩], .bool false]) := rfl
 have HU : Hid (unf s = if code s = 0 then #[.string (bodyOf s), .int .i64 ((8 + rdv s 4 : Nat) : Int), .int .i64 0] else #[.string ⟨#[]⟩, .int .i64 0, .int .i64 (code s : Int)]) := rfl
 by_cases hc : code s = 0
 ·rw [if_pos hc] at HU
  rw [HU.out] at c1
  obtain ⟨h4, h1, h2, h8, _⟩ := (code_zero s).1 hc
  have hb := bodyOf_size s h8
  have HC : Hid (code s = 0) := hc
  by_cases h16 : (bodyOf s).size = 16
  ·have H16 : Hid ((bodyOf s).size = 16) := h16
   have HO : Hid (snOf s = ⟨(rdv (bodyOf s) 4 : Int), (rdv ((bodyOf s).extract 4 (bodyOf s).size) 4 : Int), s.extract (8 + rdv s 4) s.size⟩) := rfl
   have e16 : ((bodyOf s).extract 4 (bodyOf s).size).size = 12 := by rw [ByteArray.size_extract]; omega
   have cA := fun wx => impl_readFixed (bodyOf s) 4 wx (by unfold maxLen; omega) (by omega) (by omega) (by omega)
   have cB := fun wx => impl_readFixed ((bodyOf s).extract 4 (bodyOf s).size) 4 wx (by unfold maxLen; omega) (by omega) (by omega) (by omega)
   have hds : (s.extract (8 + rdv s 4) s.size).size = s.size - (8 + rdv s 4) := by rw [ByteArray.size_extract]; omega
   have cS : ∀ wx, SumTab wx → Calls Tryz.prog 106 #[.agg #[.int .i64 (rdv (bodyOf s) 4 : Int), .int .i64 (rdv ((bodyOf s).extract 4 (bodyOf s).size) 4 : Int), .string (s.extract (8 + rdv s 4) s.size)]] wx fun e w' => e = .returned (.string (showSn (snOf s))) ∧ Below wx.heap.size wx w' := fun wx h => implShowSnap (snOf s) wx (by rw [HO.out]; simp only; unfold maxLen; omega) h
   have cN := fun wx => clone (s.extract (8 + rdv s 4) s.size) wx (by omega)
   have q1 : (s.size : Int) ≤ 1048576 := by omega
   have q2 : ((8 + rdv s 4 : Nat) : Int) ≤ (s.size : Int) := by omega
   have q3 : ((bodyOf s).size : Int) = 16 := by omega
   have q4 : (4 : Int) ≤ ((bodyOf s).size : Int) := by omega
   have hne2 := toList_beq (showSn (snOf s)) s
   clear h4 h1 h2 h8 hb h16 hs e16
   generalize rdv ((bodyOf s).extract 4 (bodyOf s).size) 4 = tn at *
   generalize rdv (bodyOf s) 4 = jn at *
   generalize 8 + rdv s 4 = n at *
   generalize bodyOf s = b at *
   generalize hdd : s.extract n s.size = d at *
   have HX : Hid (vSnp (snOf s) = .agg #[.int .i64 (jn : Int), .int .i64 (tn : Int), .string d]) := by unfold Hid; rw [HO.out]; rfl
   generalize snOf s = x at *
   clear HO hc
   go_enter Tryz.func69, Tryz.ntmps69
   go_wp2_with fail
   generalize w.alloc (.cells #[.int .i64 0, .int .i64 0, .string ⟨#[]⟩] 32) = W at *
   refine (c1 W (HT.out.on B0.out) (HE.out.on B0.out)).mono ?_
   rintro e w1 ⟨rfl, hb1⟩
   have B1 : Hid (Below w.heap.size w w1) := B0.out.trans (hb1.mono B0.out.size)
   have K1 : Hid (Blk w1 w.heap.size #[.int .i64 0, .int .i64 0, .string ⟨#[]⟩] 32) := K0.out.on hb1 K0.out.lt
   clear hb1 c1 B0 K0
   go_wp2_with fail
   refine (cA _).mono ?_
   rintro e w' ⟨rfl, rfl⟩
   go_wp2_with fail
   refine (cB _).mono ?_
   rintro e w' ⟨rfl, rfl⟩
   go_wp2_with fail
   refine (cN _).mono ?_
   rintro e w2 ⟨rfl, hb2⟩
   have B2 : Hid (Below w.heap.size w w2) := B1.out.trans (hb2.mono B1.out.size)
   have K2 : Hid (Blk w2 w.heap.size #[.int .i64 0, .int .i64 0, .string ⟨#[]⟩] 32) := K1.out.on hb2 K1.out.lt
   clear hb2 B1 K1
   go_wp2_with fail
   have B3 : Hid (Below w.heap.size w (w2.alloc (.cells #[.int .i64 (jn : Int), .int .i64 (tn : Int), .string d] 32))) := B2.out.alloc B2.out.size _
   have K3 : Hid (Blk (w2.alloc (.cells #[.int .i64 (jn : Int), .int .i64 (tn : Int), .string d] 32)) w.heap.size #[.int .i64 0, .int .i64 0, .string ⟨#[]⟩] 32) := K2.out.alloc _
   have L3 : Hid (Blk (w2.alloc (.cells #[.int .i64 (jn : Int), .int .i64 (tn : Int), .string d] 32)) w2.heap.size #[.int .i64 (jn : Int), .int .i64 (tn : Int), .string d] 32) := Blk.new _ _ _
   clear B2 K2
   generalize w2.alloc (.cells #[.int .i64 (jn : Int), .int .i64 (tn : Int), .string d] 32) = w3 at *
   generalize w2.heap.size = gs at *
   refine (cS w3 (HT.out.on B3.out)).mono ?_
   rintro e w4 ⟨rfl, hb4⟩
   have B4 : Hid (Below w.heap.size w w4) := B3.out.trans (hb4.mono B3.out.size)
   have K4 : Hid (Blk w4 w.heap.size #[.int .i64 0, .int .i64 0, .string ⟨#[]⟩] 32) := K3.out.on hb4 K3.out.lt
   have L4 : Hid (Blk w4 gs #[.int .i64 (jn : Int), .int .i64 (tn : Int), .string d] 32) := L3.out.on hb4 L3.out.lt
   clear hb4 B3 K3 L3
   by_cases hq : showSn x = s
   ·have HV : Hid (readSn s = .tuple #[.agg #[.int .i64 (jn : Int), .int .i64 (tn : Int), .string d], .bool true]) := by unfold Hid; rw [HR.out, if_pos ⟨HC.out, H16.out, hq⟩, HX.out]
    rw [hq] at hne2 ⊢
    clear hq
    have e0 := L4.out.cell 0 (.int .i64 (jn : Int)) rfl
    have e1 := L4.out.cell 1 (.int .i64 (tn : Int)) rfl
    have e2 := L4.out.cell 2 (.string d) rfl
    have r0 := K4.out.cell 0 (.int .i64 0) rfl
    have g0 := K4.out.free 0
    have r1 := K4.out.cell 1 (.int .i64 0) rfl
    have g1 := K4.out.free 1
    have r2 := K4.out.cell 2 (.string ⟨#[]⟩) rfl
    have g2 := K4.out.free 2
    go_wp2_with fail
    have hF := (((K4.out.set 0 (.int .i64 (jn : Int))).set 1 (.int .i64 (tn : Int))).set 2 (.string d))
    have FB := (((B4.out.setCell (Nat.le_refl _) (.int .i64 (jn : Int)) (p := ⟨_, 0, none⟩)).setCell (Nat.le_refl _) (.int .i64 (tn : Int)) (p := ⟨_, 1, none⟩)).setCell (Nat.le_refl _) (.string d) (p := ⟨_, 2, none⟩))
    clear e0 e1 e2 r0 r1 r2 g0 g1 g2
    generalize (((w4.setCell ⟨w.heap.size, 0, none⟩ (.int .i64 (jn : Int))).setCell ⟨w.heap.size, 1, none⟩ (.int .i64 (tn : Int))).setCell ⟨w.heap.size, 2, none⟩ (.string d)) = WF at *
    have hG : Blk WF w.heap.size #[.int .i64 (jn : Int), .int .i64 (tn : Int), .string d] 32 := hF
    have m0 := hG.cell 0 (.int .i64 (jn : Int)) rfl
    have m1 := hG.cell 1 (.int .i64 (tn : Int)) rfl
    have m2 := hG.cell 2 (.string d) rfl
    rw [HV.out]
    exact bodyPost_ret (v := .tuple #[.agg #[.int .i64 (jn : Int), .int .i64 (tn : Int), .string d], .bool true]) (by simp [results, go_sem, m0, m1, m2]) rfl ⟨rfl, FB⟩
   ·have HV : Hid (readSn s = .tuple #[.agg #[.int .i64 0, .int .i64 0, .string ⟨#[]⟩], .bool false]) := by unfold Hid; rw [HR.out, if_neg (fun h => hq h.2.2)]
    rw [decide_eq_false hq] at hne2
    clear hq
    generalize showSn x = y at *
    have r0 := K4.out.cell 0 (.int .i64 0) rfl
    have g0 := K4.out.free 0
    have r1 := K4.out.cell 1 (.int .i64 0) rfl
    have g1 := K4.out.free 1
    have r2 := K4.out.cell 2 (.string ⟨#[]⟩) rfl
    have g2 := K4.out.free 2
    go_wp2_with fail
    have hF := (((K4.out.set 0 (.int .i64 0)).set 1 (.int .i64 0)).set 2 (.string ⟨#[]⟩))
    have FB := (((B4.out.setCell (Nat.le_refl _) (.int .i64 0) (p := ⟨_, 0, none⟩)).setCell (Nat.le_refl _) (.int .i64 0) (p := ⟨_, 1, none⟩)).setCell (Nat.le_refl _) (.string ⟨#[]⟩) (p := ⟨_, 2, none⟩))
    clear  r0 r1 r2 g0 g1 g2
    generalize (((w4.setCell ⟨w.heap.size, 0, none⟩ (.int .i64 0)).setCell ⟨w.heap.size, 1, none⟩ (.int .i64 0)).setCell ⟨w.heap.size, 2, none⟩ (.string ⟨#[]⟩)) = WF at *
    have hG : Blk WF w.heap.size #[.int .i64 0, .int .i64 0, .string ⟨#[]⟩] 32 := hF
    have m0 := hG.cell 0 (.int .i64 0) rfl
    have m1 := hG.cell 1 (.int .i64 0) rfl
    have m2 := hG.cell 2 (.string ⟨#[]⟩) rfl
    rw [HV.out]
    exact bodyPost_ret (v := .tuple #[.agg #[.int .i64 0, .int .i64 0, .string ⟨#[]⟩], .bool false]) (by simp [results, go_sem, m0, m1, m2]) rfl ⟨rfl, FB⟩
  ·have HV : Hid (readSn s = .tuple #[.agg #[.int .i64 0, .int .i64 0, .string ⟨#[]⟩], .bool false]) := by unfold Hid; rw [HR.out, if_neg (fun h => h16 h.2.1)]
   have z1 : (((bodyOf s).size : Int) == 16) = false := by rw [beq_eq_false_iff_ne]; omega
   have z2 : ¬ ((bodyOf s).size : Int) = 16 := by omega
   have q1 : ((bodyOf s).size : Int) ≤ 9223372036854775807 := by omega
   clear h4 h1 h2 h8 hb h16 hs hc
   generalize 8 + rdv s 4 = n at *
   generalize bodyOf s = b at *
   go_enter Tryz.func69, Tryz.ntmps69
   go_wp2_with fail
   generalize w.alloc (.cells #[.int .i64 0, .int .i64 0, .string ⟨#[]⟩] 32) = W at *
   refine (c1 W (HT.out.on B0.out) (HE.out.on B0.out)).mono ?_
   rintro e w1 ⟨rfl, hb1⟩
   have B1 : Hid (Below w.heap.size w w1) := B0.out.trans (hb1.mono B0.out.size)
   have K1 : Hid (Blk w1 w.heap.size #[.int .i64 0, .int .i64 0, .string ⟨#[]⟩] 32) := K0.out.on hb1 K0.out.lt
   clear hb1 c1 B0 K0
   have r0 := K1.out.cell 0 (.int .i64 0) rfl
   have g0 := K1.out.free 0
   have r1 := K1.out.cell 1 (.int .i64 0) rfl
   have g1 := K1.out.free 1
   have r2 := K1.out.cell 2 (.string ⟨#[]⟩) rfl
   have g2 := K1.out.free 2
   go_wp2_with fail
   have hF := (((K1.out.set 0 (.int .i64 0)).set 1 (.int .i64 0)).set 2 (.string ⟨#[]⟩))
   have FB := (((B1.out.setCell (Nat.le_refl _) (.int .i64 0) (p := ⟨_, 0, none⟩)).setCell (Nat.le_refl _) (.int .i64 0) (p := ⟨_, 1, none⟩)).setCell (Nat.le_refl _) (.string ⟨#[]⟩) (p := ⟨_, 2, none⟩))
   clear  r0 r1 r2 g0 g1 g2
   generalize (((w1.setCell ⟨w.heap.size, 0, none⟩ (.int .i64 0)).setCell ⟨w.heap.size, 1, none⟩ (.int .i64 0)).setCell ⟨w.heap.size, 2, none⟩ (.string ⟨#[]⟩)) = WF at *
   have hG : Blk WF w.heap.size #[.int .i64 0, .int .i64 0, .string ⟨#[]⟩] 32 := hF
   have m0 := hG.cell 0 (.int .i64 0) rfl
   have m1 := hG.cell 1 (.int .i64 0) rfl
   have m2 := hG.cell 2 (.string ⟨#[]⟩) rfl
   rw [HV.out]
   exact bodyPost_ret (v := .tuple #[.agg #[.int .i64 0, .int .i64 0, .string ⟨#[]⟩], .bool false]) (by simp [results, go_sem, m0, m1, m2]) rfl ⟨rfl, FB⟩
 ·rw [if_neg hc] at HU
  rw [HU.out] at c1
  have HV : Hid (readSn s = .tuple #[.agg #[.int .i64 0, .int .i64 0, .string ⟨#[]⟩], .bool false]) := by unfold Hid; rw [HR.out, if_neg (fun h => hc h.1)]
  have z1 : ((code s : Int) == 0) = false := by rw [beq_eq_false_iff_ne]; omega
  have z2 : ¬ (code s : Int) = 0 := by omega
  clear hc hs
  generalize code s = cd at *
  go_enter Tryz.func69, Tryz.ntmps69
  go_wp2_with fail
  generalize w.alloc (.cells #[.int .i64 0, .int .i64 0, .string ⟨#[]⟩] 32) = W at *
  refine (c1 W (HT.out.on B0.out) (HE.out.on B0.out)).mono ?_
  rintro e w1 ⟨rfl, hb1⟩
  have B1 : Hid (Below w.heap.size w w1) := B0.out.trans (hb1.mono B0.out.size)
  have K1 : Hid (Blk w1 w.heap.size #[.int .i64 0, .int .i64 0, .string ⟨#[]⟩] 32) := K0.out.on hb1 K0.out.lt
  clear hb1 c1 B0 K0
  have r0 := K1.out.cell 0 (.int .i64 0) rfl
  have g0 := K1.out.free 0
  have r1 := K1.out.cell 1 (.int .i64 0) rfl
  have g1 := K1.out.free 1
  have r2 := K1.out.cell 2 (.string ⟨#[]⟩) rfl
  have g2 := K1.out.free 2
  go_wp2_with fail
  have hF := (((K1.out.set 0 (.int .i64 0)).set 1 (.int .i64 0)).set 2 (.string ⟨#[]⟩))
  have FB := (((B1.out.setCell (Nat.le_refl _) (.int .i64 0) (p := ⟨_, 0, none⟩)).setCell (Nat.le_refl _) (.int .i64 0) (p := ⟨_, 1, none⟩)).setCell (Nat.le_refl _) (.string ⟨#[]⟩) (p := ⟨_, 2, none⟩))
  clear  r0 r1 r2 g0 g1 g2
  generalize (((w1.setCell ⟨w.heap.size, 0, none⟩ (.int .i64 0)).setCell ⟨w.heap.size, 1, none⟩ (.int .i64 0)).setCell ⟨w.heap.size, 2, none⟩ (.string ⟨#[]⟩)) = WF at *
  have hG : Blk WF w.heap.size #[.int .i64 0, .int .i64 0, .string ⟨#[]⟩] 32 := hF
  have m0 := hG.cell 0 (.int .i64 0) rfl
  have m1 := hG.cell 1 (.int .i64 0) rfl
  have m2 := hG.cell 2 (.string ⟨#[]⟩) rfl
  rw [HV.out]
  exact bodyPost_ret (v := .tuple #[.agg #[.int .i64 0, .int .i64 0, .string ⟨#[]⟩], .bool false]) (by simp [results, go_sem, m0, m1, m2]) rfl ⟨rfl, FB⟩
set_option maxHeartbeats 4000000 in
theorem specReadSnap (s : ByteArray) (w : World) (hs : s.size ≤ 1048576) : Calls Tryz.prog 19 #[.string s] w fun e w' => e = .returned (readSn s) ∧ Below w.heap.size w w' := by
 have c1 := fun wx => spec_unframe s wx hs
 have B0 : Hid (Below w.heap.size w (w.alloc (.cells #[.int .i64 0, .int .i64 0, .string ⟨#[]⟩] 32))) := below_one w _
 have K0 : Hid (Blk (w.alloc (.cells #[.int .i64 0, .int .i64 0, .string ⟨#[]⟩] 32)) w.heap.size #[.int .i64 0, .int .i64 0, .string ⟨#[]⟩] 32) := Blk.new w _ _
 have HR : Hid (readSn s = if code s = 0 ∧ (bodyOf s).size = 16 ∧ showSn (snOf s) = s then .tuple #[vSnp (snOf s), .bool true] else .tuple #[.agg #[.int .i64 0, .int .i64 0, .string ⟨#[]⟩], .bool false]) := rfl
 have HU : Hid (unf s = if code s = 0 then #[.string (bodyOf s), .int .i64 ((8 + rdv s 4 : Nat) : Int), .int .i64 0] else #[.string ⟨#[]⟩, .int .i64 0, .int .i64 (code s : Int)]) := rfl
 by_cases hc : code s = 0
 ·rw [if_pos hc] at HU
  rw [HU.out] at c1
  obtain ⟨h4, h1, h2, h8, _⟩ := (code_zero s).1 hc
  have hb := bodyOf_size s h8
  have HC : Hid (code s = 0) := hc
  by_cases h16 : (bodyOf s).size = 16
  ·have H16 : Hid ((bodyOf s).size = 16) := h16
   have HO : Hid (snOf s = ⟨(rdv (bodyOf s) 4 : Int), (rdv ((bodyOf s).extract 4 (bodyOf s).size) 4 : Int), s.extract (8 + rdv s 4) s.size⟩) := rfl
   have e16 : ((bodyOf s).extract 4 (bodyOf s).size).size = 12 := by rw [ByteArray.size_extract]; omega
   have cA := fun wx => spec_readFixed (bodyOf s) 4 wx (by unfold maxLen; omega) (by omega) (by omega) (by omega)
   have cB := fun wx => spec_readFixed ((bodyOf s).extract 4 (bodyOf s).size) 4 wx (by unfold maxLen; omega) (by omega) (by omega) (by omega)
   have hds : (s.extract (8 + rdv s 4) s.size).size = s.size - (8 + rdv s 4) := by rw [ByteArray.size_extract]; omega
   have cS : ∀ wx, Calls Tryz.prog 56 #[.agg #[.int .i64 (rdv (bodyOf s) 4 : Int), .int .i64 (rdv ((bodyOf s).extract 4 (bodyOf s).size) 4 : Int), .string (s.extract (8 + rdv s 4) s.size)]] wx fun e w' => e = .returned (.string (showSn (snOf s))) ∧ Below wx.heap.size wx w' := fun wx => specShowSnap (snOf s) wx (by rw [HO.out]; simp only; unfold maxLen; omega)
   have HD : Hid (30000 < s.size - (8 + rdv s 4) → showSn (snOf s) ≠ s) := fun h => show_long _ _ (by rw [HO.out]; simp only; omega) (by omega)
   have q1 : (s.size : Int) ≤ 1048576 := by omega
   have q2 : ((8 + rdv s 4 : Nat) : Int) ≤ (s.size : Int) := by omega
   have q3 : ((bodyOf s).size : Int) = 16 := by omega
   have q4 : (4 : Int) ≤ ((bodyOf s).size : Int) := by omega
   have hne2 := toList_beq (showSn (snOf s)) s
   clear h4 h1 h2 h8 hb h16 hs e16
   generalize rdv ((bodyOf s).extract 4 (bodyOf s).size) 4 = tn at *
   generalize rdv (bodyOf s) 4 = jn at *
   generalize 8 + rdv s 4 = n at *
   generalize bodyOf s = b at *
   generalize hdd : s.extract n s.size = d at *
   have HX : Hid (vSnp (snOf s) = .agg #[.int .i64 (jn : Int), .int .i64 (tn : Int), .string d]) := by unfold Hid; rw [HO.out]; rfl
   generalize snOf s = x at *
   clear HO hc
   by_cases hlong : 30000 < s.size - n
   ·have HV : Hid (readSn s = .tuple #[.agg #[.int .i64 0, .int .i64 0, .string ⟨#[]⟩], .bool false]) := by unfold Hid; rw [HR.out, if_neg (fun h => HD.out hlong h.2.2)]
    have q5 : wrap64 ((s.size : Int) - (n : Int)) = (s.size : Int) - (n : Int) := by unfold wrap64; omega
    have q6 : (30000 : Int) < (s.size : Int) - (n : Int) := by omega
    clear hlong
    go_enter Tryz.func19, Tryz.ntmps19
    go_wp2_with fail
    generalize w.alloc (.cells #[.int .i64 0, .int .i64 0, .string ⟨#[]⟩] 32) = W at *
    refine (c1 W).mono ?_
    rintro e w1 ⟨rfl, hb1⟩
    have B1 : Hid (Below w.heap.size w w1) := B0.out.trans (hb1.mono B0.out.size)
    have K1 : Hid (Blk w1 w.heap.size #[.int .i64 0, .int .i64 0, .string ⟨#[]⟩] 32) := K0.out.on hb1 K0.out.lt
    clear hb1 c1 B0 K0
    go_wp2_with fail
    refine (cA _).mono ?_
    rintro e w' ⟨rfl, rfl⟩
    have r0 := K1.out.cell 0 (.int .i64 0) rfl
    have g0 := K1.out.free 0
    have r1 := K1.out.cell 1 (.int .i64 0) rfl
    have g1 := K1.out.free 1
    have r2 := K1.out.cell 2 (.string ⟨#[]⟩) rfl
    have g2 := K1.out.free 2
    go_wp2_with fail
    have hF := (((K1.out.set 0 (.int .i64 0)).set 1 (.int .i64 0)).set 2 (.string ⟨#[]⟩))
    have FB := (((B1.out.setCell (Nat.le_refl _) (.int .i64 0) (p := ⟨_, 0, none⟩)).setCell (Nat.le_refl _) (.int .i64 0) (p := ⟨_, 1, none⟩)).setCell (Nat.le_refl _) (.string ⟨#[]⟩) (p := ⟨_, 2, none⟩))
    clear  r0 r1 r2 g0 g1 g2
    generalize (((w1.setCell ⟨w.heap.size, 0, none⟩ (.int .i64 0)).setCell ⟨w.heap.size, 1, none⟩ (.int .i64 0)).setCell ⟨w.heap.size, 2, none⟩ (.string ⟨#[]⟩)) = WF at *
    have hG : Blk WF w.heap.size #[.int .i64 0, .int .i64 0, .string ⟨#[]⟩] 32 := hF
    have m0 := hG.cell 0 (.int .i64 0) rfl
    have m1 := hG.cell 1 (.int .i64 0) rfl
    have m2 := hG.cell 2 (.string ⟨#[]⟩) rfl
    rw [HV.out]
    exact bodyPost_ret (v := .tuple #[.agg #[.int .i64 0, .int .i64 0, .string ⟨#[]⟩], .bool false]) (by simp [results, go_sem, m0, m1, m2]) rfl ⟨rfl, FB⟩
   have q5 : wrap64 ((s.size : Int) - (n : Int)) = (s.size : Int) - (n : Int) := by unfold wrap64; omega
   have q6 : (s.size : Int) - (n : Int) ≤ 30000 := by omega
   have q7 : decide ((30000 : Int) < (s.size : Int) - (n : Int)) = false := decide_eq_false (by omega)
   clear hlong HD
   go_enter Tryz.func19, Tryz.ntmps19
   go_wp2_with fail
   generalize w.alloc (.cells #[.int .i64 0, .int .i64 0, .string ⟨#[]⟩] 32) = W at *
   refine (c1 W).mono ?_
   rintro e w1 ⟨rfl, hb1⟩
   have B1 : Hid (Below w.heap.size w w1) := B0.out.trans (hb1.mono B0.out.size)
   have K1 : Hid (Blk w1 w.heap.size #[.int .i64 0, .int .i64 0, .string ⟨#[]⟩] 32) := K0.out.on hb1 K0.out.lt
   clear hb1 c1 B0 K0
   go_wp2_with fail
   refine (cA _).mono ?_
   rintro e w' ⟨rfl, rfl⟩
   go_wp2_with fail
   refine (cB _).mono ?_
   rintro e w' ⟨rfl, rfl⟩
   go_wp2_with fail
   have B3 : Hid (Below w.heap.size w (w1.alloc (.cells #[.int .i64 (jn : Int), .int .i64 (tn : Int), .string d] 32))) := B1.out.alloc B1.out.size _
   have K3 : Hid (Blk (w1.alloc (.cells #[.int .i64 (jn : Int), .int .i64 (tn : Int), .string d] 32)) w.heap.size #[.int .i64 0, .int .i64 0, .string ⟨#[]⟩] 32) := K1.out.alloc _
   have L3 : Hid (Blk (w1.alloc (.cells #[.int .i64 (jn : Int), .int .i64 (tn : Int), .string d] 32)) w1.heap.size #[.int .i64 (jn : Int), .int .i64 (tn : Int), .string d] 32) := Blk.new _ _ _
   clear B1 K1
   generalize w1.alloc (.cells #[.int .i64 (jn : Int), .int .i64 (tn : Int), .string d] 32) = w3 at *
   generalize w1.heap.size = gs at *
   refine (cS w3).mono ?_
   rintro e w4 ⟨rfl, hb4⟩
   have B4 : Hid (Below w.heap.size w w4) := B3.out.trans (hb4.mono B3.out.size)
   have K4 : Hid (Blk w4 w.heap.size #[.int .i64 0, .int .i64 0, .string ⟨#[]⟩] 32) := K3.out.on hb4 K3.out.lt
   have L4 : Hid (Blk w4 gs #[.int .i64 (jn : Int), .int .i64 (tn : Int), .string d] 32) := L3.out.on hb4 L3.out.lt
   clear hb4 B3 K3 L3
   by_cases hq : showSn x = s
   ·have HV : Hid (readSn s = .tuple #[.agg #[.int .i64 (jn : Int), .int .i64 (tn : Int), .string d], .bool true]) := by unfold Hid; rw [HR.out, if_pos ⟨HC.out, H16.out, hq⟩, HX.out]
    rw [hq] at hne2 ⊢
    clear hq
    have e0 := L4.out.cell 0 (.int .i64 (jn : Int)) rfl
    have e1 := L4.out.cell 1 (.int .i64 (tn : Int)) rfl
    have e2 := L4.out.cell 2 (.string d) rfl
    have r0 := K4.out.cell 0 (.int .i64 0) rfl
    have g0 := K4.out.free 0
    have r1 := K4.out.cell 1 (.int .i64 0) rfl
    have g1 := K4.out.free 1
    have r2 := K4.out.cell 2 (.string ⟨#[]⟩) rfl
    have g2 := K4.out.free 2
    go_wp2_with fail
    have hF := (((K4.out.set 0 (.int .i64 (jn : Int))).set 1 (.int .i64 (tn : Int))).set 2 (.string d))
    have FB := (((B4.out.setCell (Nat.le_refl _) (.int .i64 (jn : Int)) (p := ⟨_, 0, none⟩)).setCell (Nat.le_refl _) (.int .i64 (tn : Int)) (p := ⟨_, 1, none⟩)).setCell (Nat.le_refl _) (.string d) (p := ⟨_, 2, none⟩))
    clear e0 e1 e2 r0 r1 r2 g0 g1 g2
    generalize (((w4.setCell ⟨w.heap.size, 0, none⟩ (.int .i64 (jn : Int))).setCell ⟨w.heap.size, 1, none⟩ (.int .i64 (tn : Int))).setCell ⟨w.heap.size, 2, none⟩ (.string d)) = WF at *
    have hG : Blk WF w.heap.size #[.int .i64 (jn : Int), .int .i64 (tn : Int), .string d] 32 := hF
    have m0 := hG.cell 0 (.int .i64 (jn : Int)) rfl
    have m1 := hG.cell 1 (.int .i64 (tn : Int)) rfl
    have m2 := hG.cell 2 (.string d) rfl
    rw [HV.out]
    exact bodyPost_ret (v := .tuple #[.agg #[.int .i64 (jn : Int), .int .i64 (tn : Int), .string d], .bool true]) (by simp [results, go_sem, m0, m1, m2]) rfl ⟨rfl, FB⟩
   ·have HV : Hid (readSn s = .tuple #[.agg #[.int .i64 0, .int .i64 0, .string ⟨#[]⟩], .bool false]) := by unfold Hid; rw [HR.out, if_neg (fun h => hq h.2.2)]
    rw [decide_eq_false hq] at hne2
    clear hq
    generalize showSn x = y at *
    have r0 := K4.out.cell 0 (.int .i64 0) rfl
    have g0 := K4.out.free 0
    have r1 := K4.out.cell 1 (.int .i64 0) rfl
    have g1 := K4.out.free 1
    have r2 := K4.out.cell 2 (.string ⟨#[]⟩) rfl
    have g2 := K4.out.free 2
    go_wp2_with fail
    have hF := (((K4.out.set 0 (.int .i64 0)).set 1 (.int .i64 0)).set 2 (.string ⟨#[]⟩))
    have FB := (((B4.out.setCell (Nat.le_refl _) (.int .i64 0) (p := ⟨_, 0, none⟩)).setCell (Nat.le_refl _) (.int .i64 0) (p := ⟨_, 1, none⟩)).setCell (Nat.le_refl _) (.string ⟨#[]⟩) (p := ⟨_, 2, none⟩))
    clear  r0 r1 r2 g0 g1 g2
    generalize (((w4.setCell ⟨w.heap.size, 0, none⟩ (.int .i64 0)).setCell ⟨w.heap.size, 1, none⟩ (.int .i64 0)).setCell ⟨w.heap.size, 2, none⟩ (.string ⟨#[]⟩)) = WF at *
    have hG : Blk WF w.heap.size #[.int .i64 0, .int .i64 0, .string ⟨#[]⟩] 32 := hF
    have m0 := hG.cell 0 (.int .i64 0) rfl
    have m1 := hG.cell 1 (.int .i64 0) rfl
    have m2 := hG.cell 2 (.string ⟨#[]⟩) rfl
    rw [HV.out]
    exact bodyPost_ret (v := .tuple #[.agg #[.int .i64 0, .int .i64 0, .string ⟨#[]⟩], .bool false]) (by simp [results, go_sem, m0, m1, m2]) rfl ⟨rfl, FB⟩
  ·have HV : Hid (readSn s = .tuple #[.agg #[.int .i64 0, .int .i64 0, .string ⟨#[]⟩], .bool false]) := by unfold Hid; rw [HR.out, if_neg (fun h => h16 h.2.1)]
   have z1 : (((bodyOf s).size : Int) == 16) = false := by rw [beq_eq_false_iff_ne]; omega
   have z2 : ¬ ((bodyOf s).size : Int) = 16 := by omega
   have q1 : ((bodyOf s).size : Int) ≤ 9223372036854775807 := by omega
   obtain ⟨ii, ok, cA⟩ := spec_rf (bodyOf s) (by unfold maxLen; omega)
   clear h4 h1 h2 h8 hb h16 hs hc
   generalize 8 + rdv s 4 = n at *
   generalize bodyOf s = b at *
   go_enter Tryz.func19, Tryz.ntmps19
   go_wp2_with fail
   generalize w.alloc (.cells #[.int .i64 0, .int .i64 0, .string ⟨#[]⟩] 32) = W at *
   refine (c1 W).mono ?_
   rintro e w1 ⟨rfl, hb1⟩
   have B1 : Hid (Below w.heap.size w w1) := B0.out.trans (hb1.mono B0.out.size)
   have K1 : Hid (Blk w1 w.heap.size #[.int .i64 0, .int .i64 0, .string ⟨#[]⟩] 32) := K0.out.on hb1 K0.out.lt
   clear hb1 c1 B0 K0
   go_wp2_with fail
   refine (cA _).mono ?_
   rintro e w' ⟨rfl, rfl⟩
   have r0 := K1.out.cell 0 (.int .i64 0) rfl
   have g0 := K1.out.free 0
   have r1 := K1.out.cell 1 (.int .i64 0) rfl
   have g1 := K1.out.free 1
   have r2 := K1.out.cell 2 (.string ⟨#[]⟩) rfl
   have g2 := K1.out.free 2
   go_wp2_with fail
   have hF := (((K1.out.set 0 (.int .i64 0)).set 1 (.int .i64 0)).set 2 (.string ⟨#[]⟩))
   have FB := (((B1.out.setCell (Nat.le_refl _) (.int .i64 0) (p := ⟨_, 0, none⟩)).setCell (Nat.le_refl _) (.int .i64 0) (p := ⟨_, 1, none⟩)).setCell (Nat.le_refl _) (.string ⟨#[]⟩) (p := ⟨_, 2, none⟩))
   clear  r0 r1 r2 g0 g1 g2
   generalize (((w1.setCell ⟨w.heap.size, 0, none⟩ (.int .i64 0)).setCell ⟨w.heap.size, 1, none⟩ (.int .i64 0)).setCell ⟨w.heap.size, 2, none⟩ (.string ⟨#[]⟩)) = WF at *
   have hG : Blk WF w.heap.size #[.int .i64 0, .int .i64 0, .string ⟨#[]⟩] 32 := hF
   have m0 := hG.cell 0 (.int .i64 0) rfl
   have m1 := hG.cell 1 (.int .i64 0) rfl
   have m2 := hG.cell 2 (.string ⟨#[]⟩) rfl
   rw [HV.out]
   exact bodyPost_ret (v := .tuple #[.agg #[.int .i64 0, .int .i64 0, .string ⟨#[]⟩], .bool false]) (by simp [results, go_sem, m0, m1, m2]) rfl ⟨rfl, FB⟩
 ·rw [if_neg hc] at HU
  rw [HU.out] at c1
  have HV : Hid (readSn s = .tuple #[.agg #[.int .i64 0, .int .i64 0, .string ⟨#[]⟩], .bool false]) := by unfold Hid; rw [HR.out, if_neg (fun h => hc h.1)]
  have z1 : ((code s : Int) == 0) = false := by rw [beq_eq_false_iff_ne]; omega
  have z2 : ¬ (code s : Int) = 0 := by omega
  obtain ⟨ii, ok, cA⟩ := spec_rf ⟨#[]⟩ (by unfold maxLen; exact Nat.zero_le _)
  clear hc hs
  generalize code s = cd at *
  go_enter Tryz.func19, Tryz.ntmps19
  go_wp2_with fail
  generalize w.alloc (.cells #[.int .i64 0, .int .i64 0, .string ⟨#[]⟩] 32) = W at *
  refine (c1 W).mono ?_
  rintro e w1 ⟨rfl, hb1⟩
  have B1 : Hid (Below w.heap.size w w1) := B0.out.trans (hb1.mono B0.out.size)
  have K1 : Hid (Blk w1 w.heap.size #[.int .i64 0, .int .i64 0, .string ⟨#[]⟩] 32) := K0.out.on hb1 K0.out.lt
  clear hb1 c1 B0 K0
  go_wp2_with fail
  refine (cA _).mono ?_
  rintro e w' ⟨rfl, rfl⟩
  have r0 := K1.out.cell 0 (.int .i64 0) rfl
  have g0 := K1.out.free 0
  have r1 := K1.out.cell 1 (.int .i64 0) rfl
  have g1 := K1.out.free 1
  have r2 := K1.out.cell 2 (.string ⟨#[]⟩) rfl
  have g2 := K1.out.free 2
  go_wp2_with fail
  have hF := (((K1.out.set 0 (.int .i64 0)).set 1 (.int .i64 0)).set 2 (.string ⟨#[]⟩))
  have FB := (((B1.out.setCell (Nat.le_refl _) (.int .i64 0) (p := ⟨_, 0, none⟩)).setCell (Nat.le_refl _) (.int .i64 0) (p := ⟨_, 1, none⟩)).setCell (Nat.le_refl _) (.string ⟨#[]⟩) (p := ⟨_, 2, none⟩))
  clear  r0 r1 r2 g0 g1 g2
  generalize (((w1.setCell ⟨w.heap.size, 0, none⟩ (.int .i64 0)).setCell ⟨w.heap.size, 1, none⟩ (.int .i64 0)).setCell ⟨w.heap.size, 2, none⟩ (.string ⟨#[]⟩)) = WF at *
  have hG : Blk WF w.heap.size #[.int .i64 0, .int .i64 0, .string ⟨#[]⟩] 32 := hF
  have m0 := hG.cell 0 (.int .i64 0) rfl
  have m1 := hG.cell 1 (.int .i64 0) rfl
  have m2 := hG.cell 2 (.string ⟨#[]⟩) rfl
  rw [HV.out]
  exact bodyPost_ret (v := .tuple #[.agg #[.int .i64 0, .int .i64 0, .string ⟨#[]⟩], .bool false]) (by simp [results, go_sem, m0, m1, m2]) rfl ⟨rfl, FB⟩
end Go.Proofs.YtdimaoloapbeoaaGreatDoor
namespace Go.Proofs.YtdimaoloapbeoaaGreatDoor
open Go.ChangeShapes Go.WideShapes Go.ChangeAt Go.RowKit Go.PlainAid
set_option linter.unusedVariables false
def logNw : ByteArray := ⟨#[108, 111, 103, 46, 110, 101, 119]⟩
def snapNw : ByteArray := ⟨#[115, 110, 97, 112, 46, 110, 101, 119]⟩
def logN : ByteArray := ⟨#[108, 111, 103]⟩
def snapN : ByteArray := ⟨#[115, 110, 97, 112]⟩
set_option maxHeartbeats 1000000 in
theorem hasV (w : World) (base p : Nat) (d : Dsk) (bi bd bw : Nat) (gs : List Nat) (u : Value) (name : ByteArray) (h : OpenD w base p d bi bd bw gs u) (hd : Whole d) (hs : name.size ≤ maxLen) :
  Calls Tryz.prog 24 #[.pointer (some ⟨p, 0, none⟩), .string name] w fun e w' => e = .returned (.bool (find d name).isSome) ∧ w = w' := by
 have cF := findI w base p d bi bd bw gs u name h hd hs
 have HD : Hid (Whole d) := hd
 clear h hs hd
 go_enter Tryz.func24, Tryz.ntmps24
 go_wp2_with fail
 refine cF.mono ?_
 rintro e w2 ⟨rfl, h⟩
 clear cF
 rcases h with ⟨hno, rfl⟩ | ⟨hno, hfd, rfl⟩ | ⟨hno, j, hfd, hj, rfl⟩
 ·have HR : Hid ((find d name).isSome = false) := by unfold Hid; rw [find_bad HD.out hno]; rfl
  clear hno
  go_wp2_with fail
  go_ret
  exact ⟨by rw [HR.out]; rfl, rfl⟩
 ·have HR : Hid ((find d name).isSome = false) := by unfold Hid; rw [hfd]; rfl
  clear hno hfd
  go_wp2_with fail
  go_ret
  exact ⟨by rw [HR.out]; rfl, rfl⟩
 ·have HR : Hid ((find d name).isSome = true) := by unfold Hid; rw [hfd]; rfl
  clear hno hfd hj
  go_wp2_with fail
  go_ret
  exact ⟨by rw [HR.out]; rfl, rfl⟩
theorem load_has {d : Dsk} {name : ByteArray} (h : diskOk d = true) : (loadR d name).2 = (find d name).isSome := by
 rcases e : find d name with _ | k
 ·rw [loadR_none h e]
  rfl
 ·rw [loadR_some h e]
  rfl
end Go.Proofs.YtdimaoloapbeoaaGreatDoor
namespace Go.Proofs.YtdimaoloapbeoaaGreatDoor
open Go.ChangeShapes Go.WideShapes Go.ChangeAt Go.RowKit Go.PlainAid
set_option linter.unusedVariables false
structure Kpt where
 wal : Wl
 snap : Snp
 dirty : Bool
def sn0 : Snp := ⟨0, 0, ⟨#[]⟩⟩
def kp0 : Kpt := ⟨wal0, sn0, false⟩
noncomputable def repS (s : ByteArray) : Wl × Nat × Bool := rep (bods s (Classical.epsilon (Ends s)))
theorem repS_eq {s : ByteArray} {K : Nat} (h : Ends s K) : rep (bods s K) = repS s := by
 have h2 : Ends s (Classical.epsilon (Ends s)) := Classical.epsilon_spec ⟨K, h⟩
 unfold repS
 rw [h.one h2]
def rdSn (s : ByteArray) : Snp × Bool := if code s = 0 ∧ (bodyOf s).size = 16 ∧ showSn (snOf s) = s then (snOf s, true) else (sn0, false)
theorem readSn_eq (s : ByteArray) : readSn s = .tuple #[vSnp (rdSn s).1, .bool (rdSn s).2] := by
 unfold readSn rdSn
 split <;> rfl
def snR (d : Dsk) : Snp × Bool := if (loadR d snapN).2 = true then rdSn (loadR d snapN).1 else (sn0, true)
def behE (x : Wl) (s : Snp) : List Ent := if (s.index - x.base).toNat ≤ x.ents.length ∧ (x.ents.getD ((s.index - x.base).toNat - 1) default).term = s.term then x.ents.drop (s.index - x.base).toNat else []
def behW (x : Wl) (s : Snp) : Wl := ⟨if x.term < s.term then s.term else x.term, if x.term < s.term then -1 else x.vote, s.index, s.term, behE x s⟩
def reach (s : Snp) (x : Wl) : Bool := decide (x.base < s.index) || decide (s.index = x.base) && decide (s.term = x.bterm)
noncomputable def recR (d : Dsk) : Kpt × Int :=
 if diskOk d = false then (kp0, 2)
 else if (loadR d logN).2 = false then (kp0, 1)
 else if ((repS (loadR d logN).1).2.2 && (snR d).2 && reach (snR d).1 (repS (loadR d logN).1).1) = false then (kp0, 2)
 else (⟨if (repS (loadR d logN).1).1.base < (snR d).1.index then behW (repS (loadR d logN).1).1 (snR d).1 else (repS (loadR d logN).1).1, (snR d).1,
  decide ((repS (loadR d logN).1).2.1 < (loadR d logN).1.size) || decide ((repS (loadR d logN).1).1.base < (snR d).1.index) || (loadR d logNw).2 || (loadR d snapNw).2⟩, 0)
def kptC (k : Kpt) (u : Value) : Array Value := #[.int .i64 k.wal.term, .int .i64 k.wal.vote, .int .i64 k.wal.base, .int .i64 k.wal.bterm, u, .int .i64 k.snap.index, .int .i64 k.snap.term, .string k.snap.data, .bool k.dirty]
def KptO (w : World) (base : Nat) (v : Value) (k : Kpt) : Prop := ∃ u, v = .agg (kptC k u) ∧ Owns w base 59 2 u (entR k.wal.ents)
def KptV (w : World) (B : Nat) (v : Value) (k : Kpt) : Prop := ∃ u, v = .agg (kptC k u) ∧ Lies w B 2 u (entR k.wal.ents)
theorem KptO.lies {w : World} {base : Nat} {v : Value} {k : Kpt} (h : KptO w base v k) : KptV w w.heap.size v k := by
 obtain ⟨u, e, h⟩ := h
 exact ⟨u, e, h.lies⟩
theorem KptV.on {w w' : World} {B : Nat} {v : Value} {k : Kpt} (h : KptV w B v k) (hb : Below B w w') : KptV w' B v k := by
 obtain ⟨u, e, h⟩ := h
 exact ⟨u, e, h.on hb⟩
theorem KptV.mono {w : World} {B C : Nat} {v : Value} {k : Kpt} (h : KptV w B v k) (hB : B ≤ C) : KptV w C v k := by
 obtain ⟨u, e, h⟩ := h
 exact ⟨u, e, h.mono hB⟩
theorem KptO.on {w w' : World} {base : Nat} {v : Value} {k : Kpt} (h : KptO w base v k) (hb : Below w.heap.size w w') : KptO w' base v k := by
 obtain ⟨u, e, h⟩ := h
 exact ⟨u, e, h.on hb⟩
theorem goOn_ok (l : List ByteArray) : ∀ x : Wl, walOk x = true → walOk (goOn x l).1 = true := by
 induction l with
 | nil => intro x h; exact h
 | cons s r ih =>
  intro x h
  cases hf : (stp x s).2
  ·rw [goOn_no x s r hf]; exact h
  ·rw [goOn_yes x s r hf]; exact ih _ (stp_ok x s h)
theorem rep_ok (l : List ByteArray) (h : (rep l).2.2 = true) : walOk (rep l).1 = true := by
 cases l with
 | nil => cases h
 | cons s r =>
  cases hb : beg s with
  | none => rw [rep, hb] at h; cases h
  | some x => rw [rep, hb]; exact goOn_ok r x (beg_some hb)
theorem repS_ok (s : ByteArray) (h : (repS s).2.2 = true) : walOk (repS s).1 = true := rep_ok _ h
theorem wtN_at (l : List Nod) : ∀ j, j < l.length → (l.getD j default).data.size ≤ wtN l := by
 induction l with
 | nil => intro j h; cases h
 | cons x r ih =>
  intro j h
  cases j with
  | zero => simp [wtN, wtN1]
  | succ j =>
   have := ih j (by simpa using h)
   simp only [wtN, List.getD_cons_succ]
   omega
theorem loadR_size {d : Dsk} {nm : ByteArray} (h : wtD d ≤ 1048576) : (loadR d nm).1.size ≤ 1048576 := by
 unfold loadR
 split
 ·exact Nat.zero_le _
 ·split
  ·exact Nat.zero_le _
  ·rename_i j hj
   by_cases hl : j < d.nods.length
   ·have e1 := wtN_at d.nods j hl
    unfold wtD at h
    simp only
    omega
   ·have e : d.nods.getD j default = default := by simp [List.getD, List.getElem?_eq_none (show d.nods.length ≤ j by omega)]
    simp only [e]
    exact Nat.zero_le _
theorem rdSn_in (s : ByteArray) : 0 ≤ (rdSn s).1.index ∧ (rdSn s).1.index ≤ 100000 ∧ 0 ≤ (rdSn s).1.term ∧ (rdSn s).1.term ≤ 100000 ∧ ((rdSn s).1.index = 0 → (rdSn s).2 = true → False) := by
 unfold rdSn
 split
 ·rename_i h
  obtain ⟨h1, h2, h3⟩ := h
  cases hs : isSn (snOf s)
  ·exfalso
   have : showSn (snOf s) = ⟨#[]⟩ := by unfold showSn; rw [hs]; rfl
   rw [this] at h3
   rw [← h3] at h1
   have h4 := (code_zero _).1 h1
   have : (⟨#[]⟩ : ByteArray).size = 0 := rfl
   omega
  ·obtain ⟨_, _, ⟨b1, b2⟩, ⟨b3, b4⟩, _⟩ := isSn_in _ hs
   refine ⟨?_, b2, ?_, b4, fun h => ?_⟩
   ·show 0 ≤ (snOf s).index
    omega
   ·show 0 ≤ (snOf s).term
    omega
   ·have h' : (snOf s).index = 0 := h
    omega
 ·exact ⟨Int.le_refl _, by decide, Int.le_refl _, by decide, fun _ h => by cases h⟩
end Go.Proofs.YtdimaoloapbeoaaGreatDoor
namespace Go.Proofs.YtdimaoloapbeoaaGreatDoor
open Go.ChangeShapes Go.WideShapes Go.ChangeAt Go.RowKit Go.PlainAid
set_option linter.unusedVariables false
theorem resC9 {w : World} {g : Nat} {a0 a1 a2 a3 a4 a5 a6 a7 a8 x0 x1 x2 x3 x4 x5 x6 x7 x8 : Value} {t : TypeId} (h : Blk w g #[a0, a1, a2, a3, a4, a5, a6, a7, a8] t) :
  (w.cell? ⟨g, 0, none⟩ = some a0 ∧ w.frozen? ⟨g, 0, none⟩ = false) ∧ ((w.setCell ⟨g, 0, none⟩ x0).cell? ⟨g, 1, none⟩ = some a1 ∧ (w.setCell ⟨g, 0, none⟩ x0).frozen? ⟨g, 1, none⟩ = false) ∧ (((w.setCell ⟨g, 0, none⟩ x0).setCell ⟨g, 1, none⟩ x1).cell? ⟨g, 2, none⟩ = some a2 ∧ ((w.setCell ⟨g, 0, none⟩ x0).setCell ⟨g, 1, none⟩ x1).frozen? ⟨g, 2, none⟩ = false) ∧ ((((w.setCell ⟨g, 0, none⟩ x0).setCell ⟨g, 1, none⟩ x1).setCell ⟨g, 2, none⟩ x2).cell? ⟨g, 3, none⟩ = some a3 ∧ (((w.setCell ⟨g, 0, none⟩ x0).setCell ⟨g, 1, none⟩ x1).setCell ⟨g, 2, none⟩ x2).frozen? ⟨g, 3, none⟩ = false) ∧ (((((w.setCell ⟨g, 0, none⟩ x0).setCell ⟨g, 1, none⟩ x1).setCell ⟨g, 2, none⟩ x2).setCell ⟨g, 3, none⟩ x3).cell? ⟨g, 4, none⟩ = some a4 ∧ ((((w.setCell ⟨g, 0, none⟩ x0).setCell ⟨g, 1, none⟩ x1).setCell ⟨g, 2, none⟩ x2).setCell ⟨g, 3, none⟩ x3).frozen? ⟨g, 4, none⟩ = false) ∧ ((((((w.setCell ⟨g, 0, none⟩ x0).setCell ⟨g, 1, none⟩ x1).setCell ⟨g, 2, none⟩ x2).setCell ⟨g, 3, none⟩ x3).setCell ⟨g, 4, none⟩ x4).cell? ⟨g, 5, none⟩ = some a5 ∧ (((((w.setCell ⟨g, 0, none⟩ x0).setCell ⟨g, 1, none⟩ x1).setCell ⟨g, 2, none⟩ x2).setCell ⟨g, 3, none⟩ x3).setCell ⟨g, 4, none⟩ x4).frozen? ⟨g, 5, none⟩ = false) ∧ (((((((w.setCell ⟨g, 0, none⟩ x0).setCell ⟨g, 1, none⟩ x1).setCell ⟨g, 2, none⟩ x2).setCell ⟨g, 3, none⟩ x3).setCell ⟨g, 4, none⟩ x4).setCell ⟨g, 5, none⟩ x5).cell? ⟨g, 6, none⟩ = some a6 ∧ ((((((w.setCell ⟨g, 0, none⟩ x0).setCell ⟨g, 1, none⟩ x1).setCell ⟨g, 2, none⟩ x2).setCell ⟨g, 3, none⟩ x3).setCell ⟨g, 4, none⟩ x4).setCell ⟨g, 5, none⟩ x5).frozen? ⟨g, 6, none⟩ = false) ∧ ((((((((w.setCell ⟨g, 0, none⟩ x0).setCell ⟨g, 1, none⟩ x1).setCell ⟨g, 2, none⟩ x2).setCell ⟨g, 3, none⟩ x3).setCell ⟨g, 4, none⟩ x4).setCell ⟨g, 5, none⟩ x5).setCell ⟨g, 6, none⟩ x6).cell? ⟨g, 7, none⟩ = some a7 ∧ (((((((w.setCell ⟨g, 0, none⟩ x0).setCell ⟨g, 1, none⟩ x1).setCell ⟨g, 2, none⟩ x2).setCell ⟨g, 3, none⟩ x3).setCell ⟨g, 4, none⟩ x4).setCell ⟨g, 5, none⟩ x5).setCell ⟨g, 6, none⟩ x6).frozen? ⟨g, 7, none⟩ = false) ∧ (((((((((w.setCell ⟨g, 0, none⟩ x0).setCell ⟨g, 1, none⟩ x1).setCell ⟨g, 2, none⟩ x2).setCell ⟨g, 3, none⟩ x3).setCell ⟨g, 4, none⟩ x4).setCell ⟨g, 5, none⟩ x5).setCell ⟨g, 6, none⟩ x6).setCell ⟨g, 7, none⟩ x7).cell? ⟨g, 8, none⟩ = some a8 ∧ ((((((((w.setCell ⟨g, 0, none⟩ x0).setCell ⟨g, 1, none⟩ x1).setCell ⟨g, 2, none⟩ x2).setCell ⟨g, 3, none⟩ x3).setCell ⟨g, 4, none⟩ x4).setCell ⟨g, 5, none⟩ x5).setCell ⟨g, 6, none⟩ x6).setCell ⟨g, 7, none⟩ x7).frozen? ⟨g, 8, none⟩ = false) ∧
  (((((((((w.setCell ⟨g, 0, none⟩ x0).setCell ⟨g, 1, none⟩ x1).setCell ⟨g, 2, none⟩ x2).setCell ⟨g, 3, none⟩ x3).setCell ⟨g, 4, none⟩ x4).setCell ⟨g, 5, none⟩ x5).setCell ⟨g, 6, none⟩ x6).setCell ⟨g, 7, none⟩ x7).setCell ⟨g, 8, none⟩ x8).cell? ⟨g, 0, none⟩ = some x0 ∧ (((((((((w.setCell ⟨g, 0, none⟩ x0).setCell ⟨g, 1, none⟩ x1).setCell ⟨g, 2, none⟩ x2).setCell ⟨g, 3, none⟩ x3).setCell ⟨g, 4, none⟩ x4).setCell ⟨g, 5, none⟩ x5).setCell ⟨g, 6, none⟩ x6).setCell ⟨g, 7, none⟩ x7).setCell ⟨g, 8, none⟩ x8).cell? ⟨g, 1, none⟩ = some x1 ∧ (((((((((w.setCell ⟨g, 0, none⟩ x0).setCell ⟨g, 1, none⟩ x1).setCell ⟨g, 2, none⟩ x2).setCell ⟨g, 3, none⟩ x3).setCell ⟨g, 4, none⟩ x4).setCell ⟨g, 5, none⟩ x5).setCell ⟨g, 6, none⟩ x6).setCell ⟨g, 7, none⟩ x7).setCell ⟨g, 8, none⟩ x8).cell? ⟨g, 2, none⟩ = some x2 ∧ (((((((((w.setCell ⟨g, 0, none⟩ x0).setCell ⟨g, 1, none⟩ x1).setCell ⟨g, 2, none⟩ x2).setCell ⟨g, 3, none⟩ x3).setCell ⟨g, 4, none⟩ x4).setCell ⟨g, 5, none⟩ x5).setCell ⟨g, 6, none⟩ x6).setCell ⟨g, 7, none⟩ x7).setCell ⟨g, 8, none⟩ x8).cell? ⟨g, 3, none⟩ = some x3 ∧ (((((((((w.setCell ⟨g, 0, none⟩ x0).setCell ⟨g, 1, none⟩ x1).setCell ⟨g, 2, none⟩ x2).setCell ⟨g, 3, none⟩ x3).setCell ⟨g, 4, none⟩ x4).setCell ⟨g, 5, none⟩ x5).setCell ⟨g, 6, none⟩ x6).setCell ⟨g, 7, none⟩ x7).setCell ⟨g, 8, none⟩ x8).cell? ⟨g, 4, none⟩ = some x4 ∧ (((((((((w.setCell ⟨g, 0, none⟩ x0).setCell ⟨g, 1, none⟩ x1).setCell ⟨g, 2, none⟩ x2).setCell ⟨g, 3, none⟩ x3).setCell ⟨g, 4, none⟩ x4).setCell ⟨g, 5, none⟩ x5).setCell ⟨g, 6, none⟩ x6).setCell ⟨g, 7, none⟩ x7).setCell ⟨g, 8, none⟩ x8).cell? ⟨g, 5, none⟩ = some x5 ∧ (((((((((w.setCell ⟨g, 0, none⟩ x0).setCell ⟨g, 1, none⟩ x1).setCell ⟨g, 2, none⟩ x2).setCell ⟨g, 3, none⟩ x3).setCell ⟨g, 4, none⟩ x4).setCell ⟨g, 5, none⟩ x5).setCell ⟨g, 6, none⟩ x6).setCell ⟨g, 7, none⟩ x7).setCell ⟨g, 8, none⟩ x8).cell? ⟨g, 6, none⟩ = some x6 ∧ (((((((((w.setCell ⟨g, 0, none⟩ x0).setCell ⟨g, 1, none⟩ x1).setCell ⟨g, 2, none⟩ x2).setCell ⟨g, 3, none⟩ x3).setCell ⟨g, 4, none⟩ x4).setCell ⟨g, 5, none⟩ x5).setCell ⟨g, 6, none⟩ x6).setCell ⟨g, 7, none⟩ x7).setCell ⟨g, 8, none⟩ x8).cell? ⟨g, 7, none⟩ = some x7 ∧ (((((((((w.setCell ⟨g, 0, none⟩ x0).setCell ⟨g, 1, none⟩ x1).setCell ⟨g, 2, none⟩ x2).setCell ⟨g, 3, none⟩ x3).setCell ⟨g, 4, none⟩ x4).setCell ⟨g, 5, none⟩ x5).setCell ⟨g, 6, none⟩ x6).setCell ⟨g, 7, none⟩ x7).setCell ⟨g, 8, none⟩ x8).cell? ⟨g, 8, none⟩ = some x8 := by
 have h1 : Blk (w.setCell ⟨g, 0, none⟩ x0) g #[x0, a1, a2, a3, a4, a5, a6, a7, a8] t := h.set 0 x0
 have h2 : Blk ((w.setCell ⟨g, 0, none⟩ x0).setCell ⟨g, 1, none⟩ x1) g #[x0, x1, a2, a3, a4, a5, a6, a7, a8] t := h1.set 1 x1
 have h3 : Blk (((w.setCell ⟨g, 0, none⟩ x0).setCell ⟨g, 1, none⟩ x1).setCell ⟨g, 2, none⟩ x2) g #[x0, x1, x2, a3, a4, a5, a6, a7, a8] t := h2.set 2 x2
 have h4 : Blk ((((w.setCell ⟨g, 0, none⟩ x0).setCell ⟨g, 1, none⟩ x1).setCell ⟨g, 2, none⟩ x2).setCell ⟨g, 3, none⟩ x3) g #[x0, x1, x2, x3, a4, a5, a6, a7, a8] t := h3.set 3 x3
 have h5 : Blk (((((w.setCell ⟨g, 0, none⟩ x0).setCell ⟨g, 1, none⟩ x1).setCell ⟨g, 2, none⟩ x2).setCell ⟨g, 3, none⟩ x3).setCell ⟨g, 4, none⟩ x4) g #[x0, x1, x2, x3, x4, a5, a6, a7, a8] t := h4.set 4 x4
 have h6 : Blk ((((((w.setCell ⟨g, 0, none⟩ x0).setCell ⟨g, 1, none⟩ x1).setCell ⟨g, 2, none⟩ x2).setCell ⟨g, 3, none⟩ x3).setCell ⟨g, 4, none⟩ x4).setCell ⟨g, 5, none⟩ x5) g #[x0, x1, x2, x3, x4, x5, a6, a7, a8] t := h5.set 5 x5
 have h7 : Blk (((((((w.setCell ⟨g, 0, none⟩ x0).setCell ⟨g, 1, none⟩ x1).setCell ⟨g, 2, none⟩ x2).setCell ⟨g, 3, none⟩ x3).setCell ⟨g, 4, none⟩ x4).setCell ⟨g, 5, none⟩ x5).setCell ⟨g, 6, none⟩ x6) g #[x0, x1, x2, x3, x4, x5, x6, a7, a8] t := h6.set 6 x6
 have h8 : Blk ((((((((w.setCell ⟨g, 0, none⟩ x0).setCell ⟨g, 1, none⟩ x1).setCell ⟨g, 2, none⟩ x2).setCell ⟨g, 3, none⟩ x3).setCell ⟨g, 4, none⟩ x4).setCell ⟨g, 5, none⟩ x5).setCell ⟨g, 6, none⟩ x6).setCell ⟨g, 7, none⟩ x7) g #[x0, x1, x2, x3, x4, x5, x6, x7, a8] t := h7.set 7 x7
 have h9 : Blk (((((((((w.setCell ⟨g, 0, none⟩ x0).setCell ⟨g, 1, none⟩ x1).setCell ⟨g, 2, none⟩ x2).setCell ⟨g, 3, none⟩ x3).setCell ⟨g, 4, none⟩ x4).setCell ⟨g, 5, none⟩ x5).setCell ⟨g, 6, none⟩ x6).setCell ⟨g, 7, none⟩ x7).setCell ⟨g, 8, none⟩ x8) g #[x0, x1, x2, x3, x4, x5, x6, x7, x8] t := h8.set 8 x8
 exact ⟨⟨h.cell 0 _ rfl, h.free 0⟩, ⟨h1.cell 1 _ rfl, h1.free 1⟩, ⟨h2.cell 2 _ rfl, h2.free 2⟩, ⟨h3.cell 3 _ rfl, h3.free 3⟩, ⟨h4.cell 4 _ rfl, h4.free 4⟩, ⟨h5.cell 5 _ rfl, h5.free 5⟩, ⟨h6.cell 6 _ rfl, h6.free 6⟩, ⟨h7.cell 7 _ rfl, h7.free 7⟩, ⟨h8.cell 8 _ rfl, h8.free 8⟩, h9.cell 0 _ rfl, h9.cell 1 _ rfl, h9.cell 2 _ rfl, h9.cell 3 _ rfl, h9.cell 4 _ rfl, h9.cell 5 _ rfl, h9.cell 6 _ rfl, h9.cell 7 _ rfl, h9.cell 8 _ rfl⟩
theorem belowC9 {w w' : World} {B g : Nat} (h : Below B w w') (hg : B ≤ g) (x0 x1 x2 x3 x4 x5 x6 x7 x8 : Value) : Below B w (((((((((w'.setCell ⟨g, 0, none⟩ x0).setCell ⟨g, 1, none⟩ x1).setCell ⟨g, 2, none⟩ x2).setCell ⟨g, 3, none⟩ x3).setCell ⟨g, 4, none⟩ x4).setCell ⟨g, 5, none⟩ x5).setCell ⟨g, 6, none⟩ x6).setCell ⟨g, 7, none⟩ x7).setCell ⟨g, 8, none⟩ x8) := (((((((((h.setCell hg _).setCell hg _).setCell hg _).setCell hg _).setCell hg _).setCell hg _).setCell hg _).setCell hg _).setCell hg _)
theorem cellsC9 {w : World} {g : Nat} {a0 a1 a2 a3 a4 a5 a6 a7 a8 : Value} {t : TypeId} (h : Blk w g #[a0, a1, a2, a3, a4, a5, a6, a7, a8] t) : w.cell? ⟨g, 0, none⟩ = some a0 ∧ w.cell? ⟨g, 1, none⟩ = some a1 ∧ w.cell? ⟨g, 2, none⟩ = some a2 ∧ w.cell? ⟨g, 3, none⟩ = some a3 ∧ w.cell? ⟨g, 4, none⟩ = some a4 ∧ w.cell? ⟨g, 5, none⟩ = some a5 ∧ w.cell? ⟨g, 6, none⟩ = some a6 ∧ w.cell? ⟨g, 7, none⟩ = some a7 ∧ w.cell? ⟨g, 8, none⟩ = some a8 := ⟨h.cell 0 _ rfl, h.cell 1 _ rfl, h.cell 2 _ rfl, h.cell 3 _ rfl, h.cell 4 _ rfl, h.cell 5 _ rfl, h.cell 6 _ rfl, h.cell 7 _ rfl, h.cell 8 _ rfl⟩
end Go.Proofs.YtdimaoloapbeoaaGreatDoor
namespace Go.Proofs.YtdimaoloapbeoaaGreatDoor
open Go.ChangeShapes Go.WideShapes Go.ChangeAt Go.RowKit Go.PlainAid
set_option linter.unusedVariables false
set_option maxHeartbeats 400000 in
theorem eqEntry (x : Ent) (w : World) : Calls Tryz.prog 107 #[vEnt x, vEnt x] w fun e w' => e = .returned (.bool true) ∧ Below w.heap.size w w' := by
 unfold vEnt
 go_enter Tryz.func107, Tryz.ntmps107
 go_wp2
 go_ret
 exact ⟨rfl, below_alloc2 _ _ _⟩
set_option maxHeartbeats 1000000 in
theorem eqEntryS (l : List Ent) (va vb : Value) (w : World) (B : Nat) (ha : Lies w B 2 va (entR l)) (hb : Lies w B 2 vb (entR l)) (hn : l.length ≤ 1048576) (hB : B ≤ w.heap.size) :
  Calls Tryz.prog 70 #[va, vb] w fun e w' => e = .returned (.bool true) ∧ Below w.heap.size w w' := by
 obtain ⟨A, cap, rfl, hl⟩ := ent_look ha
 obtain ⟨A', cap', rfl, hl'⟩ := ent_look hb
 have HL : Hid (∀ j, j < l.length → ∃ g off, A = some ⟨g, off, none⟩ ∧ g < B ∧ _) := hl
 have HL' : Hid (∀ j, j < l.length → ∃ g off, A' = some ⟨g, off, none⟩ ∧ g < B ∧ _) := hl'
 have HB : Hid (B ≤ w.heap.size) := hB
 clear hl hl' hB ha hb
 have q1 : (l.length : Int) ≤ 1048576 := by omega
 generalize hN : l.length = n at *
 go_enter Tryz.func70, Tryz.ntmps70
 go_wp2_with fail
 go_loopw [5] (fun v5 wr => ∃ k : Nat, k ≤ n ∧ v5 = .int .i64 (k : Int) ∧ Below w.heap.size w wr) (fun i _ => n - (intOf i).toNat)
 case atStart => exact ⟨0, by omega, rfl, Below.refl _ _⟩
 case round =>
  obtain ⟨k, hk, rfl, hb⟩ := hrel
  have HB1 : Hid (Below w.heap.size w wr) := hb
  clear hb
  by_cases hlt : k < n
  ·have q4 : (k : Int) < (n : Int) := by omega
   obtain ⟨g, off, rfl, hg, ha0, ha1⟩ := HL.out k hlt
   obtain ⟨g', off', rfl, hg', hb0, hb1⟩ := HL'.out k hlt
   have hgw : g < w.heap.size := Nat.lt_of_lt_of_le hg HB.out
   have hgw' : g' < w.heap.size := Nat.lt_of_lt_of_le hg' HB.out
   rw [← HB1.out.cell (p := ⟨_, _, none⟩) hgw] at ha0
   rw [← HB1.out.cell (p := ⟨_, _, none⟩) hgw'] at hb0
   rw [← HB1.out.cell (p := ⟨_, _, none⟩) hgw] at ha1
   rw [← HB1.out.cell (p := ⟨_, _, none⟩) hgw'] at hb1
   have c1 := fun wx => eqEntry (l.getD k default) wx
   unfold vEnt at c1
   generalize l.getD k default = x at *
   have hsz := HB1.out.size
   go_wp2_with fail
   go_region_with (go_at_call 107; refine (c1 _).mono ?_; rintro e w1 ⟨rfl, hb1⟩)
   all_goals go_wp2_with fail
   all_goals exact ⟨⟨k + 1, by omega, by go_num, HB1.out.trans (((Below.refl _ wr).drew.trans hb1).mono hsz)⟩, by simp [intOf]; omega⟩
  ·obtain rfl : k = n := by omega
   go_wp2_with fail
   go_ret
   exact ⟨rfl, HB1.out⟩
set_option maxHeartbeats 1000000 in
theorem eqWal (x : Wl) (va vb : Value) (w : World) (B : Nat) (ha : WalV w B va x) (hb : WalV w B vb x) (hn : x.ents.length ≤ 1048576) (hB : B ≤ w.heap.size) :
  Calls Tryz.prog 30 #[va, vb] w fun e w' => e = .returned (.bool true) ∧ Below w.heap.size w w' := by
 obtain ⟨ua, rfl, al⟩ := ha
 obtain ⟨ub, rfl, bl⟩ := hb
 have HB : Hid (B ≤ w.heap.size) := hB
 have AL : Hid (Lies w B 2 ua (entR x.ents)) := al
 have BL : Hid (Lies w B 2 ub (entR x.ents)) := bl
 have L1 : Hid (x.ents.length ≤ 1048576) := hn
 clear al bl hn hB
 go_enter Tryz.func30, Tryz.ntmps30
 go_wp2_with fail
 have hb0 := below_alloc2 w (.cells #[.int .i64 x.term, .int .i64 x.vote, .int .i64 x.base, .int .i64 x.bterm, ua] 30) (.cells #[.int .i64 x.term, .int .i64 x.vote, .int .i64 x.base, .int .i64 x.bterm, ub] 30)
 generalize (w.alloc (.cells #[.int .i64 x.term, .int .i64 x.vote, .int .i64 x.base, .int .i64 x.bterm, ua] 30)).alloc (.cells #[.int .i64 x.term, .int .i64 x.vote, .int .i64 x.base, .int .i64 x.bterm, ub] 30) = W at *
 have B0 : Hid (Below w.heap.size w W) := hb0
 clear hb0
 refine (eqEntryS x.ents ua ub W B (AL.out.on (B0.out.mono HB.out)) (BL.out.on (B0.out.mono HB.out)) L1.out (Nat.le_trans HB.out B0.out.size)).mono ?_
 rintro e w2 ⟨rfl, hb2⟩
 have B2 : Hid (Below w.heap.size w w2) := B0.out.trans (hb2.mono B0.out.size)
 clear hb2
 go_wp2_with fail
 go_ret
 exact ⟨rfl, B2.out⟩
end Go.Proofs.YtdimaoloapbeoaaGreatDoor
namespace Go.Proofs.YtdimaoloapbeoaaGreatDoor
open Go.ChangeShapes Go.WideShapes Go.ChangeAt Go.RowKit Go.PlainAid
set_option linter.unusedVariables false
set_option maxHeartbeats 400000 in
theorem markText (k : Nat) (w : World) (h1 : 1 ≤ k) (h2 : k ≤ 1000000000) :
  Calls Tryz.prog 74 #[.int .i64 (k : Int)] w fun e w' => e = .returned (.string (mark k)) ∧ Below w.heap.size w w' := by
 have q1 : (1 : Int) ≤ (k : Int) := by omega
 have q0 : decide ((k : Int) ≤ 0) = false := decide_eq_false (by omega)
 have q2 : ¬ (k : Int) ≤ 0 := by omega
 go_enter Tryz.func74, Tryz.ntmps74
 go_wp2
 go_loopw [0, 3] (fun v0 v3 wr => ∃ (m f : Nat) (out : List UInt8), v0 = .int .i64 m ∧ m ≤ 1000000000 ∧ m < 10 ^ f ∧ v3 = .string (txt out) ∧ dg f m ++ out = dg 20 k ∧ f + out.length ≤ 20 ∧ Below w.heap.size w wr) (fun i _ _ => (intOf i).toNat)
 case atStart => exact ⟨k, 20, [], rfl, h2, by omega, rfl, by simp, by simp, Below.refl _ _⟩
 case round =>
  obtain ⟨m, f, out, rfl, hm, hf, rfl, hd, hl, hb⟩ := hrel
  have HD : Hid (dg f m ++ out = dg 20 k) := hd
  have HF : Hid (m < 10 ^ f) := hf
  clear hd hf
  by_cases hp : (0 : Int) < (m : Int)
  ·obtain ⟨f', rfl⟩ : ∃ f', f = f' + 1 := by
    cases f with
    | zero => have := HF.out; simp at this; omega
    | succ f' => exact ⟨f', rfl⟩
   have e1 : (48 + (m : Int) % 10) % 256 = (((48 + m % 10) % 256 : Nat) : Int) := by omega
   have e2 : (48 + (m : Int) % 10) = (((48 + m % 10) % 256 : Nat) : Int) := by omega
   have hc : ∀ wx : World, (convert 172 9 (.slice (some ⟨wx.heap.size, 0, none⟩) 1 1)).run Tryz.prog (wx.alloc (.cells #[.int .u8 (48 + (m : Int) % 10)] 5)) = .ok (.string (txt [byt (48 + m % 10)])) (wx.alloc (.cells #[.int .u8 (48 + (m : Int) % 10)] 5)) := by
    intro wx; rw [e2]; exact run_one_byte wx 172 9 5 Tryz.underlying172 Tryz.underlying5 Tryz.underlying9 (48 + m % 10) 1
   clear e1 e2
   have hz1 : (txt [byt (48 + m % 10)]).size = 1 := rfl
   have hz2 : (txt out).size = out.length := txt_size out
   have hsum : (txt [byt (48 + m % 10)]).size + (txt out).size ≤ 9223372036854775807 := by omega
   clear hz1 hz2
   go_wp2
   go_roundw
   case rel =>
    refine ⟨m / 10, f', [byt (48 + m % 10)] ++ out, by go_num, by omega, ?_, by rw [txt_cat], ?_, by simp; omega, hb.alloc (by have := hb.size; omega) _⟩
    ·have := HF.out
     rw [Nat.pow_succ] at this
     omega
    ·have := HD.out
     rw [dg, if_neg (by omega)] at this
     rw [← this]
     simp
   case measure => simp [intOf]; omega
  ·have hm0 : m = 0 := by omega
   subst hm0
   have hz2 : (txt out).size = out.length := txt_size out
   have hz3 : (⟨#[109]⟩ : ByteArray).size = 1 := rfl
   have hsum : (⟨#[109]⟩ : ByteArray).size + (txt out).size ≤ 9223372036854775807 := by omega
   clear hz2 hz3
   go_wp2
   go_ret
   refine ⟨?_, hb⟩
   have := HD.out
   rw [dg_zero, List.nil_append] at this
   rw [this]
   rfl
end Go.Proofs.YtdimaoloapbeoaaGreatDoor
