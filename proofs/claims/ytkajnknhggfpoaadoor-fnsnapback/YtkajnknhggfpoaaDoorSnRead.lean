/-
  Contracts of impl.ReadSnap and spec.ReadSnap: what they answer, at every text.
-/
import Derived.Test.YtkajnknhggfpoaaDoorRows
import Derived.Test.YtkajnknhggfpoaaDoorSnShow
import Derived.Test.YtkajnknhggfpoaaDoorSnBlk
import Derived.Test.YtkajnknhggfpoaaDoorUnframe
namespace Go.Proofs.YtkajnknhggfpoaaDoor
open Go.ChangeShapes Go.WideShapes Go.ChangeAt Go.RowKit Go.PlainAid
set_option linter.unusedVariables false

/-- The snapshot that a text may be of. -/
def snOf (s : ByteArray) : Snp := ⟨(rdv (bodyOf s) 4 : Int), (rdv ((bodyOf s).extract 4 (bodyOf s).size) 4 : Int), s.extract (8 + rdv s 4) s.size⟩
/-- What both packages' ReadSnap answer. -/
def readSn (s : ByteArray) : Value := if code s = 0 ∧ (bodyOf s).size = 16 ∧ showSn (snOf s) = s then .tuple #[vSnp (snOf s), .bool true] else .tuple #[.agg #[.int .i64 0, .int .i64 0, .string ⟨#[]⟩], .bool false]
theorem Cell3.of {w : World} {g : Nat} {x : Snp} {t : TypeId} (h : Blk w g #[.int .i64 x.index, .int .i64 x.term, .string x.data] t) : Cell3 w g x := ⟨h.cell 0 _ rfl, h.cell 1 _ rfl, h.cell 2 _ rfl, h.lt⟩
/-- What ReadFixed of four bytes answers, whatever the text. -/
theorem spec_rf (b : ByteArray) (hs : b.size ≤ maxLen) : ∃ (i : Int) (ok : Bool), ∀ wx, Calls Tryd.prog 40 #[.string b, .int .i64 4] wx fun e w' => e = .returned (.tuple #[.int .i64 i, .bool ok]) ∧ wx = w' := by
  by_cases h : 4 ≤ b.size
  · exact ⟨_, _, fun wx => spec_readFixed b 4 wx hs (by omega) (by omega) h⟩
  · exact ⟨_, _, fun wx => spec_readFixed_no b 4 wx hs (by omega)⟩
theorem show_long (x : Snp) (s : ByteArray) (h : 30000 < x.data.size) (hs : 0 < s.size) : showSn x ≠ s := by
  intro e
  unfold showSn at e
  cases ho : isSn x
  · rw [ho] at e
    rw [← e] at hs
    cases hs
  · have := (isSn_in x ho).2.2.2.2
    omega

set_option maxHeartbeats 4000000 in
theorem implReadSnap (s : ByteArray) (w : World) (hs : s.size ≤ 1048576) (ht : SumTab w) (a0 a1 a2 : Addr) (he : Errs w a0 a1 a2) : Calls Tryd.prog 10 #[.string s] w fun e w' => e = .returned (readSn s) ∧ Below w.heap.size w w' := by
  have HT : Hid (SumTab w) := ht
  have HE : Hid (Errs w a0 a1 a2) := he
  clear ht he
  have c1 := fun wx ht he => impl_unframe s wx hs ht a0 a1 a2 he
  have B0 : Hid (Below w.heap.size w (w.alloc (.cells #[.int .i64 0, .int .i64 0, .string ⟨#[]⟩] 25))) := below_one w _
  have K0 : Hid (Blk (w.alloc (.cells #[.int .i64 0, .int .i64 0, .string ⟨#[]⟩] 25)) w.heap.size #[.int .i64 0, .int .i64 0, .string ⟨#[]⟩] 25) := Blk.new w _ _
  have HR : Hid (readSn s = if code s = 0 ∧ (bodyOf s).size = 16 ∧ showSn (snOf s) = s then .tuple #[vSnp (snOf s), .bool true] else .tuple #[.agg #[.int .i64 0, .int .i64 0, .string ⟨#[]⟩], .bool false]) := rfl
  have HU : Hid (unf s = if code s = 0 then #[.string (bodyOf s), .int .i64 ((8 + rdv s 4 : Nat) : Int), .int .i64 0] else #[.string ⟨#[]⟩, .int .i64 0, .int .i64 (code s : Int)]) := rfl
  by_cases hc : code s = 0
  · rw [if_pos hc] at HU
    rw [HU.out] at c1
    obtain ⟨h4, h1, h2, h8, _⟩ := (code_zero s).1 hc
    have hb := bodyOf_size s h8
    have HC : Hid (code s = 0) := hc
    by_cases h16 : (bodyOf s).size = 16
    · have H16 : Hid ((bodyOf s).size = 16) := h16
      have HO : Hid (snOf s = ⟨(rdv (bodyOf s) 4 : Int), (rdv ((bodyOf s).extract 4 (bodyOf s).size) 4 : Int), s.extract (8 + rdv s 4) s.size⟩) := rfl
      have e16 : ((bodyOf s).extract 4 (bodyOf s).size).size = 12 := by rw [ByteArray.size_extract]; omega
      have cA := fun wx => impl_readFixed (bodyOf s) 4 wx (by unfold maxLen; omega) (by omega) (by omega) (by omega)
      have cB := fun wx => impl_readFixed ((bodyOf s).extract 4 (bodyOf s).size) 4 wx (by unfold maxLen; omega) (by omega) (by omega) (by omega)
      have hds : (s.extract (8 + rdv s 4) s.size).size = s.size - (8 + rdv s 4) := by rw [ByteArray.size_extract]; omega
      have cS : ∀ wx, SumTab wx → Calls Tryd.prog 9 #[.agg #[.int .i64 (rdv (bodyOf s) 4 : Int), .int .i64 (rdv ((bodyOf s).extract 4 (bodyOf s).size) 4 : Int), .string (s.extract (8 + rdv s 4) s.size)]] wx fun e w' => e = .returned (.string (showSn (snOf s))) ∧ Below wx.heap.size wx w' := fun wx h => implShowSnap (snOf s) wx (by rw [HO.out]; simp only; unfold maxLen; omega) h
      have cN := fun wx => clone (s.extract (8 + rdv s 4) s.size) wx (by omega)
      have q1 : (s.size : Int) ≤ 1048576 := by omega
      have q2 : ((8 + rdv s 4 : Nat) : Int) ≤ (s.size : Int) := by omega
      have q3 : ((bodyOf s).size : Int) = 16 := by omega
      have q4 : (4 : Int) ≤ ((bodyOf s).size : Int) := by omega
      have hne2 := toList_beq (showSn (snOf s)) s
      clear h4 h1 h2 h8 hb h16 hs e16
      generalize rdv ((bodyOf s).extract 4 (bodyOf s).size) 4 = tn at *
      generalize rdv (bodyOf s) 4 = jn at *
      generalize 8 + rdv s 4 = n at *
      generalize bodyOf s = b at *
      generalize hdd : s.extract n s.size = d at *
      have HX : Hid (vSnp (snOf s) = .agg #[.int .i64 (jn : Int), .int .i64 (tn : Int), .string d]) := by unfold Hid; rw [HO.out]; rfl
      generalize snOf s = x at *
      clear HO hc
      go_enter Tryd.func10, Tryd.ntmps10
      go_wp2_with fail
      generalize w.alloc (.cells #[.int .i64 0, .int .i64 0, .string ⟨#[]⟩] 25) = W at *
      refine (c1 W (HT.out.on B0.out) (HE.out.on B0.out)).mono ?_
      rintro e w1 ⟨rfl, hb1⟩
      have B1 : Hid (Below w.heap.size w w1) := B0.out.trans (hb1.mono B0.out.size)
      have K1 : Hid (Blk w1 w.heap.size #[.int .i64 0, .int .i64 0, .string ⟨#[]⟩] 25) := K0.out.on hb1 K0.out.lt
      clear hb1 c1 B0 K0
      go_wp2_with fail
      refine (cA _).mono ?_
      rintro e w' ⟨rfl, rfl⟩
      go_wp2_with fail
      refine (cB _).mono ?_
      rintro e w' ⟨rfl, rfl⟩
      go_wp2_with fail
      refine (cN _).mono ?_
      rintro e w2 ⟨rfl, hb2⟩
      have B2 : Hid (Below w.heap.size w w2) := B1.out.trans (hb2.mono B1.out.size)
      have K2 : Hid (Blk w2 w.heap.size #[.int .i64 0, .int .i64 0, .string ⟨#[]⟩] 25) := K1.out.on hb2 K1.out.lt
      clear hb2 B1 K1
      go_wp2_with fail
      have B3 : Hid (Below w.heap.size w (w2.alloc (.cells #[.int .i64 (jn : Int), .int .i64 (tn : Int), .string d] 25))) := B2.out.alloc B2.out.size _
      have K3 : Hid (Blk (w2.alloc (.cells #[.int .i64 (jn : Int), .int .i64 (tn : Int), .string d] 25)) w.heap.size #[.int .i64 0, .int .i64 0, .string ⟨#[]⟩] 25) := K2.out.alloc _
      have L3 : Hid (Blk (w2.alloc (.cells #[.int .i64 (jn : Int), .int .i64 (tn : Int), .string d] 25)) w2.heap.size #[.int .i64 (jn : Int), .int .i64 (tn : Int), .string d] 25) := Blk.new _ _ _
      clear B2 K2
      generalize w2.alloc (.cells #[.int .i64 (jn : Int), .int .i64 (tn : Int), .string d] 25) = w3 at *
      generalize w2.heap.size = gs at *
      refine (cS w3 (HT.out.on B3.out)).mono ?_
      rintro e w4 ⟨rfl, hb4⟩
      have B4 : Hid (Below w.heap.size w w4) := B3.out.trans (hb4.mono B3.out.size)
      have K4 : Hid (Blk w4 w.heap.size #[.int .i64 0, .int .i64 0, .string ⟨#[]⟩] 25) := K3.out.on hb4 K3.out.lt
      have L4 : Hid (Blk w4 gs #[.int .i64 (jn : Int), .int .i64 (tn : Int), .string d] 25) := L3.out.on hb4 L3.out.lt
      clear hb4 B3 K3 L3
      by_cases hq : showSn x = s
      · have HV : Hid (readSn s = .tuple #[.agg #[.int .i64 (jn : Int), .int .i64 (tn : Int), .string d], .bool true]) := by unfold Hid; rw [HR.out, if_pos ⟨HC.out, H16.out, hq⟩, HX.out]
        rw [hq] at hne2 ⊢
        clear hq
        have e0 := L4.out.cell 0 (.int .i64 (jn : Int)) rfl
        have e1 := L4.out.cell 1 (.int .i64 (tn : Int)) rfl
        have e2 := L4.out.cell 2 (.string d) rfl
        have r0 := K4.out.cell 0 (.int .i64 0) rfl
        have g0 := K4.out.free 0
        have r1 := K4.out.cell 1 (.int .i64 0) rfl
        have g1 := K4.out.free 1
        have r2 := K4.out.cell 2 (.string ⟨#[]⟩) rfl
        have g2 := K4.out.free 2
        go_wp2_with fail
        have hF := (((K4.out.set 0 (.int .i64 (jn : Int))).set 1 (.int .i64 (tn : Int))).set 2 (.string d))
        have FB := (((B4.out.setCell (Nat.le_refl _) (.int .i64 (jn : Int)) (p := ⟨_, 0, none⟩)).setCell (Nat.le_refl _) (.int .i64 (tn : Int)) (p := ⟨_, 1, none⟩)).setCell (Nat.le_refl _) (.string d) (p := ⟨_, 2, none⟩))
        clear e0 e1 e2 r0 r1 r2 g0 g1 g2
        generalize (((w4.setCell ⟨w.heap.size, 0, none⟩ (.int .i64 (jn : Int))).setCell ⟨w.heap.size, 1, none⟩ (.int .i64 (tn : Int))).setCell ⟨w.heap.size, 2, none⟩ (.string d)) = WF at *
        have hG : Blk WF w.heap.size #[.int .i64 (jn : Int), .int .i64 (tn : Int), .string d] 25 := hF
        have m0 := hG.cell 0 (.int .i64 (jn : Int)) rfl
        have m1 := hG.cell 1 (.int .i64 (tn : Int)) rfl
        have m2 := hG.cell 2 (.string d) rfl
        rw [HV.out]
        exact bodyPost_ret (v := .tuple #[.agg #[.int .i64 (jn : Int), .int .i64 (tn : Int), .string d], .bool true]) (by simp [results, go_sem, m0, m1, m2]) rfl ⟨rfl, FB⟩
      · have HV : Hid (readSn s = .tuple #[.agg #[.int .i64 0, .int .i64 0, .string ⟨#[]⟩], .bool false]) := by unfold Hid; rw [HR.out, if_neg (fun h => hq h.2.2)]
        rw [decide_eq_false hq] at hne2
        clear hq
        generalize showSn x = y at *
        have r0 := K4.out.cell 0 (.int .i64 0) rfl
        have g0 := K4.out.free 0
        have r1 := K4.out.cell 1 (.int .i64 0) rfl
        have g1 := K4.out.free 1
        have r2 := K4.out.cell 2 (.string ⟨#[]⟩) rfl
        have g2 := K4.out.free 2
        go_wp2_with fail
        have hF := (((K4.out.set 0 (.int .i64 0)).set 1 (.int .i64 0)).set 2 (.string ⟨#[]⟩))
        have FB := (((B4.out.setCell (Nat.le_refl _) (.int .i64 0) (p := ⟨_, 0, none⟩)).setCell (Nat.le_refl _) (.int .i64 0) (p := ⟨_, 1, none⟩)).setCell (Nat.le_refl _) (.string ⟨#[]⟩) (p := ⟨_, 2, none⟩))
        clear  r0 r1 r2 g0 g1 g2
        generalize (((w4.setCell ⟨w.heap.size, 0, none⟩ (.int .i64 0)).setCell ⟨w.heap.size, 1, none⟩ (.int .i64 0)).setCell ⟨w.heap.size, 2, none⟩ (.string ⟨#[]⟩)) = WF at *
        have hG : Blk WF w.heap.size #[.int .i64 0, .int .i64 0, .string ⟨#[]⟩] 25 := hF
        have m0 := hG.cell 0 (.int .i64 0) rfl
        have m1 := hG.cell 1 (.int .i64 0) rfl
        have m2 := hG.cell 2 (.string ⟨#[]⟩) rfl
        rw [HV.out]
        exact bodyPost_ret (v := .tuple #[.agg #[.int .i64 0, .int .i64 0, .string ⟨#[]⟩], .bool false]) (by simp [results, go_sem, m0, m1, m2]) rfl ⟨rfl, FB⟩
    · have HV : Hid (readSn s = .tuple #[.agg #[.int .i64 0, .int .i64 0, .string ⟨#[]⟩], .bool false]) := by unfold Hid; rw [HR.out, if_neg (fun h => h16 h.2.1)]
      have z1 : (((bodyOf s).size : Int) == 16) = false := by rw [beq_eq_false_iff_ne]; omega
      have z2 : ¬ ((bodyOf s).size : Int) = 16 := by omega
      have q1 : ((bodyOf s).size : Int) ≤ 9223372036854775807 := by omega
      clear h4 h1 h2 h8 hb h16 hs hc
      generalize 8 + rdv s 4 = n at *
      generalize bodyOf s = b at *
      go_enter Tryd.func10, Tryd.ntmps10
      go_wp2_with fail
      generalize w.alloc (.cells #[.int .i64 0, .int .i64 0, .string ⟨#[]⟩] 25) = W at *
      refine (c1 W (HT.out.on B0.out) (HE.out.on B0.out)).mono ?_
      rintro e w1 ⟨rfl, hb1⟩
      have B1 : Hid (Below w.heap.size w w1) := B0.out.trans (hb1.mono B0.out.size)
      have K1 : Hid (Blk w1 w.heap.size #[.int .i64 0, .int .i64 0, .string ⟨#[]⟩] 25) := K0.out.on hb1 K0.out.lt
      clear hb1 c1 B0 K0
      have r0 := K1.out.cell 0 (.int .i64 0) rfl
      have g0 := K1.out.free 0
      have r1 := K1.out.cell 1 (.int .i64 0) rfl
      have g1 := K1.out.free 1
      have r2 := K1.out.cell 2 (.string ⟨#[]⟩) rfl
      have g2 := K1.out.free 2
      go_wp2_with fail
      have hF := (((K1.out.set 0 (.int .i64 0)).set 1 (.int .i64 0)).set 2 (.string ⟨#[]⟩))
      have FB := (((B1.out.setCell (Nat.le_refl _) (.int .i64 0) (p := ⟨_, 0, none⟩)).setCell (Nat.le_refl _) (.int .i64 0) (p := ⟨_, 1, none⟩)).setCell (Nat.le_refl _) (.string ⟨#[]⟩) (p := ⟨_, 2, none⟩))
      clear  r0 r1 r2 g0 g1 g2
      generalize (((w1.setCell ⟨w.heap.size, 0, none⟩ (.int .i64 0)).setCell ⟨w.heap.size, 1, none⟩ (.int .i64 0)).setCell ⟨w.heap.size, 2, none⟩ (.string ⟨#[]⟩)) = WF at *
      have hG : Blk WF w.heap.size #[.int .i64 0, .int .i64 0, .string ⟨#[]⟩] 25 := hF
      have m0 := hG.cell 0 (.int .i64 0) rfl
      have m1 := hG.cell 1 (.int .i64 0) rfl
      have m2 := hG.cell 2 (.string ⟨#[]⟩) rfl
      rw [HV.out]
      exact bodyPost_ret (v := .tuple #[.agg #[.int .i64 0, .int .i64 0, .string ⟨#[]⟩], .bool false]) (by simp [results, go_sem, m0, m1, m2]) rfl ⟨rfl, FB⟩
  · rw [if_neg hc] at HU
    rw [HU.out] at c1
    have HV : Hid (readSn s = .tuple #[.agg #[.int .i64 0, .int .i64 0, .string ⟨#[]⟩], .bool false]) := by unfold Hid; rw [HR.out, if_neg (fun h => hc h.1)]
    have z1 : ((code s : Int) == 0) = false := by rw [beq_eq_false_iff_ne]; omega
    have z2 : ¬ (code s : Int) = 0 := by omega
    clear hc hs
    generalize code s = cd at *
    go_enter Tryd.func10, Tryd.ntmps10
    go_wp2_with fail
    generalize w.alloc (.cells #[.int .i64 0, .int .i64 0, .string ⟨#[]⟩] 25) = W at *
    refine (c1 W (HT.out.on B0.out) (HE.out.on B0.out)).mono ?_
    rintro e w1 ⟨rfl, hb1⟩
    have B1 : Hid (Below w.heap.size w w1) := B0.out.trans (hb1.mono B0.out.size)
    have K1 : Hid (Blk w1 w.heap.size #[.int .i64 0, .int .i64 0, .string ⟨#[]⟩] 25) := K0.out.on hb1 K0.out.lt
    clear hb1 c1 B0 K0
    have r0 := K1.out.cell 0 (.int .i64 0) rfl
    have g0 := K1.out.free 0
    have r1 := K1.out.cell 1 (.int .i64 0) rfl
    have g1 := K1.out.free 1
    have r2 := K1.out.cell 2 (.string ⟨#[]⟩) rfl
    have g2 := K1.out.free 2
    go_wp2_with fail
    have hF := (((K1.out.set 0 (.int .i64 0)).set 1 (.int .i64 0)).set 2 (.string ⟨#[]⟩))
    have FB := (((B1.out.setCell (Nat.le_refl _) (.int .i64 0) (p := ⟨_, 0, none⟩)).setCell (Nat.le_refl _) (.int .i64 0) (p := ⟨_, 1, none⟩)).setCell (Nat.le_refl _) (.string ⟨#[]⟩) (p := ⟨_, 2, none⟩))
    clear  r0 r1 r2 g0 g1 g2
    generalize (((w1.setCell ⟨w.heap.size, 0, none⟩ (.int .i64 0)).setCell ⟨w.heap.size, 1, none⟩ (.int .i64 0)).setCell ⟨w.heap.size, 2, none⟩ (.string ⟨#[]⟩)) = WF at *
    have hG : Blk WF w.heap.size #[.int .i64 0, .int .i64 0, .string ⟨#[]⟩] 25 := hF
    have m0 := hG.cell 0 (.int .i64 0) rfl
    have m1 := hG.cell 1 (.int .i64 0) rfl
    have m2 := hG.cell 2 (.string ⟨#[]⟩) rfl
    rw [HV.out]
    exact bodyPost_ret (v := .tuple #[.agg #[.int .i64 0, .int .i64 0, .string ⟨#[]⟩], .bool false]) (by simp [results, go_sem, m0, m1, m2]) rfl ⟨rfl, FB⟩

set_option maxHeartbeats 4000000 in
theorem specReadSnap (s : ByteArray) (w : World) (hs : s.size ≤ 1048576) : Calls Tryd.prog 15 #[.string s] w fun e w' => e = .returned (readSn s) ∧ Below w.heap.size w w' := by
  have c1 := fun wx => spec_unframe s wx hs
  have B0 : Hid (Below w.heap.size w (w.alloc (.cells #[.int .i64 0, .int .i64 0, .string ⟨#[]⟩] 25))) := below_one w _
  have K0 : Hid (Blk (w.alloc (.cells #[.int .i64 0, .int .i64 0, .string ⟨#[]⟩] 25)) w.heap.size #[.int .i64 0, .int .i64 0, .string ⟨#[]⟩] 25) := Blk.new w _ _
  have HR : Hid (readSn s = if code s = 0 ∧ (bodyOf s).size = 16 ∧ showSn (snOf s) = s then .tuple #[vSnp (snOf s), .bool true] else .tuple #[.agg #[.int .i64 0, .int .i64 0, .string ⟨#[]⟩], .bool false]) := rfl
  have HU : Hid (unf s = if code s = 0 then #[.string (bodyOf s), .int .i64 ((8 + rdv s 4 : Nat) : Int), .int .i64 0] else #[.string ⟨#[]⟩, .int .i64 0, .int .i64 (code s : Int)]) := rfl
  by_cases hc : code s = 0
  · rw [if_pos hc] at HU
    rw [HU.out] at c1
    obtain ⟨h4, h1, h2, h8, _⟩ := (code_zero s).1 hc
    have hb := bodyOf_size s h8
    have HC : Hid (code s = 0) := hc
    by_cases h16 : (bodyOf s).size = 16
    · have H16 : Hid ((bodyOf s).size = 16) := h16
      have HO : Hid (snOf s = ⟨(rdv (bodyOf s) 4 : Int), (rdv ((bodyOf s).extract 4 (bodyOf s).size) 4 : Int), s.extract (8 + rdv s 4) s.size⟩) := rfl
      have e16 : ((bodyOf s).extract 4 (bodyOf s).size).size = 12 := by rw [ByteArray.size_extract]; omega
      have cA := fun wx => spec_readFixed (bodyOf s) 4 wx (by unfold maxLen; omega) (by omega) (by omega) (by omega)
      have cB := fun wx => spec_readFixed ((bodyOf s).extract 4 (bodyOf s).size) 4 wx (by unfold maxLen; omega) (by omega) (by omega) (by omega)
      have hds : (s.extract (8 + rdv s 4) s.size).size = s.size - (8 + rdv s 4) := by rw [ByteArray.size_extract]; omega
      have cS : ∀ wx, Calls Tryd.prog 13 #[.agg #[.int .i64 (rdv (bodyOf s) 4 : Int), .int .i64 (rdv ((bodyOf s).extract 4 (bodyOf s).size) 4 : Int), .string (s.extract (8 + rdv s 4) s.size)]] wx fun e w' => e = .returned (.string (showSn (snOf s))) ∧ Below wx.heap.size wx w' := fun wx => specShowSnap (snOf s) wx (by rw [HO.out]; simp only; unfold maxLen; omega)
      have HD : Hid (30000 < s.size - (8 + rdv s 4) → showSn (snOf s) ≠ s) := fun h => show_long _ _ (by rw [HO.out]; simp only; omega) (by omega)
      have q1 : (s.size : Int) ≤ 1048576 := by omega
      have q2 : ((8 + rdv s 4 : Nat) : Int) ≤ (s.size : Int) := by omega
      have q3 : ((bodyOf s).size : Int) = 16 := by omega
      have q4 : (4 : Int) ≤ ((bodyOf s).size : Int) := by omega
      have hne2 := toList_beq (showSn (snOf s)) s
      clear h4 h1 h2 h8 hb h16 hs e16
      generalize rdv ((bodyOf s).extract 4 (bodyOf s).size) 4 = tn at *
      generalize rdv (bodyOf s) 4 = jn at *
      generalize 8 + rdv s 4 = n at *
      generalize bodyOf s = b at *
      generalize hdd : s.extract n s.size = d at *
      have HX : Hid (vSnp (snOf s) = .agg #[.int .i64 (jn : Int), .int .i64 (tn : Int), .string d]) := by unfold Hid; rw [HO.out]; rfl
      generalize snOf s = x at *
      clear HO hc
      by_cases hlong : 30000 < s.size - n
      · have HV : Hid (readSn s = .tuple #[.agg #[.int .i64 0, .int .i64 0, .string ⟨#[]⟩], .bool false]) := by unfold Hid; rw [HR.out, if_neg (fun h => HD.out hlong h.2.2)]
        have q5 : wrap64 ((s.size : Int) - (n : Int)) = (s.size : Int) - (n : Int) := by unfold wrap64; omega
        have q6 : (30000 : Int) < (s.size : Int) - (n : Int) := by omega
        clear hlong
        go_enter Tryd.func15, Tryd.ntmps15
        go_wp2_with fail
        generalize w.alloc (.cells #[.int .i64 0, .int .i64 0, .string ⟨#[]⟩] 25) = W at *
        refine (c1 W).mono ?_
        rintro e w1 ⟨rfl, hb1⟩
        have B1 : Hid (Below w.heap.size w w1) := B0.out.trans (hb1.mono B0.out.size)
        have K1 : Hid (Blk w1 w.heap.size #[.int .i64 0, .int .i64 0, .string ⟨#[]⟩] 25) := K0.out.on hb1 K0.out.lt
        clear hb1 c1 B0 K0
        go_wp2_with fail
        refine (cA _).mono ?_
        rintro e w' ⟨rfl, rfl⟩
        have r0 := K1.out.cell 0 (.int .i64 0) rfl
        have g0 := K1.out.free 0
        have r1 := K1.out.cell 1 (.int .i64 0) rfl
        have g1 := K1.out.free 1
        have r2 := K1.out.cell 2 (.string ⟨#[]⟩) rfl
        have g2 := K1.out.free 2
        go_wp2_with fail
        have hF := (((K1.out.set 0 (.int .i64 0)).set 1 (.int .i64 0)).set 2 (.string ⟨#[]⟩))
        have FB := (((B1.out.setCell (Nat.le_refl _) (.int .i64 0) (p := ⟨_, 0, none⟩)).setCell (Nat.le_refl _) (.int .i64 0) (p := ⟨_, 1, none⟩)).setCell (Nat.le_refl _) (.string ⟨#[]⟩) (p := ⟨_, 2, none⟩))
        clear  r0 r1 r2 g0 g1 g2
        generalize (((w1.setCell ⟨w.heap.size, 0, none⟩ (.int .i64 0)).setCell ⟨w.heap.size, 1, none⟩ (.int .i64 0)).setCell ⟨w.heap.size, 2, none⟩ (.string ⟨#[]⟩)) = WF at *
        have hG : Blk WF w.heap.size #[.int .i64 0, .int .i64 0, .string ⟨#[]⟩] 25 := hF
        have m0 := hG.cell 0 (.int .i64 0) rfl
        have m1 := hG.cell 1 (.int .i64 0) rfl
        have m2 := hG.cell 2 (.string ⟨#[]⟩) rfl
        rw [HV.out]
        exact bodyPost_ret (v := .tuple #[.agg #[.int .i64 0, .int .i64 0, .string ⟨#[]⟩], .bool false]) (by simp [results, go_sem, m0, m1, m2]) rfl ⟨rfl, FB⟩
      have q5 : wrap64 ((s.size : Int) - (n : Int)) = (s.size : Int) - (n : Int) := by unfold wrap64; omega
      have q6 : (s.size : Int) - (n : Int) ≤ 30000 := by omega
      have q7 : decide ((30000 : Int) < (s.size : Int) - (n : Int)) = false := decide_eq_false (by omega)
      clear hlong HD
      go_enter Tryd.func15, Tryd.ntmps15
      go_wp2_with fail
      generalize w.alloc (.cells #[.int .i64 0, .int .i64 0, .string ⟨#[]⟩] 25) = W at *
      refine (c1 W).mono ?_
      rintro e w1 ⟨rfl, hb1⟩
      have B1 : Hid (Below w.heap.size w w1) := B0.out.trans (hb1.mono B0.out.size)
      have K1 : Hid (Blk w1 w.heap.size #[.int .i64 0, .int .i64 0, .string ⟨#[]⟩] 25) := K0.out.on hb1 K0.out.lt
      clear hb1 c1 B0 K0
      go_wp2_with fail
      refine (cA _).mono ?_
      rintro e w' ⟨rfl, rfl⟩
      go_wp2_with fail
      refine (cB _).mono ?_
      rintro e w' ⟨rfl, rfl⟩
      go_wp2_with fail
      have B3 : Hid (Below w.heap.size w (w1.alloc (.cells #[.int .i64 (jn : Int), .int .i64 (tn : Int), .string d] 25))) := B1.out.alloc B1.out.size _
      have K3 : Hid (Blk (w1.alloc (.cells #[.int .i64 (jn : Int), .int .i64 (tn : Int), .string d] 25)) w.heap.size #[.int .i64 0, .int .i64 0, .string ⟨#[]⟩] 25) := K1.out.alloc _
      have L3 : Hid (Blk (w1.alloc (.cells #[.int .i64 (jn : Int), .int .i64 (tn : Int), .string d] 25)) w1.heap.size #[.int .i64 (jn : Int), .int .i64 (tn : Int), .string d] 25) := Blk.new _ _ _
      clear B1 K1
      generalize w1.alloc (.cells #[.int .i64 (jn : Int), .int .i64 (tn : Int), .string d] 25) = w3 at *
      generalize w1.heap.size = gs at *
      refine (cS w3).mono ?_
      rintro e w4 ⟨rfl, hb4⟩
      have B4 : Hid (Below w.heap.size w w4) := B3.out.trans (hb4.mono B3.out.size)
      have K4 : Hid (Blk w4 w.heap.size #[.int .i64 0, .int .i64 0, .string ⟨#[]⟩] 25) := K3.out.on hb4 K3.out.lt
      have L4 : Hid (Blk w4 gs #[.int .i64 (jn : Int), .int .i64 (tn : Int), .string d] 25) := L3.out.on hb4 L3.out.lt
      clear hb4 B3 K3 L3
      by_cases hq : showSn x = s
      · have HV : Hid (readSn s = .tuple #[.agg #[.int .i64 (jn : Int), .int .i64 (tn : Int), .string d], .bool true]) := by unfold Hid; rw [HR.out, if_pos ⟨HC.out, H16.out, hq⟩, HX.out]
        rw [hq] at hne2 ⊢
        clear hq
        have e0 := L4.out.cell 0 (.int .i64 (jn : Int)) rfl
        have e1 := L4.out.cell 1 (.int .i64 (tn : Int)) rfl
        have e2 := L4.out.cell 2 (.string d) rfl
        have r0 := K4.out.cell 0 (.int .i64 0) rfl
        have g0 := K4.out.free 0
        have r1 := K4.out.cell 1 (.int .i64 0) rfl
        have g1 := K4.out.free 1
        have r2 := K4.out.cell 2 (.string ⟨#[]⟩) rfl
        have g2 := K4.out.free 2
        go_wp2_with fail
        have hF := (((K4.out.set 0 (.int .i64 (jn : Int))).set 1 (.int .i64 (tn : Int))).set 2 (.string d))
        have FB := (((B4.out.setCell (Nat.le_refl _) (.int .i64 (jn : Int)) (p := ⟨_, 0, none⟩)).setCell (Nat.le_refl _) (.int .i64 (tn : Int)) (p := ⟨_, 1, none⟩)).setCell (Nat.le_refl _) (.string d) (p := ⟨_, 2, none⟩))
        clear e0 e1 e2 r0 r1 r2 g0 g1 g2
        generalize (((w4.setCell ⟨w.heap.size, 0, none⟩ (.int .i64 (jn : Int))).setCell ⟨w.heap.size, 1, none⟩ (.int .i64 (tn : Int))).setCell ⟨w.heap.size, 2, none⟩ (.string d)) = WF at *
        have hG : Blk WF w.heap.size #[.int .i64 (jn : Int), .int .i64 (tn : Int), .string d] 25 := hF
        have m0 := hG.cell 0 (.int .i64 (jn : Int)) rfl
        have m1 := hG.cell 1 (.int .i64 (tn : Int)) rfl
        have m2 := hG.cell 2 (.string d) rfl
        rw [HV.out]
        exact bodyPost_ret (v := .tuple #[.agg #[.int .i64 (jn : Int), .int .i64 (tn : Int), .string d], .bool true]) (by simp [results, go_sem, m0, m1, m2]) rfl ⟨rfl, FB⟩
      · have HV : Hid (readSn s = .tuple #[.agg #[.int .i64 0, .int .i64 0, .string ⟨#[]⟩], .bool false]) := by unfold Hid; rw [HR.out, if_neg (fun h => hq h.2.2)]
        rw [decide_eq_false hq] at hne2
        clear hq
        generalize showSn x = y at *
        have r0 := K4.out.cell 0 (.int .i64 0) rfl
        have g0 := K4.out.free 0
        have r1 := K4.out.cell 1 (.int .i64 0) rfl
        have g1 := K4.out.free 1
        have r2 := K4.out.cell 2 (.string ⟨#[]⟩) rfl
        have g2 := K4.out.free 2
        go_wp2_with fail
        have hF := (((K4.out.set 0 (.int .i64 0)).set 1 (.int .i64 0)).set 2 (.string ⟨#[]⟩))
        have FB := (((B4.out.setCell (Nat.le_refl _) (.int .i64 0) (p := ⟨_, 0, none⟩)).setCell (Nat.le_refl _) (.int .i64 0) (p := ⟨_, 1, none⟩)).setCell (Nat.le_refl _) (.string ⟨#[]⟩) (p := ⟨_, 2, none⟩))
        clear  r0 r1 r2 g0 g1 g2
        generalize (((w4.setCell ⟨w.heap.size, 0, none⟩ (.int .i64 0)).setCell ⟨w.heap.size, 1, none⟩ (.int .i64 0)).setCell ⟨w.heap.size, 2, none⟩ (.string ⟨#[]⟩)) = WF at *
        have hG : Blk WF w.heap.size #[.int .i64 0, .int .i64 0, .string ⟨#[]⟩] 25 := hF
        have m0 := hG.cell 0 (.int .i64 0) rfl
        have m1 := hG.cell 1 (.int .i64 0) rfl
        have m2 := hG.cell 2 (.string ⟨#[]⟩) rfl
        rw [HV.out]
        exact bodyPost_ret (v := .tuple #[.agg #[.int .i64 0, .int .i64 0, .string ⟨#[]⟩], .bool false]) (by simp [results, go_sem, m0, m1, m2]) rfl ⟨rfl, FB⟩
    · have HV : Hid (readSn s = .tuple #[.agg #[.int .i64 0, .int .i64 0, .string ⟨#[]⟩], .bool false]) := by unfold Hid; rw [HR.out, if_neg (fun h => h16 h.2.1)]
      have z1 : (((bodyOf s).size : Int) == 16) = false := by rw [beq_eq_false_iff_ne]; omega
      have z2 : ¬ ((bodyOf s).size : Int) = 16 := by omega
      have q1 : ((bodyOf s).size : Int) ≤ 9223372036854775807 := by omega
      obtain ⟨ii, ok, cA⟩ := spec_rf (bodyOf s) (by unfold maxLen; omega)
      clear h4 h1 h2 h8 hb h16 hs hc
      generalize 8 + rdv s 4 = n at *
      generalize bodyOf s = b at *
      go_enter Tryd.func15, Tryd.ntmps15
      go_wp2_with fail
      generalize w.alloc (.cells #[.int .i64 0, .int .i64 0, .string ⟨#[]⟩] 25) = W at *
      refine (c1 W).mono ?_
      rintro e w1 ⟨rfl, hb1⟩
      have B1 : Hid (Below w.heap.size w w1) := B0.out.trans (hb1.mono B0.out.size)
      have K1 : Hid (Blk w1 w.heap.size #[.int .i64 0, .int .i64 0, .string ⟨#[]⟩] 25) := K0.out.on hb1 K0.out.lt
      clear hb1 c1 B0 K0
      go_wp2_with fail
      refine (cA _).mono ?_
      rintro e w' ⟨rfl, rfl⟩
      have r0 := K1.out.cell 0 (.int .i64 0) rfl
      have g0 := K1.out.free 0
      have r1 := K1.out.cell 1 (.int .i64 0) rfl
      have g1 := K1.out.free 1
      have r2 := K1.out.cell 2 (.string ⟨#[]⟩) rfl
      have g2 := K1.out.free 2
      go_wp2_with fail
      have hF := (((K1.out.set 0 (.int .i64 0)).set 1 (.int .i64 0)).set 2 (.string ⟨#[]⟩))
      have FB := (((B1.out.setCell (Nat.le_refl _) (.int .i64 0) (p := ⟨_, 0, none⟩)).setCell (Nat.le_refl _) (.int .i64 0) (p := ⟨_, 1, none⟩)).setCell (Nat.le_refl _) (.string ⟨#[]⟩) (p := ⟨_, 2, none⟩))
      clear  r0 r1 r2 g0 g1 g2
      generalize (((w1.setCell ⟨w.heap.size, 0, none⟩ (.int .i64 0)).setCell ⟨w.heap.size, 1, none⟩ (.int .i64 0)).setCell ⟨w.heap.size, 2, none⟩ (.string ⟨#[]⟩)) = WF at *
      have hG : Blk WF w.heap.size #[.int .i64 0, .int .i64 0, .string ⟨#[]⟩] 25 := hF
      have m0 := hG.cell 0 (.int .i64 0) rfl
      have m1 := hG.cell 1 (.int .i64 0) rfl
      have m2 := hG.cell 2 (.string ⟨#[]⟩) rfl
      rw [HV.out]
      exact bodyPost_ret (v := .tuple #[.agg #[.int .i64 0, .int .i64 0, .string ⟨#[]⟩], .bool false]) (by simp [results, go_sem, m0, m1, m2]) rfl ⟨rfl, FB⟩
  · rw [if_neg hc] at HU
    rw [HU.out] at c1
    have HV : Hid (readSn s = .tuple #[.agg #[.int .i64 0, .int .i64 0, .string ⟨#[]⟩], .bool false]) := by unfold Hid; rw [HR.out, if_neg (fun h => hc h.1)]
    have z1 : ((code s : Int) == 0) = false := by rw [beq_eq_false_iff_ne]; omega
    have z2 : ¬ (code s : Int) = 0 := by omega
    obtain ⟨ii, ok, cA⟩ := spec_rf ⟨#[]⟩ (by unfold maxLen; exact Nat.zero_le _)
    clear hc hs
    generalize code s = cd at *
    go_enter Tryd.func15, Tryd.ntmps15
    go_wp2_with fail
    generalize w.alloc (.cells #[.int .i64 0, .int .i64 0, .string ⟨#[]⟩] 25) = W at *
    refine (c1 W).mono ?_
    rintro e w1 ⟨rfl, hb1⟩
    have B1 : Hid (Below w.heap.size w w1) := B0.out.trans (hb1.mono B0.out.size)
    have K1 : Hid (Blk w1 w.heap.size #[.int .i64 0, .int .i64 0, .string ⟨#[]⟩] 25) := K0.out.on hb1 K0.out.lt
    clear hb1 c1 B0 K0
    go_wp2_with fail
    refine (cA _).mono ?_
    rintro e w' ⟨rfl, rfl⟩
    have r0 := K1.out.cell 0 (.int .i64 0) rfl
    have g0 := K1.out.free 0
    have r1 := K1.out.cell 1 (.int .i64 0) rfl
    have g1 := K1.out.free 1
    have r2 := K1.out.cell 2 (.string ⟨#[]⟩) rfl
    have g2 := K1.out.free 2
    go_wp2_with fail
    have hF := (((K1.out.set 0 (.int .i64 0)).set 1 (.int .i64 0)).set 2 (.string ⟨#[]⟩))
    have FB := (((B1.out.setCell (Nat.le_refl _) (.int .i64 0) (p := ⟨_, 0, none⟩)).setCell (Nat.le_refl _) (.int .i64 0) (p := ⟨_, 1, none⟩)).setCell (Nat.le_refl _) (.string ⟨#[]⟩) (p := ⟨_, 2, none⟩))
    clear  r0 r1 r2 g0 g1 g2
    generalize (((w1.setCell ⟨w.heap.size, 0, none⟩ (.int .i64 0)).setCell ⟨w.heap.size, 1, none⟩ (.int .i64 0)).setCell ⟨w.heap.size, 2, none⟩ (.string ⟨#[]⟩)) = WF at *
    have hG : Blk WF w.heap.size #[.int .i64 0, .int .i64 0, .string ⟨#[]⟩] 25 := hF
    have m0 := hG.cell 0 (.int .i64 0) rfl
    have m1 := hG.cell 1 (.int .i64 0) rfl
    have m2 := hG.cell 2 (.string ⟨#[]⟩) rfl
    rw [HV.out]
    exact bodyPost_ret (v := .tuple #[.agg #[.int .i64 0, .int .i64 0, .string ⟨#[]⟩], .bool false]) (by simp [results, go_sem, m0, m1, m2]) rfl ⟨rfl, FB⟩
end Go.Proofs.YtkajnknhggfpoaaDoor
