/-
  What is drawn: contracts of spec.l6Snap, spec.l6AnySnap and spec.DrawShowSnap: some snapshot, whatever the code.
-/
import Derived.Test.YtkajnknhggfpoaaDoorRows
import Derived.Test.YtkajnknhggfpoaaDoorSnRead
import Derived.Test.YtkajnknhggfpoaaDoorSnCur
namespace Go.Proofs.YtkajnknhggfpoaaDoor
open Go.ChangeShapes Go.WideShapes Go.ChangeAt Go.RowKit Go.PlainAid
set_option linter.unusedVariables false

/-- A cursor lies in block p, wherever it stands. -/
def AtS (w : World) (p : Nat) : Prop := ∃ ao len cap cs s, At w p ao len cap cs s
theorem AtS.lt {w : World} {p : Nat} (h : AtS w p) : p < w.heap.size := by obtain ⟨_, _, _, _, _, h⟩ := h; exact h.lt
theorem AtS.below {w w' : World} {B p : Nat} (h : AtS w p) (hb : Below B w w') (hp : p < B) : AtS w' p := by
  obtain ⟨ao, len, cap, cs, s, h⟩ := h
  exact ⟨ao, len, cap, cs, s, h.below hb hp⟩
theorem Blk.mod {w w' : World} {C p g : Nat} {cs : Array Value} {t : TypeId} (h : Blk w g cs t) (hm : Mod C p w w') (hg : g < C) (hp : g ≠ p) : Blk w' g cs t := by
  unfold Blk
  rw [hm.block g hg hp]
  exact h
theorem below_some (w : World) (p : Nat) (n : Int) (h0 : 0 < n) (h1 : n ≤ 1000) (h : AtS w p) :
    Calls Tryd.prog 78 #[.pointer (some ⟨p, 0, none⟩), .int .i64 n] w fun e w' => ∃ v : Int, e = .returned (.int .i64 v) ∧ (0 ≤ v ∧ v < n) ∧ AtS w' p ∧ Mod w.heap.size p w w' := by
  obtain ⟨ao, len, cap, cs, s, h⟩ := h
  have bd := belowV_bd len cs n s
  exact (below_any w p ao len cap cs s n (by omega) h).mono fun e w' k => ⟨_, k.1, ⟨bd.1, bd.2 h0⟩, ⟨_, _, _, _, _, k.2.1⟩, k.2.2⟩
theorem once_some (w : World) (p : Nat) (n : Int) (h1 : n ≤ 1000) (h : AtS w p) :
    Calls Tryd.prog 54 #[.pointer (some ⟨p, 0, none⟩), .int .i64 n] w fun e w' => ∃ b : Bool, e = .returned (.bool b) ∧ AtS w' p ∧ Mod w.heap.size p w w' := by
  obtain ⟨ao, len, cap, cs, s, h⟩ := h
  exact (once_any w p ao len cap cs s n (by omega) h).mono fun e w' k => ⟨_, k.1, ⟨_, _, _, _, _, k.2.1⟩, k.2.2⟩
theorem text_some (w : World) (p : Nat) (n : Int) (h0 : 0 ≤ n) (h1 : n ≤ 1000) (h : AtS w p) :
    Calls Tryd.prog 79 #[.pointer (some ⟨p, 0, none⟩), .int .i64 n] w fun e w' => ∃ d : ByteArray, e = .returned (.string d) ∧ d.size ≤ 1000 ∧ AtS w' p ∧ Mod w.heap.size p w w' := by
  obtain ⟨ao, len, cap, cs, s, h⟩ := h
  have hl := textV_length len cs n s h0
  exact (text_any w p ao len cap cs s n h0 h1 h).mono fun e w' k => ⟨_, k.1, by rw [txt_size]; omega, ⟨_, _, _, _, _, k.2.1⟩, k.2.2⟩
theorem pick_some (w : World) (p g : Nat) (h : AtS w p) (hgp : g ≠ p) (hB : Blk w g #[.int .i64 (-1), .int .i64 0, .int .i64 1, .int .i64 100000, .int .i64 100001] 3) :
    Calls Tryd.prog 55 #[.pointer (some ⟨p, 0, none⟩), .slice (some ⟨g, 0, none⟩) 5 5] w fun e w' => ∃ v : Int, e = .returned (.int .i64 v) ∧ AtS w' p ∧ Mod w.heap.size p w w' := by
  obtain ⟨ao, len, cap, cs, s, h⟩ := h
  refine (pick_any w p ao len cap cs s g [-1, 0, 1, 100000, 100001] (by decide) (by decide) h hgp hB.lt ?_).mono fun e w' k => ⟨_, k.1, ⟨_, _, _, _, _, k.2.1⟩, k.2.2⟩
  intro j hj
  rcases (show j = 0 ∨ j = 1 ∨ j = 2 ∨ j = 3 ∨ j = 4 by simp at hj; omega) with rfl | rfl | rfl | rfl | rfl <;> exact hB.cell _ _ rfl
def lenOf : Value → Nat
  | .slice _ l _ => l
  | _ => 0
/-- What is drawn. -/
def DrawnS (w : World) (p : Nat) (e : Ending) (w' : World) : Prop := ∃ x : Snp, e = .returned (vSnp x) ∧ x.data.size ≤ 30001 ∧ AtS w' p ∧ Mod w.heap.size p w w'
theorem DrawnS.mk {w w' : World} {p : Nat} (i t : Int) (d : ByteArray) (hd : d.size ≤ 30001) (hA : AtS w' p) (hM : Mod w.heap.size p w w') : DrawnS w p (.returned (.agg #[.int .i64 i, .int .i64 t, .string d])) w' := ⟨⟨i, t, d⟩, rfl, hd, hA, hM⟩

set_option maxRecDepth 20000 in
set_option maxHeartbeats 4000000 in
theorem snap_any (w : World) (p : Nat) (h : AtS w p) : Calls Tryd.prog 53 #[.pointer (some ⟨p, 0, none⟩)] w (DrawnS w p) := by
  have HP : Hid (p < w.heap.size) := h.lt
  have hal := below_one w (.cells #[.int .i64 0, .int .i64 0, .string ⟨#[]⟩] 25)
  have K0 : Hid (Blk (w.alloc (.cells #[.int .i64 0, .int .i64 0, .string ⟨#[]⟩] 25)) w.heap.size #[.int .i64 0, .int .i64 0, .string ⟨#[]⟩] 25) := Blk.new _ _ _
  have A0 : Hid (AtS (w.alloc (.cells #[.int .i64 0, .int .i64 0, .string ⟨#[]⟩] 25)) p) := h.below hal h.lt
  have M0 : Hid (Mod w.heap.size p w (w.alloc (.cells #[.int .i64 0, .int .i64 0, .string ⟨#[]⟩] 25))) := Mod.of_below hal
  have KG : Hid (w.heap.size ≤ w.heap.size) := Nat.le_refl _
  clear hal h
  go_enter Tryd.func53, Tryd.ntmps53
  go_wp2_with fail
  generalize w.alloc (.cells #[.int .i64 0, .int .i64 0, .string ⟨#[]⟩] 25) = w0 at *
  refine (once_some w0 p 8 (by omega) A0.out).mono ?_
  rintro e w1 ⟨b1, rfl, hA, hm⟩
  have A1 : Hid (AtS w1 p) := hA
  have M1 : Hid (Mod w.heap.size p w w1) := M0.out.trans (hm.mono M0.out.size)
  have K1 : Hid (Blk w1 w.heap.size #[.int .i64 0, .int .i64 0, .string ⟨#[]⟩] 25) := K0.out.mod hm K0.out.lt (by have := HP.out; have := KG.out; omega)
  clear hA hm A0 M0 K0
  cases b1
  rotate_left
  · have r0 := K1.out.cell 0 (.int .i64 0) rfl
    have g0 := K1.out.free 0
    have r1 := K1.out.cell 1 (.int .i64 0) rfl
    have g1 := K1.out.free 1
    have r2 := K1.out.cell 2 (.string ⟨#[]⟩) rfl
    have g2 := K1.out.free 2
    go_wp2_with fail
    have hF := (((K1.out.set 0 (.int .i64 0)).set 1 (.int .i64 0)).set 2 (.string ⟨#[]⟩))
    have FB := ((((Below.refl w.heap.size w1).setCell (Nat.le_refl _) (.int .i64 0) (p := ⟨_, 0, none⟩)).setCell (Nat.le_refl _) (.int .i64 0) (p := ⟨_, 1, none⟩)).setCell (Nat.le_refl _) (.string ⟨#[]⟩) (p := ⟨_, 2, none⟩))
    clear  r0 r1 r2 g0 g1 g2
    generalize (((w1.setCell ⟨w.heap.size, 0, none⟩ (.int .i64 0)).setCell ⟨w.heap.size, 1, none⟩ (.int .i64 0)).setCell ⟨w.heap.size, 2, none⟩ (.string ⟨#[]⟩)) = WF at *
    have hG : Blk WF w.heap.size #[.int .i64 0, .int .i64 0, .string ⟨#[]⟩] 25 := hF
    have m0 := hG.cell 0 (.int .i64 0) rfl
    have m1 := hG.cell 1 (.int .i64 0) rfl
    have m2 := hG.cell 2 (.string ⟨#[]⟩) rfl
    exact bodyPost_ret (v := .agg #[.int .i64 0, .int .i64 0, .string ⟨#[]⟩]) (by simp [results, go_sem, m0, m1, m2]) rfl (DrawnS.mk _ _ _ (Nat.zero_le _) (A1.out.below FB HP.out) (M1.out.trans (Mod.of_below FB)))
  go_wp2_with fail
  refine (below_some w1 p 12 (by omega) (by omega) A1.out).mono ?_
  rintro e w2 ⟨v1, rfl, ⟨v10, v11⟩, hA, hm⟩
  have A2 : Hid (AtS w2 p) := hA
  have M2 : Hid (Mod w.heap.size p w w2) := M1.out.trans (hm.mono M1.out.size)
  have K2 : Hid (Blk w2 w.heap.size #[.int .i64 0, .int .i64 0, .string ⟨#[]⟩] 25) := K1.out.mod hm K1.out.lt (by have := HP.out; have := KG.out; omega)
  clear hA hm A1 M1 K1
  go_wp2_with fail
  refine (below_some w2 p 6 (by omega) (by omega) A2.out).mono ?_
  rintro e w3 ⟨v2, rfl, ⟨v20, v21⟩, hA, hm⟩
  have A3 : Hid (AtS w3 p) := hA
  have M3 : Hid (Mod w.heap.size p w w3) := M2.out.trans (hm.mono M2.out.size)
  have K3 : Hid (Blk w3 w.heap.size #[.int .i64 0, .int .i64 0, .string ⟨#[]⟩] 25) := K2.out.mod hm K2.out.lt (by have := HP.out; have := KG.out; omega)
  clear hA hm A2 M2 K2
  go_wp2_with fail
  refine (text_some w3 p 30 (by omega) (by omega) A3.out).mono ?_
  rintro e w4 ⟨d, rfl, hd, hA, hm⟩
  have A4 : Hid (AtS w4 p) := hA
  have M4 : Hid (Mod w.heap.size p w w4) := M3.out.trans (hm.mono M3.out.size)
  have K4 : Hid (Blk w4 w.heap.size #[.int .i64 0, .int .i64 0, .string ⟨#[]⟩] 25) := K3.out.mod hm K3.out.lt (by have := HP.out; have := KG.out; omega)
  clear hA hm A3 M3 K3
  have z1 : wrap64 (1 + v1) = 1 + v1 := by unfold wrap64; omega
  have z2 : wrap64 (1 + v2) = 1 + v2 := by unfold wrap64; omega
  go_wp2_with fail
  have hal := below_one w4 (.cells #[.int .i64 (1 + v1), .int .i64 (1 + v2), .string d] 25)
  have L5 : Hid (Blk (w4.alloc (.cells #[.int .i64 (1 + v1), .int .i64 (1 + v2), .string d] 25)) w4.heap.size #[.int .i64 (1 + v1), .int .i64 (1 + v2), .string d] 25) := Blk.new _ _ _
  have K5 : Hid (Blk (w4.alloc (.cells #[.int .i64 (1 + v1), .int .i64 (1 + v2), .string d] 25)) w.heap.size #[.int .i64 0, .int .i64 0, .string ⟨#[]⟩] 25) := K4.out.alloc _
  have A5 : Hid (AtS (w4.alloc (.cells #[.int .i64 (1 + v1), .int .i64 (1 + v2), .string d] 25)) p) := A4.out.below hal A4.out.lt
  have M5 : Hid (Mod w.heap.size p w (w4.alloc (.cells #[.int .i64 (1 + v1), .int .i64 (1 + v2), .string d] 25))) := M4.out.alloc M4.out.size _
  have LG : Hid (w.heap.size < w4.heap.size) := K4.out.lt
  clear hal K4 A4 M4
  generalize w4.alloc (.cells #[.int .i64 (1 + v1), .int .i64 (1 + v2), .string d] 25) = w5 at *
  generalize w4.heap.size = gb at *
  have HD : Hid (d.size ≤ 30001) := by unfold Hid; omega
  clear hd
  generalize 1 + v1 = i1 at *
  generalize 1 + v2 = t1 at *
  clear v10 v11 v20 v21
  refine (once_some w5 p 40 (by omega) A5.out).mono ?_
  rintro e w6 ⟨b2, rfl, hA, hm⟩
  have A6 : Hid (AtS w6 p) := hA
  have M6 : Hid (Mod w.heap.size p w w6) := M5.out.trans (hm.mono M5.out.size)
  have K6 : Hid (Blk w6 w.heap.size #[.int .i64 0, .int .i64 0, .string ⟨#[]⟩] 25) := K5.out.mod hm K5.out.lt (by have := HP.out; have := KG.out; omega)
  have L6 : Hid (Blk w6 gb #[.int .i64 i1, .int .i64 t1, .string d] 25) := L5.out.mod hm L5.out.lt (by have := HP.out; have := LG.out; omega)
  clear hA hm A5 M5 K5 L5
  cases b2
  · have e0 := L6.out.cell 0 (.int .i64 i1) rfl
    have e1 := L6.out.cell 1 (.int .i64 t1) rfl
    have e2 := L6.out.cell 2 (.string d) rfl
    have r0 := K6.out.cell 0 (.int .i64 0) rfl
    have g0 := K6.out.free 0
    have r1 := K6.out.cell 1 (.int .i64 0) rfl
    have g1 := K6.out.free 1
    have r2 := K6.out.cell 2 (.string ⟨#[]⟩) rfl
    have g2 := K6.out.free 2
    go_wp2_with fail
    have hF := (((K6.out.set 0 (.int .i64 i1)).set 1 (.int .i64 t1)).set 2 (.string d))
    have FB := ((((Below.refl w.heap.size w6).setCell (Nat.le_refl _) (.int .i64 i1) (p := ⟨_, 0, none⟩)).setCell (Nat.le_refl _) (.int .i64 t1) (p := ⟨_, 1, none⟩)).setCell (Nat.le_refl _) (.string d) (p := ⟨_, 2, none⟩))
    clear e0 e1 e2 r0 r1 r2 g0 g1 g2
    generalize (((w6.setCell ⟨w.heap.size, 0, none⟩ (.int .i64 i1)).setCell ⟨w.heap.size, 1, none⟩ (.int .i64 t1)).setCell ⟨w.heap.size, 2, none⟩ (.string d)) = WF at *
    have hG : Blk WF w.heap.size #[.int .i64 i1, .int .i64 t1, .string d] 25 := hF
    have m0 := hG.cell 0 (.int .i64 i1) rfl
    have m1 := hG.cell 1 (.int .i64 t1) rfl
    have m2 := hG.cell 2 (.string d) rfl
    exact bodyPost_ret (v := .agg #[.int .i64 i1, .int .i64 t1, .string d]) (by simp [results, go_sem, m0, m1, m2]) rfl (DrawnS.mk _ _ _ HD.out (A6.out.below FB HP.out) (M6.out.trans (Mod.of_below FB)))
  go_wp2_with fail
  refine (below_some w6 p 2 (by omega) (by omega) A6.out).mono ?_
  rintro e w7 ⟨v3, rfl, ⟨v30, v31⟩, hA, hm⟩
  have A7 : Hid (AtS w7 p) := hA
  have M7 : Hid (Mod w.heap.size p w w7) := M6.out.trans (hm.mono M6.out.size)
  have K7 : Hid (Blk w7 w.heap.size #[.int .i64 0, .int .i64 0, .string ⟨#[]⟩] 25) := K6.out.mod hm K6.out.lt (by have := HP.out; have := KG.out; omega)
  have L7 : Hid (Blk w7 gb #[.int .i64 i1, .int .i64 t1, .string d] 25) := L6.out.mod hm L6.out.lt (by have := HP.out; have := LG.out; omega)
  clear hA hm A6 M6 K6 L6
  obtain ⟨N, hN⟩ : ∃ N : Nat, 30000 + v3 = (N : Int) := ⟨(30000 + v3).toNat, by omega⟩
  have z3 : wrap64 (30000 + v3) = (N : Int) := by unfold wrap64; omega
  have hN1 : (N : Int) ≤ 30001 := by omega
  have HV : Hid (30000 + v3 = (N : Int)) := hN
  clear v30 v31 hN
  go_wp2_with fail
  have hal := below_one w7 (.cells #[] 5)
  have G8 : Hid (gb < w7.heap.size) := L7.out.lt
  have W8 : Hid (w.heap.size < w7.heap.size) := K7.out.lt
  have P8 : Hid (p < w7.heap.size) := A7.out.lt
  have bf := Buf.made w7 w7.heap.size 0 #[] (Nat.le_refl _) (by simp [maxLen]) rfl
  have st : AtS (w7.alloc (.cells #[] 5)) p ∧ Mod w.heap.size p w (w7.alloc (.cells #[] 5)) ∧ Blk (w7.alloc (.cells #[] 5)) w.heap.size #[.int .i64 0, .int .i64 0, .string ⟨#[]⟩] 25 ∧ Blk (w7.alloc (.cells #[] 5)) gb #[.int .i64 i1, .int .i64 t1, .string d] 25 ∧ w7.heap.size ≤ (w7.alloc (.cells #[] 5)).heap.size := ⟨A7.out.below hal P8.out, M7.out.alloc M7.out.size _, K7.out.alloc _, L7.out.alloc _, hal.size⟩
  clear hal A7 M7 K7 L7
  generalize w7.heap.size = B at *
  generalize w7.alloc (.cells #[] 5) = w8 at *
  rw [z3]
  clear z3
  go_loopw [5] (fun v5 wr => ∃ l : List UInt8, l.length ≤ N ∧ Buf wr B v5 l ∧ AtS wr p ∧ Mod w.heap.size p w wr ∧ Blk wr w.heap.size #[.int .i64 0, .int .i64 0, .string ⟨#[]⟩] 25 ∧ Blk wr gb #[.int .i64 i1, .int .i64 t1, .string d] 25 ∧ B ≤ wr.heap.size) (fun v5 _ => N - lenOf v5)
  case atStart => exact ⟨[], Nat.zero_le _, bf, st⟩
  case round =>
    obtain ⟨l, hl, hbuf, hA, hM, hK, hL, hB⟩ := hrel
    obtain ⟨ao', cap', rfl, _⟩ := hbuf.code
    have A9 : Hid (AtS wr p) := hA
    have M9 : Hid (Mod w.heap.size p w wr) := hM
    have K9 : Hid (Blk wr w.heap.size #[.int .i64 0, .int .i64 0, .string ⟨#[]⟩] 25) := hK
    have L9 : Hid (Blk wr gb #[.int .i64 i1, .int .i64 t1, .string d] 25) := hL
    clear hA hM hK hL bf st
    have q1 : (l.length : Int) ≤ 30001 := by omega
    by_cases hlt : l.length < N
    · have q2 : (l.length : Int) < (N : Int) := by omega
      have HC : Hid (#[Value.int .u8 ((l.length : Int) % 7)] = byteCells [byt (l.length % 7)]) := one_cell _ _ (by omega) (by omega)
      go_wp2_with (at_builtin; refine wpList_append_bytes rfl (.tmp 28) (.tmp 33) 22 rfl Tryd.underlying22 Tryd.info5 B _ l rfl hbuf _ [byt (l.length % 7)] HC.out 1 1 rfl rfl (by simp; omega) hB ?_; intro v' w10 hbuf4 hb4)
      go_roundw
      case rel => exact ⟨l ++ [byt (l.length % 7)], by simp; omega, hbuf4, A9.out.below hb4 P8.out, M9.out.trans (Mod.of_below (hb4.mono (Nat.le_of_lt W8.out))), K9.out.on hb4 W8.out, L9.out.on hb4 G8.out, Nat.le_trans hB hb4.size⟩
      case measure =>
        obtain ⟨ao4, cap4, rfl, _⟩ := hbuf4.code
        simp [lenOf]
        omega
    · have q2 : (N : Int) ≤ (l.length : Int) := by omega
      have q3 : decide ((l.length : Int) < (N : Int)) = false := decide_eq_false (by omega)
      have hcv := hbuf.string (P := Tryd.prog) 22 9 Tryd.underlying22 Tryd.underlying5 Tryd.underlying9
      have HT : Hid ((txt l).size ≤ 30001) := by unfold Hid; rw [txt_size]; omega
      clear hlt
      have s2 := L9.out.cell 2 (.string d) rfl
      have s3 := L9.out.free 2
      have hs10 : Below w.heap.size wr (wr.setCell ⟨gb, 2, none⟩ (.string (txt l))) := (Below.refl w.heap.size wr).setCell (Nat.le_of_lt LG.out) (.string (txt l)) (p := ⟨gb, 2, none⟩)
      have A10 : Hid (AtS (wr.setCell ⟨gb, 2, none⟩ (.string (txt l))) p) := A9.out.below hs10 HP.out
      have M10 : Hid (Mod w.heap.size p w (wr.setCell ⟨gb, 2, none⟩ (.string (txt l)))) := M9.out.trans (Mod.of_below hs10)
      have K10 : Hid (Blk (wr.setCell ⟨gb, 2, none⟩ (.string (txt l))) w.heap.size #[.int .i64 0, .int .i64 0, .string ⟨#[]⟩] 25) := K9.out.other (Nat.ne_of_lt LG.out) 2 _
      have L10 : Hid (Blk (wr.setCell ⟨gb, 2, none⟩ (.string (txt l))) gb #[.int .i64 i1, .int .i64 t1, .string (txt l)] 25) := L9.out.set 2 _
      have e0 := L10.out.cell 0 (.int .i64 i1) rfl
      have e1 := L10.out.cell 1 (.int .i64 t1) rfl
      have e2 := L10.out.cell 2 (.string (txt l)) rfl
      clear hs10
      have r0 := K10.out.cell 0 (.int .i64 0) rfl
      have g0 := K10.out.free 0
      have r1 := K10.out.cell 1 (.int .i64 0) rfl
      have g1 := K10.out.free 1
      have r2 := K10.out.cell 2 (.string ⟨#[]⟩) rfl
      have g2 := K10.out.free 2
      go_wp2_with fail
      have hF := (((K10.out.set 0 (.int .i64 i1)).set 1 (.int .i64 t1)).set 2 (.string (txt l)))
      have FB := ((((Below.refl w.heap.size (wr.setCell ⟨gb, 2, none⟩ (.string (txt l)))).setCell (Nat.le_refl _) (.int .i64 i1) (p := ⟨_, 0, none⟩)).setCell (Nat.le_refl _) (.int .i64 t1) (p := ⟨_, 1, none⟩)).setCell (Nat.le_refl _) (.string (txt l)) (p := ⟨_, 2, none⟩))
      clear e0 e1 e2 s2 s3 hcv r0 r1 r2 g0 g1 g2
      generalize ((((wr.setCell ⟨gb, 2, none⟩ (.string (txt l))).setCell ⟨w.heap.size, 0, none⟩ (.int .i64 i1)).setCell ⟨w.heap.size, 1, none⟩ (.int .i64 t1)).setCell ⟨w.heap.size, 2, none⟩ (.string (txt l))) = WF at *
      have hG : Blk WF w.heap.size #[.int .i64 i1, .int .i64 t1, .string (txt l)] 25 := hF
      have m0 := hG.cell 0 (.int .i64 i1) rfl
      have m1 := hG.cell 1 (.int .i64 t1) rfl
      have m2 := hG.cell 2 (.string (txt l)) rfl
      exact bodyPost_ret (v := .agg #[.int .i64 i1, .int .i64 t1, .string (txt l)]) (by simp [results, go_sem, m0, m1, m2]) rfl (DrawnS.mk _ _ _ HT.out (A10.out.below FB HP.out) (M10.out.trans (Mod.of_below FB)))


set_option maxRecDepth 20000 in
set_option maxHeartbeats 4000000 in
theorem anySnap (w : World) (p : Nat) (h : AtS w p) : Calls Tryd.prog 27 #[.pointer (some ⟨p, 0, none⟩)] w (DrawnS w p) := by
  have HP : Hid (p < w.heap.size) := h.lt
  have hal := below_one w (.cells #[.int .i64 0, .int .i64 0, .string ⟨#[]⟩] 25)
  have K0 : Hid (Blk (w.alloc (.cells #[.int .i64 0, .int .i64 0, .string ⟨#[]⟩] 25)) w.heap.size #[.int .i64 0, .int .i64 0, .string ⟨#[]⟩] 25) := Blk.new _ _ _
  have A0 : Hid (AtS (w.alloc (.cells #[.int .i64 0, .int .i64 0, .string ⟨#[]⟩] 25)) p) := h.below hal h.lt
  have M0 : Hid (Mod w.heap.size p w (w.alloc (.cells #[.int .i64 0, .int .i64 0, .string ⟨#[]⟩] 25))) := Mod.of_below hal
  have KG : Hid (w.heap.size ≤ w.heap.size) := Nat.le_refl _
  clear hal h
  go_enter Tryd.func27, Tryd.ntmps27
  go_wp2_with fail
  generalize w.alloc (.cells #[.int .i64 0, .int .i64 0, .string ⟨#[]⟩] 25) = w0 at *
  refine (snap_any w0 p A0.out).mono ?_
  rintro e w1 ⟨⟨i, t, d⟩, rfl, hd, hA, hm⟩
  have A1 : Hid (AtS w1 p) := hA
  have M1 : Hid (Mod w.heap.size p w w1) := M0.out.trans (hm.mono M0.out.size)
  have K1 : Hid (Blk w1 w.heap.size #[.int .i64 0, .int .i64 0, .string ⟨#[]⟩] 25) := K0.out.mod hm K0.out.lt (by have := HP.out; have := KG.out; omega)
  clear hA hm A0 M0 K0
  unfold vSnp
  have HD : Hid (d.size ≤ 30001) := hd
  clear hd
  go_wp2_with fail
  have hal := below_one w1 (.cells #[.int .i64 i, .int .i64 t, .string d] 25)
  have L2 : Hid (Blk (w1.alloc (.cells #[.int .i64 i, .int .i64 t, .string d] 25)) w1.heap.size #[.int .i64 i, .int .i64 t, .string d] 25) := Blk.new _ _ _
  have K2 : Hid (Blk (w1.alloc (.cells #[.int .i64 i, .int .i64 t, .string d] 25)) w.heap.size #[.int .i64 0, .int .i64 0, .string ⟨#[]⟩] 25) := K1.out.alloc _
  have A2 : Hid (AtS (w1.alloc (.cells #[.int .i64 i, .int .i64 t, .string d] 25)) p) := A1.out.below hal A1.out.lt
  have M2 : Hid (Mod w.heap.size p w (w1.alloc (.cells #[.int .i64 i, .int .i64 t, .string d] 25))) := M1.out.alloc M1.out.size _
  have LG : Hid (w.heap.size < w1.heap.size) := K1.out.lt
  clear hal K1 A1 M1
  generalize w1.alloc (.cells #[.int .i64 i, .int .i64 t, .string d] 25) = w2 at *
  generalize w1.heap.size = gb at *
  refine (once_some w2 p 8 (by omega) A2.out).mono ?_
  rintro e w3 ⟨b1, rfl, hA, hm⟩
  have A3 : Hid (AtS w3 p) := hA
  have M3 : Hid (Mod w.heap.size p w w3) := M2.out.trans (hm.mono M2.out.size)
  have K3 : Hid (Blk w3 w.heap.size #[.int .i64 0, .int .i64 0, .string ⟨#[]⟩] 25) := K2.out.mod hm K2.out.lt (by have := HP.out; have := KG.out; omega)
  have L3 : Hid (Blk w3 gb #[.int .i64 i, .int .i64 t, .string d] 25) := L2.out.mod hm L2.out.lt (by have := HP.out; have := LG.out; omega)
  clear hA hm A2 M2 K2 L2
  cases b1
  · go_wp2_with fail
    refine (once_some w3 p 8 (by omega) A3.out).mono ?_
    rintro e w4 ⟨bb, rfl, hA, hm⟩
    have A4 : Hid (AtS w4 p) := hA
    have M4 : Hid (Mod w.heap.size p w w4) := M3.out.trans (hm.mono M3.out.size)
    have K4 : Hid (Blk w4 w.heap.size #[.int .i64 0, .int .i64 0, .string ⟨#[]⟩] 25) := K3.out.mod hm K3.out.lt (by have := HP.out; have := KG.out; omega)
    have L4 : Hid (Blk w4 gb #[.int .i64 i, .int .i64 t, .string d] 25) := L3.out.mod hm L3.out.lt (by have := HP.out; have := LG.out; omega)
    clear hA hm A3 M3 K3 L3
    cases bb
    · have e0 := L4.out.cell 0 (.int .i64 i) rfl
      have e1 := L4.out.cell 1 (.int .i64 t) rfl
      have e2 := L4.out.cell 2 (.string d) rfl
      have r0 := K4.out.cell 0 (.int .i64 0) rfl
      have g0 := K4.out.free 0
      have r1 := K4.out.cell 1 (.int .i64 0) rfl
      have g1 := K4.out.free 1
      have r2 := K4.out.cell 2 (.string ⟨#[]⟩) rfl
      have g2 := K4.out.free 2
      go_wp2_with fail
      have hF := (((K4.out.set 0 (.int .i64 i)).set 1 (.int .i64 t)).set 2 (.string d))
      have FB := ((((Below.refl w.heap.size w4).setCell (Nat.le_refl _) (.int .i64 i) (p := ⟨_, 0, none⟩)).setCell (Nat.le_refl _) (.int .i64 t) (p := ⟨_, 1, none⟩)).setCell (Nat.le_refl _) (.string d) (p := ⟨_, 2, none⟩))
      clear e0 e1 e2 r0 r1 r2 g0 g1 g2
      generalize (((w4.setCell ⟨w.heap.size, 0, none⟩ (.int .i64 i)).setCell ⟨w.heap.size, 1, none⟩ (.int .i64 t)).setCell ⟨w.heap.size, 2, none⟩ (.string d)) = WF at *
      have hG : Blk WF w.heap.size #[.int .i64 i, .int .i64 t, .string d] 25 := hF
      have m0 := hG.cell 0 (.int .i64 i) rfl
      have m1 := hG.cell 1 (.int .i64 t) rfl
      have m2 := hG.cell 2 (.string d) rfl
      exact bodyPost_ret (v := .agg #[.int .i64 i, .int .i64 t, .string d]) (by simp [results, go_sem, m0, m1, m2]) rfl (DrawnS.mk _ _ _ HD.out (A4.out.below FB HP.out) (M4.out.trans (Mod.of_below FB)))
    · go_wp2_with fail
      have hal := below_one w4 (.cells #[.int .i64 (-1), .int .i64 0, .int .i64 1, .int .i64 100000, .int .i64 100001] 3)
      have R0 : Hid (Blk (w4.alloc (.cells #[.int .i64 (-1), .int .i64 0, .int .i64 1, .int .i64 100000, .int .i64 100001] 3)) w4.heap.size #[.int .i64 (-1), .int .i64 0, .int .i64 1, .int .i64 100000, .int .i64 100001] 3) := Blk.new _ _ _
      have Ax : Hid (AtS (w4.alloc (.cells #[.int .i64 (-1), .int .i64 0, .int .i64 1, .int .i64 100000, .int .i64 100001] 3)) p) := A4.out.below hal A4.out.lt
      have Mx : Hid (Mod w.heap.size p w (w4.alloc (.cells #[.int .i64 (-1), .int .i64 0, .int .i64 1, .int .i64 100000, .int .i64 100001] 3))) := M4.out.alloc M4.out.size _
      have RG : Hid (w4.heap.size ≠ p) := Nat.ne_of_gt A4.out.lt
      have Kx : Hid (Blk (w4.alloc (.cells #[.int .i64 (-1), .int .i64 0, .int .i64 1, .int .i64 100000, .int .i64 100001] 3)) w.heap.size #[.int .i64 0, .int .i64 0, .string ⟨#[]⟩] 25) := K4.out.alloc _
      have Lx : Hid (Blk (w4.alloc (.cells #[.int .i64 (-1), .int .i64 0, .int .i64 1, .int .i64 100000, .int .i64 100001] 3)) gb #[.int .i64 i, .int .i64 t, .string d] 25) := L4.out.alloc _
      clear hal A4 M4 K4 L4
      generalize w4.alloc (.cells #[.int .i64 (-1), .int .i64 0, .int .i64 1, .int .i64 100000, .int .i64 100001] 3) = wx at *
      generalize w4.heap.size = gr at *
      refine (pick_some wx p gr Ax.out RG.out R0.out).mono ?_
      rintro e w5 ⟨v5, rfl, hA, hm⟩
      have A5 : Hid (AtS w5 p) := hA
      have M5 : Hid (Mod w.heap.size p w w5) := Mx.out.trans (hm.mono Mx.out.size)
      have K5 : Hid (Blk w5 w.heap.size #[.int .i64 0, .int .i64 0, .string ⟨#[]⟩] 25) := Kx.out.mod hm Kx.out.lt (by have := HP.out; have := KG.out; omega)
      have L5 : Hid (Blk w5 gb #[.int .i64 i, .int .i64 t, .string d] 25) := Lx.out.mod hm Lx.out.lt (by have := HP.out; have := LG.out; omega)
      clear hA hm Ax Mx R0 RG Kx Lx
      have s2 := L5.out.cell 1 (.int .i64 t) rfl
      have s3 := L5.out.free 1
      have hs1 : Below w.heap.size w5 (w5.setCell ⟨gb, 1, none⟩ (.int .i64 v5)) := (Below.refl w.heap.size w5).setCell (Nat.le_of_lt LG.out) (.int .i64 v5) (p := ⟨gb, 1, none⟩)
      have A6 : Hid (AtS (w5.setCell ⟨gb, 1, none⟩ (.int .i64 v5)) p) := A5.out.below hs1 HP.out
      have M6 : Hid (Mod w.heap.size p w (w5.setCell ⟨gb, 1, none⟩ (.int .i64 v5))) := M5.out.trans (Mod.of_below hs1)
      have K6 : Hid (Blk (w5.setCell ⟨gb, 1, none⟩ (.int .i64 v5)) w.heap.size #[.int .i64 0, .int .i64 0, .string ⟨#[]⟩] 25) := K5.out.other (Nat.ne_of_lt LG.out) 1 _
      have L6 : Hid (Blk (w5.setCell ⟨gb, 1, none⟩ (.int .i64 v5)) gb #[.int .i64 i, .int .i64 v5, .string d] 25) := L5.out.set 1 _
      clear hs1
      have e0 := L6.out.cell 0 (.int .i64 i) rfl
      have e1 := L6.out.cell 1 (.int .i64 v5) rfl
      have e2 := L6.out.cell 2 (.string d) rfl
      have r0 := K6.out.cell 0 (.int .i64 0) rfl
      have g0 := K6.out.free 0
      have r1 := K6.out.cell 1 (.int .i64 0) rfl
      have g1 := K6.out.free 1
      have r2 := K6.out.cell 2 (.string ⟨#[]⟩) rfl
      have g2 := K6.out.free 2
      go_wp2_with fail
      have hF := (((K6.out.set 0 (.int .i64 i)).set 1 (.int .i64 v5)).set 2 (.string d))
      have FB := ((((Below.refl w.heap.size (w5.setCell ⟨gb, 1, none⟩ (.int .i64 v5))).setCell (Nat.le_refl _) (.int .i64 i) (p := ⟨_, 0, none⟩)).setCell (Nat.le_refl _) (.int .i64 v5) (p := ⟨_, 1, none⟩)).setCell (Nat.le_refl _) (.string d) (p := ⟨_, 2, none⟩))
      clear e0 e1 e2 s2 s3 r0 r1 r2 g0 g1 g2
      generalize ((((w5.setCell ⟨gb, 1, none⟩ (.int .i64 v5)).setCell ⟨w.heap.size, 0, none⟩ (.int .i64 i)).setCell ⟨w.heap.size, 1, none⟩ (.int .i64 v5)).setCell ⟨w.heap.size, 2, none⟩ (.string d)) = WF at *
      have hG : Blk WF w.heap.size #[.int .i64 i, .int .i64 v5, .string d] 25 := hF
      have m0 := hG.cell 0 (.int .i64 i) rfl
      have m1 := hG.cell 1 (.int .i64 v5) rfl
      have m2 := hG.cell 2 (.string d) rfl
      exact bodyPost_ret (v := .agg #[.int .i64 i, .int .i64 v5, .string d]) (by simp [results, go_sem, m0, m1, m2]) rfl (DrawnS.mk _ _ _ HD.out (A6.out.below FB HP.out) (M6.out.trans (Mod.of_below FB)))
  · go_wp2_with fail
    have hal := below_one w3 (.cells #[.int .i64 (-1), .int .i64 0, .int .i64 1, .int .i64 100000, .int .i64 100001] 3)
    have R0 : Hid (Blk (w3.alloc (.cells #[.int .i64 (-1), .int .i64 0, .int .i64 1, .int .i64 100000, .int .i64 100001] 3)) w3.heap.size #[.int .i64 (-1), .int .i64 0, .int .i64 1, .int .i64 100000, .int .i64 100001] 3) := Blk.new _ _ _
    have Ax : Hid (AtS (w3.alloc (.cells #[.int .i64 (-1), .int .i64 0, .int .i64 1, .int .i64 100000, .int .i64 100001] 3)) p) := A3.out.below hal A3.out.lt
    have Mx : Hid (Mod w.heap.size p w (w3.alloc (.cells #[.int .i64 (-1), .int .i64 0, .int .i64 1, .int .i64 100000, .int .i64 100001] 3))) := M3.out.alloc M3.out.size _
    have RG : Hid (w3.heap.size ≠ p) := Nat.ne_of_gt A3.out.lt
    have Kx : Hid (Blk (w3.alloc (.cells #[.int .i64 (-1), .int .i64 0, .int .i64 1, .int .i64 100000, .int .i64 100001] 3)) w.heap.size #[.int .i64 0, .int .i64 0, .string ⟨#[]⟩] 25) := K3.out.alloc _
    have Lx : Hid (Blk (w3.alloc (.cells #[.int .i64 (-1), .int .i64 0, .int .i64 1, .int .i64 100000, .int .i64 100001] 3)) gb #[.int .i64 i, .int .i64 t, .string d] 25) := L3.out.alloc _
    clear hal A3 M3 K3 L3
    generalize w3.alloc (.cells #[.int .i64 (-1), .int .i64 0, .int .i64 1, .int .i64 100000, .int .i64 100001] 3) = wx at *
    generalize w3.heap.size = gr at *
    refine (pick_some wx p gr Ax.out RG.out R0.out).mono ?_
    rintro e w4 ⟨v4, rfl, hA, hm⟩
    have A4 : Hid (AtS w4 p) := hA
    have M4 : Hid (Mod w.heap.size p w w4) := Mx.out.trans (hm.mono Mx.out.size)
    have K4 : Hid (Blk w4 w.heap.size #[.int .i64 0, .int .i64 0, .string ⟨#[]⟩] 25) := Kx.out.mod hm Kx.out.lt (by have := HP.out; have := KG.out; omega)
    have L4 : Hid (Blk w4 gb #[.int .i64 i, .int .i64 t, .string d] 25) := Lx.out.mod hm Lx.out.lt (by have := HP.out; have := LG.out; omega)
    clear hA hm Ax Mx R0 RG Kx Lx
    have s2 := L4.out.cell 0 (.int .i64 i) rfl
    have s3 := L4.out.free 0
    have hs1 : Below w.heap.size w4 (w4.setCell ⟨gb, 0, none⟩ (.int .i64 v4)) := (Below.refl w.heap.size w4).setCell (Nat.le_of_lt LG.out) (.int .i64 v4) (p := ⟨gb, 0, none⟩)
    have A5 : Hid (AtS (w4.setCell ⟨gb, 0, none⟩ (.int .i64 v4)) p) := A4.out.below hs1 HP.out
    have M5 : Hid (Mod w.heap.size p w (w4.setCell ⟨gb, 0, none⟩ (.int .i64 v4))) := M4.out.trans (Mod.of_below hs1)
    have K5 : Hid (Blk (w4.setCell ⟨gb, 0, none⟩ (.int .i64 v4)) w.heap.size #[.int .i64 0, .int .i64 0, .string ⟨#[]⟩] 25) := K4.out.other (Nat.ne_of_lt LG.out) 0 _
    have L5 : Hid (Blk (w4.setCell ⟨gb, 0, none⟩ (.int .i64 v4)) gb #[.int .i64 v4, .int .i64 t, .string d] 25) := L4.out.set 0 _
    clear hs1
    go_wp2_with fail
    clear s2 s3 A4 M4 K4 L4
    generalize (w4.setCell ⟨gb, 0, none⟩ (.int .i64 v4)) = w5 at *
    refine (once_some w5 p 8 (by omega) A5.out).mono ?_
    rintro e w6 ⟨bb, rfl, hA, hm⟩
    have A6 : Hid (AtS w6 p) := hA
    have M6 : Hid (Mod w.heap.size p w w6) := M5.out.trans (hm.mono M5.out.size)
    have K6 : Hid (Blk w6 w.heap.size #[.int .i64 0, .int .i64 0, .string ⟨#[]⟩] 25) := K5.out.mod hm K5.out.lt (by have := HP.out; have := KG.out; omega)
    have L6 : Hid (Blk w6 gb #[.int .i64 v4, .int .i64 t, .string d] 25) := L5.out.mod hm L5.out.lt (by have := HP.out; have := LG.out; omega)
    clear hA hm A5 M5 K5 L5
    cases bb
    · have e0 := L6.out.cell 0 (.int .i64 v4) rfl
      have e1 := L6.out.cell 1 (.int .i64 t) rfl
      have e2 := L6.out.cell 2 (.string d) rfl
      have r0 := K6.out.cell 0 (.int .i64 0) rfl
      have g0 := K6.out.free 0
      have r1 := K6.out.cell 1 (.int .i64 0) rfl
      have g1 := K6.out.free 1
      have r2 := K6.out.cell 2 (.string ⟨#[]⟩) rfl
      have g2 := K6.out.free 2
      go_wp2_with fail
      have hF := (((K6.out.set 0 (.int .i64 v4)).set 1 (.int .i64 t)).set 2 (.string d))
      have FB := ((((Below.refl w.heap.size w6).setCell (Nat.le_refl _) (.int .i64 v4) (p := ⟨_, 0, none⟩)).setCell (Nat.le_refl _) (.int .i64 t) (p := ⟨_, 1, none⟩)).setCell (Nat.le_refl _) (.string d) (p := ⟨_, 2, none⟩))
      clear e0 e1 e2 r0 r1 r2 g0 g1 g2
      generalize (((w6.setCell ⟨w.heap.size, 0, none⟩ (.int .i64 v4)).setCell ⟨w.heap.size, 1, none⟩ (.int .i64 t)).setCell ⟨w.heap.size, 2, none⟩ (.string d)) = WF at *
      have hG : Blk WF w.heap.size #[.int .i64 v4, .int .i64 t, .string d] 25 := hF
      have m0 := hG.cell 0 (.int .i64 v4) rfl
      have m1 := hG.cell 1 (.int .i64 t) rfl
      have m2 := hG.cell 2 (.string d) rfl
      exact bodyPost_ret (v := .agg #[.int .i64 v4, .int .i64 t, .string d]) (by simp [results, go_sem, m0, m1, m2]) rfl (DrawnS.mk _ _ _ HD.out (A6.out.below FB HP.out) (M6.out.trans (Mod.of_below FB)))
    · go_wp2_with fail
      have hal := below_one w6 (.cells #[.int .i64 (-1), .int .i64 0, .int .i64 1, .int .i64 100000, .int .i64 100001] 3)
      have R0 : Hid (Blk (w6.alloc (.cells #[.int .i64 (-1), .int .i64 0, .int .i64 1, .int .i64 100000, .int .i64 100001] 3)) w6.heap.size #[.int .i64 (-1), .int .i64 0, .int .i64 1, .int .i64 100000, .int .i64 100001] 3) := Blk.new _ _ _
      have Ax : Hid (AtS (w6.alloc (.cells #[.int .i64 (-1), .int .i64 0, .int .i64 1, .int .i64 100000, .int .i64 100001] 3)) p) := A6.out.below hal A6.out.lt
      have Mx : Hid (Mod w.heap.size p w (w6.alloc (.cells #[.int .i64 (-1), .int .i64 0, .int .i64 1, .int .i64 100000, .int .i64 100001] 3))) := M6.out.alloc M6.out.size _
      have RG : Hid (w6.heap.size ≠ p) := Nat.ne_of_gt A6.out.lt
      have Kx : Hid (Blk (w6.alloc (.cells #[.int .i64 (-1), .int .i64 0, .int .i64 1, .int .i64 100000, .int .i64 100001] 3)) w.heap.size #[.int .i64 0, .int .i64 0, .string ⟨#[]⟩] 25) := K6.out.alloc _
      have Lx : Hid (Blk (w6.alloc (.cells #[.int .i64 (-1), .int .i64 0, .int .i64 1, .int .i64 100000, .int .i64 100001] 3)) gb #[.int .i64 v4, .int .i64 t, .string d] 25) := L6.out.alloc _
      clear hal A6 M6 K6 L6
      generalize w6.alloc (.cells #[.int .i64 (-1), .int .i64 0, .int .i64 1, .int .i64 100000, .int .i64 100001] 3) = wx at *
      generalize w6.heap.size = gr at *
      refine (pick_some wx p gr Ax.out RG.out R0.out).mono ?_
      rintro e w7 ⟨v7, rfl, hA, hm⟩
      have A7 : Hid (AtS w7 p) := hA
      have M7 : Hid (Mod w.heap.size p w w7) := Mx.out.trans (hm.mono Mx.out.size)
      have K7 : Hid (Blk w7 w.heap.size #[.int .i64 0, .int .i64 0, .string ⟨#[]⟩] 25) := Kx.out.mod hm Kx.out.lt (by have := HP.out; have := KG.out; omega)
      have L7 : Hid (Blk w7 gb #[.int .i64 v4, .int .i64 t, .string d] 25) := Lx.out.mod hm Lx.out.lt (by have := HP.out; have := LG.out; omega)
      clear hA hm Ax Mx R0 RG Kx Lx
      have s2 := L7.out.cell 1 (.int .i64 t) rfl
      have s3 := L7.out.free 1
      have hs1 : Below w.heap.size w7 (w7.setCell ⟨gb, 1, none⟩ (.int .i64 v7)) := (Below.refl w.heap.size w7).setCell (Nat.le_of_lt LG.out) (.int .i64 v7) (p := ⟨gb, 1, none⟩)
      have A8 : Hid (AtS (w7.setCell ⟨gb, 1, none⟩ (.int .i64 v7)) p) := A7.out.below hs1 HP.out
      have M8 : Hid (Mod w.heap.size p w (w7.setCell ⟨gb, 1, none⟩ (.int .i64 v7))) := M7.out.trans (Mod.of_below hs1)
      have K8 : Hid (Blk (w7.setCell ⟨gb, 1, none⟩ (.int .i64 v7)) w.heap.size #[.int .i64 0, .int .i64 0, .string ⟨#[]⟩] 25) := K7.out.other (Nat.ne_of_lt LG.out) 1 _
      have L8 : Hid (Blk (w7.setCell ⟨gb, 1, none⟩ (.int .i64 v7)) gb #[.int .i64 v4, .int .i64 v7, .string d] 25) := L7.out.set 1 _
      clear hs1
      have e0 := L8.out.cell 0 (.int .i64 v4) rfl
      have e1 := L8.out.cell 1 (.int .i64 v7) rfl
      have e2 := L8.out.cell 2 (.string d) rfl
      have r0 := K8.out.cell 0 (.int .i64 0) rfl
      have g0 := K8.out.free 0
      have r1 := K8.out.cell 1 (.int .i64 0) rfl
      have g1 := K8.out.free 1
      have r2 := K8.out.cell 2 (.string ⟨#[]⟩) rfl
      have g2 := K8.out.free 2
      go_wp2_with fail
      have hF := (((K8.out.set 0 (.int .i64 v4)).set 1 (.int .i64 v7)).set 2 (.string d))
      have FB := ((((Below.refl w.heap.size (w7.setCell ⟨gb, 1, none⟩ (.int .i64 v7))).setCell (Nat.le_refl _) (.int .i64 v4) (p := ⟨_, 0, none⟩)).setCell (Nat.le_refl _) (.int .i64 v7) (p := ⟨_, 1, none⟩)).setCell (Nat.le_refl _) (.string d) (p := ⟨_, 2, none⟩))
      clear e0 e1 e2 s2 s3 r0 r1 r2 g0 g1 g2
      generalize ((((w7.setCell ⟨gb, 1, none⟩ (.int .i64 v7)).setCell ⟨w.heap.size, 0, none⟩ (.int .i64 v4)).setCell ⟨w.heap.size, 1, none⟩ (.int .i64 v7)).setCell ⟨w.heap.size, 2, none⟩ (.string d)) = WF at *
      have hG : Blk WF w.heap.size #[.int .i64 v4, .int .i64 v7, .string d] 25 := hF
      have m0 := hG.cell 0 (.int .i64 v4) rfl
      have m1 := hG.cell 1 (.int .i64 v7) rfl
      have m2 := hG.cell 2 (.string d) rfl
      exact bodyPost_ret (v := .agg #[.int .i64 v4, .int .i64 v7, .string d]) (by simp [results, go_sem, m0, m1, m2]) rfl (DrawnS.mk _ _ _ HD.out (A8.out.below FB HP.out) (M8.out.trans (Mod.of_below FB)))

set_option maxHeartbeats 1000000 in
theorem drawSnap (w : World) (ao : Option Addr) (len cap : Nat) (cs : Nat → Nat) (hl : len ≤ 1048576) (h : CodeIs w w.heap.size ao len cs) :
    Calls Tryd.prog 8 #[.slice ao len cap] w fun e w' => ∃ x : Snp, e = .returned (vSnp x) ∧ x.data.size ≤ 30001 ∧ Below w.heap.size w w' := by
  have hal := below_one w (.cells #[.int .i64 0, .int .i64 0, .string ⟨#[]⟩] 25)
  have K0 : Hid (Blk (w.alloc (.cells #[.int .i64 0, .int .i64 0, .string ⟨#[]⟩] 25)) w.heap.size #[.int .i64 0, .int .i64 0, .string ⟨#[]⟩] 25) := Blk.new _ _ _
  have H0 : Hid (Below w.heap.size w (w.alloc (.cells #[.int .i64 0, .int .i64 0, .string ⟨#[]⟩] 25))) := hal
  have C0 : Hid (CodeIs (w.alloc (.cells #[.int .i64 0, .int .i64 0, .string ⟨#[]⟩] 25)) (w.alloc (.cells #[.int .i64 0, .int .i64 0, .string ⟨#[]⟩] 25)).heap.size ao len cs) := h.on hal
  clear hal h
  go_enter Tryd.func8, Tryd.ntmps8
  go_wp2_with fail
  generalize w.alloc (.cells #[.int .i64 0, .int .i64 0, .string ⟨#[]⟩] 25) = w0 at *
  refine (new_any w0 ao len cap cs hl C0.out).mono ?_
  rintro e w1 ⟨rfl, hA, hb⟩
  have A1 : Hid (AtS w1 w0.heap.size) := ⟨_, _, _, _, _, hA⟩
  have K1 : Hid (Blk w1 w.heap.size #[.int .i64 0, .int .i64 0, .string ⟨#[]⟩] 25) := K0.out.on hb K0.out.lt
  have H1 : Hid (Below w.heap.size w w1) := H0.out.trans (hb.mono H0.out.size)
  have G1 : Hid (w.heap.size < w0.heap.size) := K0.out.lt
  clear hA hb K0 H0 C0
  generalize w0.heap.size = p at *
  go_wp2_with fail
  refine (anySnap w1 p A1.out).mono ?_
  rintro e w2 ⟨⟨i, t, d⟩, rfl, hd, hA, hm⟩
  have K2 : Hid (Blk w2 w.heap.size #[.int .i64 0, .int .i64 0, .string ⟨#[]⟩] 25) := K1.out.mod hm K1.out.lt (Nat.ne_of_lt G1.out)
  have H2 : Hid (Below w.heap.size w w2) := H1.out.trans ((hm.mono H1.out.size).below (Nat.le_of_lt G1.out))
  have HD : Hid (d.size ≤ 30001) := hd
  clear hA hm hd A1 K1 H1
  unfold vSnp
  have r0 := K2.out.cell 0 (.int .i64 0) rfl
  have g0 := K2.out.free 0
  have r1 := K2.out.cell 1 (.int .i64 0) rfl
  have g1 := K2.out.free 1
  have r2 := K2.out.cell 2 (.string ⟨#[]⟩) rfl
  have g2 := K2.out.free 2
  go_wp2_with fail
  have hF := (((K2.out.set 0 (.int .i64 i)).set 1 (.int .i64 t)).set 2 (.string d))
  have FB := (((H2.out.setCell (Nat.le_refl _) (.int .i64 i) (p := ⟨_, 0, none⟩)).setCell (Nat.le_refl _) (.int .i64 t) (p := ⟨_, 1, none⟩)).setCell (Nat.le_refl _) (.string d) (p := ⟨_, 2, none⟩))
  clear r0 r1 r2 g0 g1 g2
  generalize (((w2.setCell ⟨w.heap.size, 0, none⟩ (.int .i64 i)).setCell ⟨w.heap.size, 1, none⟩ (.int .i64 t)).setCell ⟨w.heap.size, 2, none⟩ (.string d)) = WF at *
  have hG : Blk WF w.heap.size #[.int .i64 i, .int .i64 t, .string d] 25 := hF
  have m0 := hG.cell 0 (.int .i64 i) rfl
  have m1 := hG.cell 1 (.int .i64 t) rfl
  have m2 := hG.cell 2 (.string d) rfl
  exact bodyPost_ret (v := .agg #[.int .i64 i, .int .i64 t, .string d]) (by simp [results, go_sem, m0, m1, m2]) rfl ⟨⟨i, t, d⟩, rfl, HD.out, FB⟩
end Go.Proofs.YtkajnknhggfpoaaDoor
