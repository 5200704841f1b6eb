/-
  Contracts of spec.l1Text: the text that is drawn, as a function of the code's bytes and of where the cursor stands.
-/
import Derived.Test.YtmkljninndffcaaRows
import Derived.Test.YtmkljninndffcaaCurNew
import Derived.Test.YtmkljninndffcaaNumV
namespace Go.Proofs.Ytmkljninndffcaa
open Go.ChangeShapes Go.WideShapes Go.ChangeAt Go.RowKit Go.PlainAid
set_option linter.unusedVariables false

theorem Buf.mod {w w' : World} {B C p : Nat} {v : Value} {l : List UInt8} (h : Buf w B v l) (hm : Mod C p w w') (hp : p < B) (hC : w.heap.size ≤ C) : Buf w' B v l := by
  obtain ⟨h1, h2⟩ := h
  refine ⟨h1, ?_⟩
  rcases h2 with h2 | ⟨g, cap, cur, hv, hg, hh, r⟩
  · exact .inl h2
  · refine .inr ⟨g, cap, cur, hv, hg, ?_, r⟩
    rw [hm.block g (by have := lt_of_block hh; omega) (by omega), hh]

/-- Where the cursor stands behind k bytes. -/
def posN (len : Nat) : Nat → Pos → Pos
  | 0, s => s
  | k + 1, s => byteP len (posN len k s)
/-- A byte in its style. -/
def txB (style x : Int) : Int := if style = 1 then x % 2 else if style = 2 then 97 + x % 4 else x
theorem txB_bd (style x : Int) (h0 : 0 ≤ x) (h1 : x ≤ 255) : 0 ≤ txB style x ∧ txB style x ≤ 255 := by unfold txB; split <;> (try split) <;> omega
/-- The first k bytes of the text. -/
def txL (len : Nat) (cs : Nat → Nat) (style : Int) (s : Pos) : Nat → List UInt8
  | 0 => []
  | k + 1 => txL len cs style s k ++ [byt (txB style (byteV len cs (posN len k s))).toNat]
theorem txL_length (len : Nat) (cs : Nat → Nat) (style : Int) (s : Pos) (k : Nat) : (txL len cs style s k).length = k := by
  induction k with
  | zero => rfl
  | succ k ih => simp [txL, ih]
/-- The text, and where the cursor stands then. -/
def textV (len : Nat) (cs : Nat → Nat) (most : Int) (s : Pos) : List UInt8 := txL len cs (belowV len cs 4 s) (belowP len (most + 1) (belowP len 4 s)) (belowV len cs (most + 1) (belowP len 4 s)).toNat
def textP (len : Nat) (cs : Nat → Nat) (most : Int) (s : Pos) : Pos := posN len (belowV len cs (most + 1) (belowP len 4 s)).toNat (belowP len (most + 1) (belowP len 4 s))
theorem textV_length (len : Nat) (cs : Nat → Nat) (most : Int) (s : Pos) (h : 0 ≤ most) : ((textV len cs most s).length : Int) ≤ most := by
  unfold textV
  rw [txL_length]
  have hb := belowV_bd len cs (most + 1) (belowP len 4 s)
  have := hb.2 (by omega)
  omega

set_option maxHeartbeats 2000000 in
theorem text_any (w : World) (p : Nat) (ao : Option Addr) (len cap : Nat) (cs : Nat → Nat) (s : Pos) (most : Int) (hm0 : 0 ≤ most) (hm1 : most ≤ 1000) (h : At w p ao len cap cs s) :
    Calls Try.prog 36 #[.pointer (some ⟨p, 0, none⟩), .int .i64 most] w fun e w' => e = .returned (.string (txt (textV len cs most s))) ∧ At w' p ao len cap cs (textP len cs most s) ∧ Mod w.heap.size p w w' := by
  have HA : Hid (At w p ao len cap cs s) := h
  have hlt := h.lt
  clear h
  have hb := belowV_bd len cs (most + 1) (belowP len 4 s)
  have HV : Hid (textV len cs most s = txL len cs (belowV len cs 4 s) (belowP len (most + 1) (belowP len 4 s)) (belowV len cs (most + 1) (belowP len 4 s)).toNat) := rfl
  have HP : Hid (textP len cs most s = posN len (belowV len cs (most + 1) (belowP len 4 s)).toNat (belowP len (most + 1) (belowP len 4 s))) := rfl
  go_enter Try.func36, Try.ntmps36
  go_wp2_with fail
  have hal : Below w.heap.size w (w.alloc (.cells #[] 5)) := (Below.refl _ _).alloc (Nat.le_refl _) _
  refine (below_any _ p ao len cap cs s 4 (by omega) (HA.out.below hal hlt)).mono ?_
  rintro e w1 ⟨rfl, hA1, hmd1⟩
  have hbuf1 : Buf w1 w.heap.size (.slice (some ⟨w.heap.size, 0, none⟩) 0 0) [] := (Buf.made w w.heap.size 0 #[] (Nat.le_refl _) (by simp [maxLen]) rfl).mod hmd1 hlt (Nat.le_refl _)
  have hM1 : Mod w.heap.size p w w1 := (Mod.of_below hal).trans (hmd1.mono (by simp))
  clear hmd1 hal
  go_wp2_with fail
  refine (below_any _ p ao len cap cs _ (most + 1) (by omega) hA1).mono ?_
  rintro e w2 ⟨rfl, hA2, hmd2⟩
  have hbuf2 := hbuf1.mod hmd2 hlt (Nat.le_refl _)
  have hM2 : Mod w.heap.size p w w2 := hM1.trans (hmd2.mono hM1.size)
  clear hmd2 hM1 hbuf1 hA1
  generalize hS : belowV len cs 4 s = style at *
  generalize hQ : belowP len (most + 1) (belowP len 4 s) = s2 at *
  generalize hN : belowV len cs (most + 1) (belowP len 4 s) = NN at *
  obtain ⟨N, rfl⟩ := Int.eq_ofNat_of_zero_le hb.1
  have hN2 : (N : Int) ≤ 1000 := by have := hb.2 (by omega); omega
  clear hb hS hQ hN
  rw [Int.toNat_natCast] at HV HP
  go_wp2_with fail
  go_loopw [5, 7] (fun v5 v7 wr => ∃ k : Nat, k ≤ N ∧ v7 = .int .i64 ((N : Int) - (k : Int)) ∧ Buf wr w.heap.size v5 (txL len cs style s2 k) ∧ At wr p ao len cap cs (posN len k s2) ∧ Mod w.heap.size p w wr) (fun _ i _ => (intOf i).toNat)
  case atStart => exact ⟨0, by omega, by go_num, hbuf2, hA2, hM2⟩
  case round =>
    obtain ⟨k, hk, rfl, hbuf, hAt, hM⟩ := hrel
    have HAt : Hid (At wr p ao len cap cs (posN len k s2)) := hAt
    clear hAt hA2 hM2 hbuf2
    by_cases hkN : k < N
    · obtain ⟨X, hX⟩ : ∃ X, byteV len cs (posN len k s2) = X := ⟨_, rfl⟩
      have hxb := byteV_bd len cs (posN len k s2)
      rw [hX] at hxb
      obtain ⟨x1, x2⟩ := hxb
      have HX : Hid (byteV len cs (posN len k s2) = X) := hX
      clear hX
      by_cases st1 : style = 1
      · have st2 : ¬ style = 2 := by omega
        have z1 : (style == 1) = true := by simpa using st1
        have z2 : (style == 2) = false := by simpa using st2
        have HT : Hid (txB style X = X % 2) := by show txB style X = _; rw [txB, if_pos st1]
        have HC : Hid (#[Value.int .u8 (X % 2)] = byteCells [byt (txB style X).toNat]) := one_cell _ _ (by rw [HT.out]; omega) (by rw [HT.out]; omega)
        clear st1 st2
        go_wp2_with fail
        refine (byte_any _ p ao len cap cs _ HAt.out).mono ?_
        rintro e w3 ⟨rfl, hA3, hmd3⟩
        rw [HX.out]
        have hbuf3 := hbuf.mod hmd3 hlt (Nat.le_refl _)
        have hM3 : Mod w.heap.size p w w3 := hM.trans (hmd3.mono hM.size)
        have hsz := hM3.size
        clear hmd3 hbuf
        go_wp2_with (at_builtin; refine wpList_append_bytes rfl (.tmp 31) (.tmp 34) 22 rfl Try.underlying22 Try.info5 w.heap.size _ (txL len cs style s2 k) rfl hbuf3 _ [byt (txB style X).toNat] HC.out 1 1 rfl rfl (by rw [txL_length]; simp; omega) hsz ?_; intro v' w4 hbuf4 hb4)
        have hA4 := hA3.below hb4 hlt
        have hM4 : Mod w.heap.size p w w4 := hM3.trans (Mod.of_below hb4)
        go_roundw
        case rel => exact ⟨k + 1, by omega, by go_num, by rw [txL, HX.out]; exact hbuf4, hA4, hM4⟩
        case measure => simp [intOf]; omega
      · by_cases st2 : style = 2
        · have z1 : (style == 1) = false := by simpa using st1
          have z2 : (style == 2) = true := by simpa using st2
          have HT : Hid (txB style X = 97 + X % 4) := by show txB style X = _; rw [txB, if_neg st1, if_pos st2]
          have HC : Hid (#[Value.int .u8 (97 + X % 4)] = byteCells [byt (txB style X).toNat]) := one_cell _ _ (by rw [HT.out]; omega) (by rw [HT.out]; omega)
          clear st1 st2
          go_wp2_with fail
          refine (byte_any _ p ao len cap cs _ HAt.out).mono ?_
          rintro e w3 ⟨rfl, hA3, hmd3⟩
          rw [HX.out]
          have hbuf3 := hbuf.mod hmd3 hlt (Nat.le_refl _)
          have hM3 : Mod w.heap.size p w w3 := hM.trans (hmd3.mono hM.size)
          have hsz := hM3.size
          clear hmd3 hbuf
          go_wp2_with (at_builtin; refine wpList_append_bytes rfl (.tmp 31) (.tmp 34) 22 rfl Try.underlying22 Try.info5 w.heap.size _ (txL len cs style s2 k) rfl hbuf3 _ [byt (txB style X).toNat] HC.out 1 1 rfl rfl (by rw [txL_length]; simp; omega) hsz ?_; intro v' w4 hbuf4 hb4)
          have hA4 := hA3.below hb4 hlt
          have hM4 : Mod w.heap.size p w w4 := hM3.trans (Mod.of_below hb4)
          go_roundw
          case rel => exact ⟨k + 1, by omega, by go_num, by rw [txL, HX.out]; exact hbuf4, hA4, hM4⟩
          case measure => simp [intOf]; omega
        · have z1 : (style == 1) = false := by simpa using st1
          have z2 : (style == 2) = false := by simpa using st2
          have HT : Hid (txB style X = X) := by show txB style X = _; rw [txB, if_neg st1, if_neg st2]
          have HC : Hid (#[Value.int .u8 (X)] = byteCells [byt (txB style X).toNat]) := one_cell _ _ (by rw [HT.out]; omega) (by rw [HT.out]; omega)
          clear st1 st2
          go_wp2_with fail
          refine (byte_any _ p ao len cap cs _ HAt.out).mono ?_
          rintro e w3 ⟨rfl, hA3, hmd3⟩
          rw [HX.out]
          have hbuf3 := hbuf.mod hmd3 hlt (Nat.le_refl _)
          have hM3 : Mod w.heap.size p w w3 := hM.trans (hmd3.mono hM.size)
          have hsz := hM3.size
          clear hmd3 hbuf
          go_wp2_with (at_builtin; refine wpList_append_bytes rfl (.tmp 31) (.tmp 34) 22 rfl Try.underlying22 Try.info5 w.heap.size _ (txL len cs style s2 k) rfl hbuf3 _ [byt (txB style X).toNat] HC.out 1 1 rfl rfl (by rw [txL_length]; simp; omega) hsz ?_; intro v' w4 hbuf4 hb4)
          have hA4 := hA3.below hb4 hlt
          have hM4 : Mod w.heap.size p w w4 := hM3.trans (Mod.of_below hb4)
          go_roundw
          case rel => exact ⟨k + 1, by omega, by go_num, by rw [txL, HX.out]; exact hbuf4, hA4, hM4⟩
          case measure => simp [intOf]; omega
    · have hkk : k = N := by omega
      have HK : Hid (k = N) := hkk
      have z : (N : Int) - (k : Int) ≤ 0 := by omega
      clear hkk
      have hcv := hbuf.string (P := Try.prog) 22 9 Try.underlying22 Try.underlying5 Try.underlying9
      go_wp2_with fail
      go_ret
      rw [HV.out, HP.out, ← HK.out]
      exact ⟨rfl, HAt.out, hM⟩
end Go.Proofs.Ytmkljninndffcaa
