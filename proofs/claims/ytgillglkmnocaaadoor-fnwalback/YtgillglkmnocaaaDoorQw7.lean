/- CurTx CurPW WbDraw BodyAt BodyFit Unframe StrEq Frames RpSpec WbSt -/
import Derived.Test.YtgillglkmnocaaaDoorRows
import Derived.Test.YtgillglkmnocaaaDoorQw6
import Derived.Test.YtgillglkmnocaaaDoorQw0
import Derived.Test.YtgillglkmnocaaaDoorQw3
import Derived.Test.YtgillglkmnocaaaDoorQw1
import Derived.Deep.RegionHeld3
import Derived.Handy
import Derived.WalkKit
import Derived.ProofKit
import Derived.OpenShut
import Derived.Below
import Derived.WalkSmall
import Derived.BigQuiet
import Derived.Deep.QuietTactic
import Derived.Deep.RegionWith
import Derived.Test.YtgillglkmnocaaaDoorQw2
import Derived.WalkLawsBesides
import Derived.Outline
import Derived.Laws.DeepStrings4
import Derived.OwnWalk
import Derived.Test.YtgillglkmnocaaaDoorQw5
import Derived.Lib.OwnKind
namespace Go.Proofs.YtgillglkmnocaaaDoor
open Go.ChangeShapes Go.WideShapes Go.ChangeAt Go.RowKit Go.PlainAid
set_option linter.unusedVariables false
theorem Buf.mod {w w' : World} {B C p : Nat} {v : Value} {l : List UInt8} (h : Buf w B v l) (hm : Mod C p w w') (hp : p < B) (hC : w.heap.size ≤ C) : Buf w' B v l := by
 obtain ⟨h1, h2⟩ := h
 refine ⟨h1, ?_⟩
 rcases h2 with h2 | ⟨g, cap, cur, hv, hg, hh, r⟩
 ·exact .inl h2
 ·refine .inr ⟨g, cap, cur, hv, hg, ?_, r⟩
  rw [hm.block g (by have := lt_of_block hh; omega) (by omega), hh]
def posN (len : Nat) : Nat → Pos → Pos
 | 0, s => s
 | k + 1, s => byteP len (posN len k s)
def txB (style x : Int) : Int := if style = 1 then x % 2 else if style = 2 then 97 + x % 4 else x
def txL (len : Nat) (cs : Nat → Nat) (style : Int) (s : Pos) : Nat → List UInt8
 | 0 => []
 | k + 1 => txL len cs style s k ++ [byt (txB style (byteV len cs (posN len k s))).toNat]
theorem txL_length (len : Nat) (cs : Nat → Nat) (style : Int) (s : Pos) (k : Nat) : (txL len cs style s k).length = k := by
 induction k with
 | zero => rfl
 | succ k ih => simp [txL, ih]
def textV (len : Nat) (cs : Nat → Nat) (most : Int) (s : Pos) : List UInt8 := txL len cs (belowV len cs 4 s) (belowP len (most + 1) (belowP len 4 s)) (belowV len cs (most + 1) (belowP len 4 s)).toNat
def textP (len : Nat) (cs : Nat → Nat) (most : Int) (s : Pos) : Pos := posN len (belowV len cs (most + 1) (belowP len 4 s)).toNat (belowP len (most + 1) (belowP len 4 s))
theorem textV_length (len : Nat) (cs : Nat → Nat) (most : Int) (s : Pos) (h : 0 ≤ most) : ((textV len cs most s).length : Int) ≤ most := by
 unfold textV
 rw [txL_length]
 have hb := belowV_bd len cs (most + 1) (belowP len 4 s)
 have := hb.2 (by omega)
 omega
set_option maxHeartbeats 2000000 in
theorem text_any (w : World) (p : Nat) (ao : Option Addr) (len cap : Nat) (cs : Nat → Nat) (s : Pos) (most : Int) (hm0 : 0 ≤ most) (hm1 : most ≤ 1000) (h : At w p ao len cap cs s) :
  Calls Tryd.prog 51 #[.pointer (some ⟨p, 0, none⟩), .int .i64 most] w fun e w' => e = .returned (.string (txt (textV len cs most s))) ∧ At w' p ao len cap cs (textP len cs most s) ∧ Mod w.heap.size p w w' := by
 have HA : Hid (At w p ao len cap cs s) := h
 have hlt := h.lt
 clear h
 have hb := belowV_bd len cs (most + 1) (belowP len 4 s)
 have HV : Hid (textV len cs most s = txL len cs (belowV len cs 4 s) (belowP len (most + 1) (belowP len 4 s)) (belowV len cs (most + 1) (belowP len 4 s)).toNat) := rfl
 have HP : Hid (textP len cs most s = posN len (belowV len cs (most + 1) (belowP len 4 s)).toNat (belowP len (most + 1) (belowP len 4 s))) := rfl
 go_enter Tryd.func51, Tryd.ntmps51
 go_wp2_with fail
 have hal : Below w.heap.size w (w.alloc (.cells #[] 5)) := (Below.refl _ _).alloc (Nat.le_refl _) _
 refine (below_any _ p ao len cap cs s 4 (by omega) (HA.out.below hal hlt)).mono ?_
 rintro e w1 ⟨rfl, hA1, hmd1⟩
 have hbuf1 : Buf w1 w.heap.size (.slice (some ⟨w.heap.size, 0, none⟩) 0 0) [] := (Buf.made w w.heap.size 0 #[] (Nat.le_refl _) (by simp [maxLen]) rfl).mod hmd1 hlt (Nat.le_refl _)
 have hM1 : Mod w.heap.size p w w1 := (Mod.of_below hal).trans (hmd1.mono (by simp))
 clear hmd1 hal
 go_wp2_with fail
 refine (below_any _ p ao len cap cs _ (most + 1) (by omega) hA1).mono ?_
 rintro e w2 ⟨rfl, hA2, hmd2⟩
 have hbuf2 := hbuf1.mod hmd2 hlt (Nat.le_refl _)
 have hM2 : Mod w.heap.size p w w2 := hM1.trans (hmd2.mono hM1.size)
 clear hmd2 hM1 hbuf1 hA1
 generalize hS : belowV len cs 4 s = style at *
 generalize hQ : belowP len (most + 1) (belowP len 4 s) = s2 at *
 generalize hN : belowV len cs (most + 1) (belowP len 4 s) = NN at *
 obtain ⟨N, rfl⟩ := Int.eq_ofNat_of_zero_le hb.1
 have hN2 : (N : Int) ≤ 1000 := by have := hb.2 (by omega); omega
 clear hb hS hQ hN
 rw [Int.toNat_natCast] at HV HP
 go_wp2_with fail
 go_loopw [5, 7] (fun v5 v7 wr => ∃ k : Nat, k ≤ N ∧ v7 = .int .i64 ((N : Int) - (k : Int)) ∧ Buf wr w.heap.size v5 (txL len cs style s2 k) ∧ At wr p ao len cap cs (posN len k s2) ∧ Mod w.heap.size p w wr) (fun _ i _ => (intOf i).toNat)
 case atStart => exact ⟨0, by omega, by go_num, hbuf2, hA2, hM2⟩
 case round =>
  obtain ⟨k, hk, rfl, hbuf, hAt, hM⟩ := hrel
  have HAt : Hid (At wr p ao len cap cs (posN len k s2)) := hAt
  clear hAt hA2 hM2 hbuf2
  by_cases hkN : k < N
  ·obtain ⟨X, hX⟩ : ∃ X, byteV len cs (posN len k s2) = X := ⟨_, rfl⟩
   have hxb := byteV_bd len cs (posN len k s2)
   rw [hX] at hxb
   obtain ⟨x1, x2⟩ := hxb
   have HX : Hid (byteV len cs (posN len k s2) = X) := hX
   clear hX
   by_cases st1 : style = 1
   ·have st2 : ¬ style = 2 := by omega
    have z1 : (style == 1) = true := by simpa using st1
    have z2 : (style == 2) = false := by simpa using st2
    have HT : Hid (txB style X = X % 2) := by show txB style X = _; rw [txB, if_pos st1]
    have HC : Hid (#[Value.int .u8 (X % 2)] = byteCells [byt (txB style X).toNat]) := one_cell _ _ (by rw [HT.out]; omega) (by rw [HT.out]; omega)
    clear st1 st2
    go_wp2_with fail
    refine (byte_any _ p ao len cap cs _ HAt.out).mono ?_
    rintro e w3 ⟨rfl, hA3, hmd3⟩
    rw [HX.out]
    have hbuf3 := hbuf.mod hmd3 hlt (Nat.le_refl _)
    have hM3 : Mod w.heap.size p w w3 := hM.trans (hmd3.mono hM.size)
    have hsz := hM3.size
    clear hmd3 hbuf
    go_wp2_with (at_builtin; refine wpList_append_bytes rfl (.tmp 31) (.tmp 34) 22 rfl Tryd.underlying22 Tryd.info5 w.heap.size _ (txL len cs style s2 k) rfl hbuf3 _ [byt (txB style X).toNat] HC.out 1 1 rfl rfl (by rw [txL_length]; simp; omega) hsz ?_; intro v' w4 hbuf4 hb4)
    have hA4 := hA3.below hb4 hlt
    have hM4 : Mod w.heap.size p w w4 := hM3.trans (Mod.of_below hb4)
    go_roundw
    case rel => exact ⟨k + 1, by omega, by go_num, by rw [txL, HX.out]; exact hbuf4, hA4, hM4⟩
    case measure => simp [intOf]; omega
   ·by_cases st2 : style = 2
    ·have z1 : (style == 1) = false := by simpa using st1
     have z2 : (style == 2) = true := by simpa using st2
     have HT : Hid (txB style X = 97 + X % 4) := by show txB style X = _; rw [txB, if_neg st1, if_pos st2]
     have HC : Hid (#[Value.int .u8 (97 + X % 4)] = byteCells [byt (txB style X).toNat]) := one_cell _ _ (by rw [HT.out]; omega) (by rw [HT.out]; omega)
     clear st1 st2
     go_wp2_with fail
     refine (byte_any _ p ao len cap cs _ HAt.out).mono ?_
     rintro e w3 ⟨rfl, hA3, hmd3⟩
     rw [HX.out]
     have hbuf3 := hbuf.mod hmd3 hlt (Nat.le_refl _)
     have hM3 : Mod w.heap.size p w w3 := hM.trans (hmd3.mono hM.size)
     have hsz := hM3.size
     clear hmd3 hbuf
     go_wp2_with (at_builtin; refine wpList_append_bytes rfl (.tmp 31) (.tmp 34) 22 rfl Tryd.underlying22 Tryd.info5 w.heap.size _ (txL len cs style s2 k) rfl hbuf3 _ [byt (txB style X).toNat] HC.out 1 1 rfl rfl (by rw [txL_length]; simp; omega) hsz ?_; intro v' w4 hbuf4 hb4)
     have hA4 := hA3.below hb4 hlt
     have hM4 : Mod w.heap.size p w w4 := hM3.trans (Mod.of_below hb4)
     go_roundw
     case rel => exact ⟨k + 1, by omega, by go_num, by rw [txL, HX.out]; exact hbuf4, hA4, hM4⟩
     case measure => simp [intOf]; omega
    ·have z1 : (style == 1) = false := by simpa using st1
     have z2 : (style == 2) = false := by simpa using st2
     have HT : Hid (txB style X = X) := by show txB style X = _; rw [txB, if_neg st1, if_neg st2]
     have HC : Hid (#[Value.int .u8 (X)] = byteCells [byt (txB style X).toNat]) := one_cell _ _ (by rw [HT.out]; omega) (by rw [HT.out]; omega)
     clear st1 st2
     go_wp2_with fail
     refine (byte_any _ p ao len cap cs _ HAt.out).mono ?_
     rintro e w3 ⟨rfl, hA3, hmd3⟩
     rw [HX.out]
     have hbuf3 := hbuf.mod hmd3 hlt (Nat.le_refl _)
     have hM3 : Mod w.heap.size p w w3 := hM.trans (hmd3.mono hM.size)
     have hsz := hM3.size
     clear hmd3 hbuf
     go_wp2_with (at_builtin; refine wpList_append_bytes rfl (.tmp 31) (.tmp 34) 22 rfl Tryd.underlying22 Tryd.info5 w.heap.size _ (txL len cs style s2 k) rfl hbuf3 _ [byt (txB style X).toNat] HC.out 1 1 rfl rfl (by rw [txL_length]; simp; omega) hsz ?_; intro v' w4 hbuf4 hb4)
     have hA4 := hA3.below hb4 hlt
     have hM4 : Mod w.heap.size p w w4 := hM3.trans (Mod.of_below hb4)
     go_roundw
     case rel => exact ⟨k + 1, by omega, by go_num, by rw [txL, HX.out]; exact hbuf4, hA4, hM4⟩
     case measure => simp [intOf]; omega
  ·have hkk : k = N := by omega
   have HK : Hid (k = N) := hkk
   have z : (N : Int) - (k : Int) ≤ 0 := by omega
   clear hkk
   have hcv := hbuf.string (P := Tryd.prog) 22 9 Tryd.underlying22 Tryd.underlying5 Tryd.underlying9
   go_wp2_with fail
   go_ret
   rw [HV.out, HP.out, ← HK.out]
   exact ⟨rfl, HAt.out, hM⟩
end Go.Proofs.YtgillglkmnocaaaDoor
namespace Go.Proofs.YtgillglkmnocaaaDoor
open Go.ChangeShapes Go.WideShapes Go.ChangeAt Go.RowKit Go.PlainAid
set_option linter.unusedVariables false
theorem CodeIs.on {w w' : World} {ao : Option Addr} {len : Nat} {cs : Nat → Nat} (h : CodeIs w w.heap.size ao len cs) (hb : Below w.heap.size w w') : CodeIs w' w'.heap.size ao len cs := by
 rcases h with h | ⟨cb, co, rfl, hcb, hj⟩
 ·exact .inl h
 ·exact .inr ⟨cb, co, rfl, Nat.lt_of_lt_of_le hcb hb.size, fun j hj' => ⟨(hj j hj').1, by rw [← (hj j hj').2]; exact World.cell?_of_block (w := w) (hb.block cb hcb)⟩⟩
set_option maxHeartbeats 400000 in
theorem big_no (w : World) (ao : Option Addr) (len cap : Nat) (hl : len ≤ 1048576) : Calls Tryd.prog 4 #[.slice ao len cap] w fun e w' => e = .returned (.bool false) ∧ w = w' := by
 have q : (len : Int) ≤ 1048576 := by omega
 have q2 : decide ((1048576 : Int) < (len : Int)) = false := by simp; omega
 go_enter Tryd.func4, Tryd.ntmps4
 go_wp2
 go_ret
 exact ⟨rfl, rfl⟩
set_option maxHeartbeats 400000 in
theorem big_yes (w : World) (ao : Option Addr) (len cap : Nat) (hl : 1048576 < len) (h2 : len ≤ 9223372036854775807) : Calls Tryd.prog 4 #[.slice ao len cap] w fun e w' => e = .returned (.bool true) ∧ w = w' := by
 have q : (1048576 : Int) < (len : Int) := by omega
 go_enter Tryd.func4, Tryd.ntmps4
 go_wp2
 go_ret
 exact ⟨rfl, rfl⟩
set_option maxHeartbeats 1000000 in
theorem pick_any (w : World) (p : Nat) (ao : Option Addr) (len cap : Nat) (cs : Nat → Nat) (s : Pos) (g : Nat) (xs : List Int) (hn : 0 < xs.length) (hn2 : xs.length ≤ 1000) (h : At w p ao len cap cs s) (hgp : g ≠ p) (hg : g < w.heap.size)
  (hcell : ∀ j, j < xs.length → w.cell? ⟨g, j, none⟩ = some (.int .i64 (xs.getD j 0))) :
  Calls Tryd.prog 28 #[.pointer (some ⟨p, 0, none⟩), .slice (some ⟨g, 0, none⟩) xs.length xs.length] w fun e w' =>
   e = .returned (.int .i64 (xs.getD (belowV len cs (xs.length : Int) s).toNat 0)) ∧ At w' p ao len cap cs (belowP len (xs.length : Int) s) ∧ Mod w.heap.size p w w' := by
 have HA : Hid (At w p ao len cap cs s) := h
 clear h
 have HC : Hid (∀ j, j < xs.length → w.cell? ⟨g, j, none⟩ = some (.int .i64 (xs.getD j 0))) := hcell
 clear hcell
 have hb := belowV_bd len cs (xs.length : Int) s
 have q0 : (xs.length : Int) ≤ 1000 := by omega
 go_enter Tryd.func28, Tryd.ntmps28
 go_wp2_with fail
 refine (below_any _ p ao len cap cs s (xs.length : Int) (by omega) HA.out).mono ?_
 rintro e w1 ⟨rfl, hA1, hm1⟩
 obtain ⟨k, hk⟩ := Int.eq_ofNat_of_zero_le hb.1
 have hk2 : k < xs.length := by have := hb.2 (by omega); omega
 have HB : Hid (belowV len cs (xs.length : Int) s = (k : Int)) := hk
 rw [hk]
 clear hk hb
 have hc1 : w1.cell? ⟨g, k, none⟩ = some (.int .i64 (xs.getD k 0)) := by
  rw [← HC.out k hk2]
  exact World.cell?_of_block (w := w) (hm1.block g hg hgp)
 have q1 : (k : Int) < (xs.length : Int) := by omega
 go_wp2_with fail
 go_ret
 have ev : xs.getD ((k : Int)).toNat 0 = xs[k] := by simp [hk2]
 rw [HB.out, ev]
 exact ⟨rfl, hA1, hm1⟩
def AtS (w : World) (p : Nat) : Prop := ∃ ao len cap cs s, At w p ao len cap cs s
theorem AtS.lt {w : World} {p : Nat} (h : AtS w p) : p < w.heap.size := by obtain ⟨_, _, _, _, _, h⟩ := h; exact h.lt
theorem AtS.below {w w' : World} {B p : Nat} (h : AtS w p) (hb : Below B w w') (hp : p < B) : AtS w' p := by
 obtain ⟨ao, len, cap, cs, s, h⟩ := h
 exact ⟨ao, len, cap, cs, s, h.below hb hp⟩
theorem Blk.mod {w w' : World} {C p g : Nat} {cs : Array Value} {t : TypeId} (h : Blk w g cs t) (hm : Mod C p w w') (hg : g < C) (hp : g ≠ p) : Blk w' g cs t := by
 unfold Blk
 rw [hm.block g hg hp]
 exact h
theorem once_some (w : World) (p : Nat) (n : Int) (h1 : n ≤ 1000) (h : AtS w p) :
  Calls Tryd.prog 26 #[.pointer (some ⟨p, 0, none⟩), .int .i64 n] w fun e w' => ∃ b : Bool, e = .returned (.bool b) ∧ AtS w' p ∧ Mod w.heap.size p w w' := by
 obtain ⟨ao, len, cap, cs, s, h⟩ := h
 exact (once_any w p ao len cap cs s n (by omega) h).mono fun e w' k => ⟨_, k.1, ⟨_, _, _, _, _, k.2.1⟩, k.2.2⟩
theorem Nums.mod {w w' : World} {C p base : Nat} {v : Value} {l : List Int} (h : Nums w base v l) (hm : Mod C p w w') (hp : p < base) (hC : w.heap.size ≤ C) : Nums w' base v l :=
 h.kept fun g hg ho => hm.block g (Nat.lt_of_lt_of_le hg hC) (by have := (h.lt g ho).1; omega)
theorem belowS (w : World) (p : Nat) (n : Int) (h0 : 0 < n) (h1 : n ≤ 1000000) (h : AtS w p) :
  Calls Tryd.prog 27 #[.pointer (some ⟨p, 0, none⟩), .int .i64 n] w fun e w' => ∃ v : Int, e = .returned (.int .i64 v) ∧ (0 ≤ v ∧ v < n) ∧ AtS w' p ∧ Mod w.heap.size p w w' := by
 obtain ⟨ao, len, cap, cs, s, h⟩ := h
 have bd := belowV_bd len cs n s
 exact (below_any w p ao len cap cs s n (by omega) h).mono fun e w' k => ⟨_, k.1, ⟨bd.1, bd.2 h0⟩, ⟨_, _, _, _, _, k.2.1⟩, k.2.2⟩
theorem getD_all (xs : List Int) (P : Int → Prop) (h0 : P 0) (h : ∀ z ∈ xs, P z) (j : Nat) : P (xs.getD j 0) := by
 by_cases hj : j < xs.length
 ·refine h _ ?_
  simp [List.getD, hj]
 ·simpa [List.getD, hj] using h0
theorem pickS (w : World) (p g : Nat) (xs : List Int) (n : Nat) (hn : xs.length = n) (h0 : 0 < n) (h1 : n ≤ 1000) (P : Int → Prop) (hP0 : P 0) (hP : ∀ z ∈ xs, P z) (h : AtS w p) (hgp : g ≠ p) (hB : Blk w g (numCells xs).toArray 3) :
  Calls Tryd.prog 28 #[.pointer (some ⟨p, 0, none⟩), .slice (some ⟨g, 0, none⟩) n n] w fun e w' => ∃ v : Int, e = .returned (.int .i64 v) ∧ P v ∧ AtS w' p ∧ Mod w.heap.size p w w' := by
 obtain ⟨ao, len, cap, cs, s, h⟩ := h
 subst hn
 refine (pick_any w p ao len cap cs s g xs h0 h1 h hgp hB.lt ?_).mono fun e w' k => ⟨_, k.1, getD_all xs P hP0 hP _, ⟨_, _, _, _, _, k.2.1⟩, k.2.2⟩
 intro j hj
 refine hB.cell _ _ ?_
 simp [numCells, hj]
theorem Owns.mod {w w' : World} {C p base : Nat} {e : TypeId} {sz : Nat} {v : Value} {rows : List (List Value)} (h : Owns w base e sz v rows) (hm : Mod C p w w') (hp : p < base) (hC : w.heap.size ≤ C) : Owns w' base e sz v rows :=
 h.kept fun g hg ho => hm.block g (Nat.lt_of_lt_of_le hg hC) (by have := (h.lt g ho).1; omega)
theorem text_some (w : World) (p : Nat) (n : Int) (h0 : 0 ≤ n) (h1 : n ≤ 1000) (h : AtS w p) :
  Calls Tryd.prog 51 #[.pointer (some ⟨p, 0, none⟩), .int .i64 n] w fun e w' => ∃ d : ByteArray, e = .returned (.string d) ∧ d.size ≤ 1000 ∧ AtS w' p ∧ Mod w.heap.size p w w' := by
 obtain ⟨ao, len, cap, cs, s, h⟩ := h
 have hl := textV_length len cs n s h0
 exact (text_any w p ao len cap cs s n h0 h1 h).mono fun e w' k => ⟨_, k.1, by rw [txt_size]; omega, ⟨_, _, _, _, _, k.2.1⟩, k.2.2⟩
end Go.Proofs.YtgillglkmnocaaaDoor
namespace Go.Proofs.YtgillglkmnocaaaDoor
open Go.ChangeShapes Go.WideShapes Go.ChangeAt Go.RowKit Go.PlainAid
set_option linter.unusedVariables false
theorem Tryd.infoEntB : (Tryd.prog.info? 61).map (fun i => (i.zero, i.size, i.bytes)) = some (some (.agg #[.int .i64 0, .string ⟨#[]⟩]), 2, 24) := by kernel_rfl
def DrawnEs (w : World) (p : Nat) (e : Ending) (w' : World) : Prop := ∃ u es, e = .returned u ∧ Owns w' w.heap.size 61 2 u (entR es) ∧ es.length ≤ 7 ∧ (∀ x ∈ es, x.data.size ≤ 1000) ∧ AtS w' p ∧ Mod w.heap.size p w w'
set_option maxHeartbeats 4000000 in
theorem entries_any (w : World) (p : Nat) (term top : Int) (h0 : -1000 ≤ term ∧ term ≤ 1000) (h1 : -1000 ≤ top ∧ top ≤ 1000) (h : AtS w p) : Calls Tryd.prog 44 #[.pointer (some ⟨p, 0, none⟩), .int .i64 6, .int .i64 term, .int .i64 top] w (DrawnEs w p) := by
 have HP : Hid (p < w.heap.size) := h.lt
 have hal : Below w.heap.size w (w.alloc (.cells #[] 61)) := (Below.refl _ _).alloc (Nat.le_refl _) _
 have N0 : Hid (Owns (w.alloc (.cells #[] 61)) w.heap.size 61 2 (.slice (some ⟨w.heap.size, 0, none⟩) 0 0) (entR [])) := Owns.empty w w.heap.size _ _ (Nat.le_refl _)
 have A0 : Hid (AtS (w.alloc (.cells #[] 61)) p) := h.below hal h.lt
 have M0 : Hid (Mod w.heap.size p w (w.alloc (.cells #[] 61))) := Mod.of_below hal
 clear hal h
 go_enter Tryd.func44, Tryd.ntmps44
 go_wp2_with fail
 generalize w.alloc (.cells #[] 61) = w0 at *
 refine (belowS w0 p 7 (by omega) (by omega) A0.out).mono ?_
 rintro e w1 ⟨v1, rfl, ⟨v10, v11⟩, hA, hm⟩
 have A1 : Hid (AtS w1 p) := hA
 have M1 : Hid (Mod w.heap.size p w w1) := M0.out.trans (hm.mono M0.out.size)
 have N1 : Hid (Owns w1 w.heap.size 61 2 (.slice (some ⟨w.heap.size, 0, none⟩) 0 0) (entR [])) := N0.out.mod hm HP.out (Nat.le_refl _)
 obtain ⟨n1, rfl⟩ : ∃ n : Nat, v1 = (n : Int) := ⟨v1.toNat, by omega⟩
 clear hA hm A0 M0 N0
 go_wp2_with fail
 go_loopw [2, 9, 10] (fun v2 v9 v10 wr => ∃ (k : Nat) (t : Int) (es : List Ent), es.length + k ≤ 7 ∧ (-1000 ≤ t ∧ t + k ≤ 1010) ∧ k ≤ 7 ∧ v10 = .int .i64 (k : Int) ∧ v2 = .int .i64 t ∧ Owns wr w.heap.size 61 2 v9 (entR es) ∧ (∀ x ∈ es, x.data.size ≤ 1000) ∧ AtS wr p ∧ Mod w.heap.size p w wr) (fun _ _ i _ => (intOf i).toNat)
 case atStart => exact ⟨n1, term, [], by simp; omega, by omega, by omega, rfl, rfl, N1.out, fun x hx => (by cases hx), A1.out, M1.out⟩
 case round =>
  obtain ⟨k, t, es, hk, ht, hk7, rfl, rfl, hN, hD, hA, hM⟩ := hrel
  have HN : Hid (Owns wr w.heap.size 61 2 _ (entR es)) := hN
  obtain ⟨A, m, c, rfl⟩ := hN.shape
  have HD : Hid (∀ x ∈ es, x.data.size ≤ 1000) := hD
  have AR : Hid (AtS wr p) := hA
  have MR : Hid (Mod w.heap.size p w wr) := hM
  have HK : Hid (es.length + k ≤ 7) := hk
  clear hN hA hM hk hD
  by_cases hlt : 0 < k
  ·have q2 : (0 : Int) < (k : Int) := by omega
   have g1 : IntKind.i64.wrap (t + 1) = t + 1 := by rw [IntKind.wrap_i64]; omega
   by_cases ht1 : t < 1
   ·have d1 : decide (t < 1) = true := decide_eq_true ht1
    by_cases htop : top < t + 1
    ·have dtop : decide (top < t + 1) = true := decide_eq_true htop
     go_wp2_with fail
     go_ret
     exact ⟨_, es, rfl, HN.out, by have := HK.out; omega, HD.out, AR.out, MR.out⟩
    ·have dtop : decide (top < t + 1) = false := decide_eq_false htop
     go_wp2_with fail
     refine (text_some wr p 8 (by omega) (by omega) AR.out).mono ?_
     rintro e w6 ⟨d, rfl, hd, hA, hm⟩
     have A6 : Hid (AtS w6 p) := hA
     have M6 : Hid (Mod w.heap.size p w w6) := MR.out.trans (hm.mono MR.out.size)
     have N6 : Hid (Owns w6 w.heap.size 61 2 (.slice A m c) (entR es)) := HN.out.mod hm HP.out (Nat.le_refl _)
     have hzz : w.heap.size ≤ w6.heap.size := M6.out.size
     clear hA hm
     have l6 : (entR es).length ≤ 2097152 := by rw [entR_length]; have := HK.out; omega
     have HL6 : Hid ((entR es).length ≤ 2097152) := l6
     clear l6
     go_wp2_with (at_builtin; refine Shut.out ?_)
     unfold Shut
     refine wpList_append_row (w := w6) rfl (.tmp 37) (.tmp 42) 24 61 (.agg #[.int .i64 0, .string ⟨#[]⟩]) 2 24 rfl Tryd.underlying24 Tryd.infoEntB rfl (by omega) w.heap.size (.slice A m c) (entR es) rfl N6.out [.int .i64 (t + 1), .string d] rfl (by intro y hy; simp at hy; rcases hy with rfl | rfl <;> rfl) rfl HL6.out (by omega) hzz ?_
     intro v' w7 hO7 hb7 hk7 _
     have A7 : Hid (AtS w7 p) := A6.out.below hb7 HP.out
     have M7 : Hid (Mod w.heap.size p w w7) := M6.out.trans (Mod.of_below hb7)
     have N7 : Hid (Owns w7 w.heap.size 61 2 v' (entR (es ++ [⟨t + 1, d⟩]))) := by unfold Hid entR; rw [List.map_append]; exact hO7
     have D7 : Hid (∀ x ∈ es ++ [(⟨t + 1, d⟩ : Ent)], x.data.size ≤ 1000) := fun x hx => by
      rcases List.mem_append.1 hx with hx | hx
      ·exact HD.out x hx
      ·rw [List.mem_singleton.1 hx]; exact hd
     obtain ⟨A', m', c', rfl⟩ := N7.out.shape
     clear hO7 hb7 hk7
     go_wp2_with fail
     go_roundw
     case rel => exact ⟨k - 1, t + 1, es ++ [⟨t + 1, d⟩], by have := HK.out; simp; omega, by omega, by omega, by go_num, rfl, N7.out, D7.out, A7.out, M7.out⟩
     case measure => simp [intOf]; omega
   ·have d1 : decide (t < 1) = false := decide_eq_false ht1
    by_cases ht2 : t < top
    ·have d2 : decide (t < top) = true := decide_eq_true ht2
     go_wp2_with fail
     refine (once_some wr p 3 (by omega) AR.out).mono ?_
     rintro e w5 ⟨b5, rfl, hA, hm⟩
     have A5 : Hid (AtS w5 p) := hA
     have M5 : Hid (Mod w.heap.size p w w5) := MR.out.trans (hm.mono MR.out.size)
     have N5 : Hid (Owns w5 w.heap.size 61 2 (.slice A m c) (entR es)) := HN.out.mod hm HP.out (Nat.le_refl _)
     clear hA hm
     cases b5
     ·by_cases htop : top < t
      ·have dtop : decide (top < t) = true := decide_eq_true htop
       go_wp2_with fail
       go_ret
       exact ⟨_, es, rfl, N5.out, by have := HK.out; omega, HD.out, A5.out, M5.out⟩
      ·have dtop : decide (top < t) = false := decide_eq_false htop
       go_wp2_with fail
       refine (text_some w5 p 8 (by omega) (by omega) A5.out).mono ?_
       rintro e w6 ⟨d, rfl, hd, hA, hm⟩
       have A6 : Hid (AtS w6 p) := hA
       have M6 : Hid (Mod w.heap.size p w w6) := M5.out.trans (hm.mono M5.out.size)
       have N6 : Hid (Owns w6 w.heap.size 61 2 (.slice A m c) (entR es)) := N5.out.mod hm HP.out (Nat.le_refl _)
       have hzz : w.heap.size ≤ w6.heap.size := M6.out.size
       clear hA hm
       have l6 : (entR es).length ≤ 2097152 := by rw [entR_length]; have := HK.out; omega
       have HL6 : Hid ((entR es).length ≤ 2097152) := l6
       clear l6
       go_wp2_with (at_builtin; refine Shut.out ?_)
       unfold Shut
       refine wpList_append_row (w := w6) rfl (.tmp 37) (.tmp 42) 24 61 (.agg #[.int .i64 0, .string ⟨#[]⟩]) 2 24 rfl Tryd.underlying24 Tryd.infoEntB rfl (by omega) w.heap.size (.slice A m c) (entR es) rfl N6.out [.int .i64 (t), .string d] rfl (by intro y hy; simp at hy; rcases hy with rfl | rfl <;> rfl) rfl HL6.out (by omega) hzz ?_
       intro v' w7 hO7 hb7 hk7 _
       have A7 : Hid (AtS w7 p) := A6.out.below hb7 HP.out
       have M7 : Hid (Mod w.heap.size p w w7) := M6.out.trans (Mod.of_below hb7)
       have N7 : Hid (Owns w7 w.heap.size 61 2 v' (entR (es ++ [⟨t, d⟩]))) := by unfold Hid entR; rw [List.map_append]; exact hO7
       have D7 : Hid (∀ x ∈ es ++ [(⟨t, d⟩ : Ent)], x.data.size ≤ 1000) := fun x hx => by
        rcases List.mem_append.1 hx with hx | hx
        ·exact HD.out x hx
        ·rw [List.mem_singleton.1 hx]; exact hd
       obtain ⟨A', m', c', rfl⟩ := N7.out.shape
       clear hO7 hb7 hk7
       go_wp2_with fail
       go_roundw
       case rel => exact ⟨k - 1, t, es ++ [⟨t, d⟩], by have := HK.out; simp; omega, by omega, by omega, by go_num, rfl, N7.out, D7.out, A7.out, M7.out⟩
       case measure => simp [intOf]; omega
     ·by_cases htop : top < t + 1
      ·have dtop : decide (top < t + 1) = true := decide_eq_true htop
       go_wp2_with fail
       go_ret
       exact ⟨_, es, rfl, N5.out, by have := HK.out; omega, HD.out, A5.out, M5.out⟩
      ·have dtop : decide (top < t + 1) = false := decide_eq_false htop
       go_wp2_with fail
       refine (text_some w5 p 8 (by omega) (by omega) A5.out).mono ?_
       rintro e w6 ⟨d, rfl, hd, hA, hm⟩
       have A6 : Hid (AtS w6 p) := hA
       have M6 : Hid (Mod w.heap.size p w w6) := M5.out.trans (hm.mono M5.out.size)
       have N6 : Hid (Owns w6 w.heap.size 61 2 (.slice A m c) (entR es)) := N5.out.mod hm HP.out (Nat.le_refl _)
       have hzz : w.heap.size ≤ w6.heap.size := M6.out.size
       clear hA hm
       have l6 : (entR es).length ≤ 2097152 := by rw [entR_length]; have := HK.out; omega
       have HL6 : Hid ((entR es).length ≤ 2097152) := l6
       clear l6
       go_wp2_with (at_builtin; refine Shut.out ?_)
       unfold Shut
       refine wpList_append_row (w := w6) rfl (.tmp 37) (.tmp 42) 24 61 (.agg #[.int .i64 0, .string ⟨#[]⟩]) 2 24 rfl Tryd.underlying24 Tryd.infoEntB rfl (by omega) w.heap.size (.slice A m c) (entR es) rfl N6.out [.int .i64 (t + 1), .string d] rfl (by intro y hy; simp at hy; rcases hy with rfl | rfl <;> rfl) rfl HL6.out (by omega) hzz ?_
       intro v' w7 hO7 hb7 hk7 _
       have A7 : Hid (AtS w7 p) := A6.out.below hb7 HP.out
       have M7 : Hid (Mod w.heap.size p w w7) := M6.out.trans (Mod.of_below hb7)
       have N7 : Hid (Owns w7 w.heap.size 61 2 v' (entR (es ++ [⟨t + 1, d⟩]))) := by unfold Hid entR; rw [List.map_append]; exact hO7
       have D7 : Hid (∀ x ∈ es ++ [(⟨t + 1, d⟩ : Ent)], x.data.size ≤ 1000) := fun x hx => by
        rcases List.mem_append.1 hx with hx | hx
        ·exact HD.out x hx
        ·rw [List.mem_singleton.1 hx]; exact hd
       obtain ⟨A', m', c', rfl⟩ := N7.out.shape
       clear hO7 hb7 hk7
       go_wp2_with fail
       go_roundw
       case rel => exact ⟨k - 1, t + 1, es ++ [⟨t + 1, d⟩], by have := HK.out; simp; omega, by omega, by omega, by go_num, rfl, N7.out, D7.out, A7.out, M7.out⟩
       case measure => simp [intOf]; omega
    ·have d2 : decide (t < top) = false := decide_eq_false ht2
     by_cases htop : top < t
     ·have dtop : decide (top < t) = true := decide_eq_true htop
      go_wp2_with fail
      go_ret
      exact ⟨_, es, rfl, HN.out, by have := HK.out; omega, HD.out, AR.out, MR.out⟩
     ·have dtop : decide (top < t) = false := decide_eq_false htop
      go_wp2_with fail
      refine (text_some wr p 8 (by omega) (by omega) AR.out).mono ?_
      rintro e w6 ⟨d, rfl, hd, hA, hm⟩
      have A6 : Hid (AtS w6 p) := hA
      have M6 : Hid (Mod w.heap.size p w w6) := MR.out.trans (hm.mono MR.out.size)
      have N6 : Hid (Owns w6 w.heap.size 61 2 (.slice A m c) (entR es)) := HN.out.mod hm HP.out (Nat.le_refl _)
      have hzz : w.heap.size ≤ w6.heap.size := M6.out.size
      clear hA hm
      have l6 : (entR es).length ≤ 2097152 := by rw [entR_length]; have := HK.out; omega
      have HL6 : Hid ((entR es).length ≤ 2097152) := l6
      clear l6
      go_wp2_with (at_builtin; refine Shut.out ?_)
      unfold Shut
      refine wpList_append_row (w := w6) rfl (.tmp 37) (.tmp 42) 24 61 (.agg #[.int .i64 0, .string ⟨#[]⟩]) 2 24 rfl Tryd.underlying24 Tryd.infoEntB rfl (by omega) w.heap.size (.slice A m c) (entR es) rfl N6.out [.int .i64 (t), .string d] rfl (by intro y hy; simp at hy; rcases hy with rfl | rfl <;> rfl) rfl HL6.out (by omega) hzz ?_
      intro v' w7 hO7 hb7 hk7 _
      have A7 : Hid (AtS w7 p) := A6.out.below hb7 HP.out
      have M7 : Hid (Mod w.heap.size p w w7) := M6.out.trans (Mod.of_below hb7)
      have N7 : Hid (Owns w7 w.heap.size 61 2 v' (entR (es ++ [⟨t, d⟩]))) := by unfold Hid entR; rw [List.map_append]; exact hO7
      have D7 : Hid (∀ x ∈ es ++ [(⟨t, d⟩ : Ent)], x.data.size ≤ 1000) := fun x hx => by
       rcases List.mem_append.1 hx with hx | hx
       ·exact HD.out x hx
       ·rw [List.mem_singleton.1 hx]; exact hd
      obtain ⟨A', m', c', rfl⟩ := N7.out.shape
      clear hO7 hb7 hk7
      go_wp2_with fail
      go_roundw
      case rel => exact ⟨k - 1, t, es ++ [⟨t, d⟩], by have := HK.out; simp; omega, by omega, by omega, by go_num, rfl, N7.out, D7.out, A7.out, M7.out⟩
      case measure => simp [intOf]; omega
  ·obtain rfl : k = 0 := by omega
   go_wp2_with fail
   go_ret
   exact ⟨_, es, rfl, HN.out, by have := HK.out; omega, HD.out, AR.out, MR.out⟩
end Go.Proofs.YtgillglkmnocaaaDoor
namespace Go.Proofs.YtgillglkmnocaaaDoor
open Go.ChangeShapes Go.WideShapes Go.ChangeAt Go.RowKit Go.PlainAid
set_option linter.unusedVariables false
theorem below_drewN (w : World) (n : Nat) : Below w.heap.size w (w.drewN n) := ⟨rfl, rfl, rfl, Nat.le_refl _, fun _ _ => rfl⟩
theorem below_drew (w : World) : Below w.heap.size w w.drew := ⟨rfl, rfl, rfl, Nat.le_refl _, fun _ _ => rfl⟩
def badBody (p : Int) (a : Addr) : Ending := .returned (.tuple #[.string ⟨#[]⟩, wrapped p a])
set_option maxHeartbeats 400000 in
theorem body_short4 (s : ByteArray) (i : Nat) (w : World) (hi : i ≤ s.size) (hs : s.size ≤ 1048576) (a0 a1 a2 : Addr) (he : Errs w a0 a1 a2) (h4 : (rest s i).size < 4) :
  Calls Tryd.prog 35 #[.string s, .int .i64 (i : Int)] w fun e w' => (∃ p, e = badBody p a0) ∧ Below w.heap.size w w' := by
 have c1 := impl_readFixed_no (rest s i) 4 w (by unfold maxLen; omega) (by omega)
 have hc := he.c0
 have hr : s.extract i s.size = rest s i := rfl
 have q1 : (i : Int) ≤ (s.size : Int) := by omega
 have q2 : (s.size : Int) ≤ 1048576 := by omega
 clear he h4 hs
 generalize rest s i = r at *
 go_enter Tryd.func35, Tryd.ntmps35
 go_wp2_with fail
 refine c1.mono ?_
 rintro e w1 ⟨rfl, rfl⟩
 go_wp2_with fail
 go_quiet (fail)
 go_wp2_with fail
 go_ret2
 exact ⟨⟨_, rfl⟩, below_drewN w nq⟩
set_option maxHeartbeats 400000 in
theorem body_len (s : ByteArray) (i : Nat) (w : World) (hi : i ≤ s.size) (hs : s.size ≤ 1048576) (a0 a1 a2 : Addr) (he : Errs w a0 a1 a2) (h4 : 4 ≤ (rest s i).size) (hl : rdv (rest s i) 4 = 0 ∨ 2000 < rdv (rest s i) 4) :
  Calls Tryd.prog 35 #[.string s, .int .i64 (i : Int)] w fun e w' => (∃ p, e = badBody p a1) ∧ Below w.heap.size w w' := by
 have hz := rest_size s i
 have c1 := impl_readFixed (rest s i) 4 w (by unfold maxLen; omega) (by omega) (by omega) h4
 have hc := he.c1
 have hr : s.extract i s.size = rest s i := rfl
 have q1 : (i : Int) ≤ (s.size : Int) := by omega
 have q2 : (s.size : Int) ≤ 1048576 := by omega
 clear he h4 hs hz
 generalize rdv (rest s i) 4 = n at *
 generalize rest s i = r at *
 rcases hl with rfl | hl
 ·go_enter Tryd.func35, Tryd.ntmps35
  go_wp2_with fail
  refine c1.mono ?_
  rintro e w1 ⟨rfl, rfl⟩
  go_wp2_with fail
  go_quiet (fail)
  go_wp2_with fail
  go_ret2
  exact ⟨⟨_, rfl⟩, below_drewN w nq⟩
 ·have q3 : (2000 : Int) < (n : Int) := by omega
  have q4 : ((n : Int) == 0) = false := by simp only [beq_eq_false_iff_ne, ne_eq]; omega
  have q5 : decide ((2000 : Int) < (n : Int)) = true := decide_eq_true q3
  have q6 : ¬ (n : Int) = 0 := by omega
  go_enter Tryd.func35, Tryd.ntmps35
  go_wp2_with fail
  refine c1.mono ?_
  rintro e w1 ⟨rfl, rfl⟩
  go_wp2_with fail
  go_quiet (fail)
  go_wp2_with fail
  go_ret2
  exact ⟨⟨_, rfl⟩, below_drewN w nq⟩
set_option maxHeartbeats 400000 in
theorem body_short8 (s : ByteArray) (i : Nat) (w : World) (hi : i ≤ s.size) (hs : s.size ≤ 1048576) (a0 a1 a2 : Addr) (he : Errs w a0 a1 a2) (h4 : 4 ≤ (rest s i).size) (h1 : 1 ≤ rdv (rest s i) 4) (h2 : rdv (rest s i) 4 ≤ 2000) (h8 : (rest s i).size < 8 + rdv (rest s i) 4) :
  Calls Tryd.prog 35 #[.string s, .int .i64 (i : Int)] w fun e w' => (∃ p, e = badBody p a0) ∧ Below w.heap.size w w' := by
 have hz := rest_size s i
 have c1 := impl_readFixed (rest s i) 4 w (by unfold maxLen; omega) (by omega) (by omega) h4
 have hc := he.c0
 have hr : s.extract i s.size = rest s i := rfl
 have q1 : (i : Int) ≤ (s.size : Int) := by omega
 have q2 : (s.size : Int) ≤ 1048576 := by omega
 clear he h4 hs hz
 generalize rdv (rest s i) 4 = n at *
 generalize rest s i = r at *
 have q3 : (n : Int) ≤ 2000 := by omega
 have q4 : ((n : Int) == 0) = false := by simp only [beq_eq_false_iff_ne, ne_eq]; omega
 have q5 : decide ((2000 : Int) < (n : Int)) = false := decide_eq_false (by omega)
 have q6 : ¬ (n : Int) = 0 := by omega
 have q7 : (r.size : Int) < 8 + (n : Int) := by omega
 go_enter Tryd.func35, Tryd.ntmps35
 go_wp2_with fail
 refine c1.mono ?_
 rintro e w1 ⟨rfl, rfl⟩
 go_wp2_with fail
 go_quiet (fail)
 go_wp2_with fail
 go_ret2
 exact ⟨⟨_, rfl⟩, below_drewN w nq⟩
end Go.Proofs.YtgillglkmnocaaaDoor
namespace Go.Proofs.YtgillglkmnocaaaDoor
open Go.ChangeShapes Go.WideShapes Go.ChangeAt Go.RowKit Go.PlainAid
set_option linter.unusedVariables false
set_option maxRecDepth 20000 in
set_option maxHeartbeats 1000000 in
theorem body_ok (s : ByteArray) (i : Nat) (w : World) (hi : i ≤ s.size) (hs : s.size ≤ 1048576) (ht : SumTab w) (hcode : code (rest s i) = 0) :
  Calls Tryd.prog 35 #[.string s, .int .i64 (i : Int)] w fun e w' => e = .returned (.tuple #[.string (bodyOf (rest s i)), .nilIface]) ∧ Below w.heap.size w w' := by
 obtain ⟨h4, h1, h2, h8, hsum⟩ := (code_zero _).1 hcode
 have hz := rest_size s i
 have c1 := impl_readFixed (rest s i) 4 w (by unfold maxLen; omega) (by omega) (by omega) h4
 have hr : s.extract i s.size = rest s i := rfl
 have q1 : (i : Int) ≤ (s.size : Int) := by omega
 have q2 : (s.size : Int) ≤ 1048576 := by omega
 have q8 : (rest s i).size ≤ 1048576 := by omega
 unfold bodyOf at hsum ⊢
 clear hcode hs hz
 generalize rdv (rest s i) 4 = n at *
 generalize rest s i = r at *
 have q3 : (n : Int) ≤ 2000 := by omega
 have q4 : ((n : Int) == 0) = false := by simp only [beq_eq_false_iff_ne, ne_eq]; omega
 have q5 : decide ((2000 : Int) < (n : Int)) = false := decide_eq_false (by omega)
 have q6 : ¬ (n : Int) = 0 := by omega
 have q7 : 8 + (n : Int) ≤ (r.size : Int) := by omega
 have q9 : (8 : Int) ≤ (r.size : Int) := by omega
 have HT : Hid (SumTab w) := ht
 have hm : (8 + (n : Int)).toNat = 8 + n := by omega
 have HB : Hid ((r.extract 0 4).size + (r.extract 8 (8 + n)).size ≤ 2097152) := by unfold Hid; rw [ByteArray.size_extract, ByteArray.size_extract]; omega
 have HC : Hid ((r.extract 8 (8 + n)).size ≤ 281474976710656) := by unfold Hid; rw [ByteArray.size_extract]; omega
 have HS : Hid (sumOf (r.extract 0 4) (r.extract 8 (8 + n)) = r.extract 4 8) := hsum
 clear ht hsum q8 h1 h2 h4
 go_enter Tryd.func35, Tryd.ntmps35
 go_wp2_with fail
 refine c1.mono ?_
 rintro e w1 ⟨rfl, rfl⟩
 go_wp2_with fail
 go_region_with (go_at_call 33; refine (impl_frameSum (r.extract 0 4) (r.extract 8 (8 + n)) _ HB.out ?_).mono ?_; exact HT.out; rintro e w1 ⟨rfl, hb1⟩; rw [HS.out])
 all_goals go_wp2_with fail
 all_goals (refine (clone _ _ HC.out).mono ?_; rintro e w2 ⟨rfl, hb2⟩; go_wp2_with fail; go_ret2; exact ⟨rfl, ((below_drew w).trans hb1).trans (hb2.mono hb1.size)⟩)
set_option maxRecDepth 20000 in
set_option maxHeartbeats 1000000 in
theorem body_sum (s : ByteArray) (i : Nat) (w : World) (hi : i ≤ s.size) (hs : s.size ≤ 1048576) (ht : SumTab w) (a0 a1 a2 : Addr) (he : Errs w a0 a1 a2) (h4 : 4 ≤ (rest s i).size) (h1 : 1 ≤ rdv (rest s i) 4) (h2 : rdv (rest s i) 4 ≤ 2000) (h8 : 8 + rdv (rest s i) 4 ≤ (rest s i).size) (hsum : sumOf ((rest s i).extract 0 4) (bodyOf (rest s i)) ≠ (rest s i).extract 4 8) :
  Calls Tryd.prog 35 #[.string s, .int .i64 (i : Int)] w fun e w' => (∃ p, e = badBody p a2) ∧ Below w.heap.size w w' := by
 have hz := rest_size s i
 have c1 := impl_readFixed (rest s i) 4 w (by unfold maxLen; omega) (by omega) (by omega) h4
 have hr : s.extract i s.size = rest s i := rfl
 have q1 : (i : Int) ≤ (s.size : Int) := by omega
 have q2 : (s.size : Int) ≤ 1048576 := by omega
 have q8 : (rest s i).size ≤ 1048576 := by omega
 unfold bodyOf at hsum
 have HE : Hid (Errs w a0 a1 a2) := he
 clear he hs hz
 generalize rdv (rest s i) 4 = n at *
 generalize rest s i = r at *
 have q3 : (n : Int) ≤ 2000 := by omega
 have q4 : ((n : Int) == 0) = false := by simp only [beq_eq_false_iff_ne, ne_eq]; omega
 have q5 : decide ((2000 : Int) < (n : Int)) = false := decide_eq_false (by omega)
 have q6 : ¬ (n : Int) = 0 := by omega
 have q7 : 8 + (n : Int) ≤ (r.size : Int) := by omega
 have q9 : (8 : Int) ≤ (r.size : Int) := by omega
 have HT : Hid (SumTab w) := ht
 have hm : (8 + (n : Int)).toNat = 8 + n := by omega
 have HB : Hid ((r.extract 0 4).size + (r.extract 8 (8 + n)).size ≤ 2097152) := by unfold Hid; rw [ByteArray.size_extract, ByteArray.size_extract]; omega
 have HC : Hid ((r.extract 8 (8 + n)).size ≤ 281474976710656) := by unfold Hid; rw [ByteArray.size_extract]; omega
 have e1 : ((sumOf (r.extract 0 4) (r.extract 8 (8 + n))).toList == (r.extract 4 8).toList) = false := by
  rw [beq_eq_false_iff_ne, Lib.toList_data, Lib.toList_data]
  intro h
  exact hsum (ByteArray.ext (Array.toList_inj.1 h))
 have q10 : wrap64 ((i : Int) + 4) = (i : Int) + 4 := by unfold wrap64; omega
 clear ht hsum q8 h1 h2 h4
 go_enter Tryd.func35, Tryd.ntmps35
 go_wp2_with fail
 refine c1.mono ?_
 rintro e w1 ⟨rfl, rfl⟩
 go_wp2_with fail
 go_region_with (go_at_call 33; refine (impl_frameSum (r.extract 0 4) (r.extract 8 (8 + n)) _ HB.out ?_).mono ?_; exact HT.out; rintro e w1 ⟨rfl, hb1⟩)
 all_goals go_wp2_with fail
 have hb : Below w.heap.size w w1 := (below_drew w).trans hb1
 have hc := (HE.out.on hb).c2
 go_quiet (fail)
 go_wp2_with fail
 go_ret2
 exact ⟨⟨_, rfl⟩, hb.trans ((below_drewN w1 nq).mono hb.size)⟩
end Go.Proofs.YtgillglkmnocaaaDoor
namespace Go.Proofs.YtgillglkmnocaaaDoor
open Go.ChangeShapes Go.WideShapes Go.ChangeAt Go.RowKit Go.PlainAid
set_option linter.unusedVariables false
theorem body_bad (s : ByteArray) (i : Nat) (w : World) (hi : i ≤ s.size) (hs : s.size ≤ 1048576) (ht : SumTab w) (a0 a1 a2 : Addr) (he : Errs w a0 a1 a2) (hcode : code (rest s i) ≠ 0) :
  Calls Tryd.prog 35 #[.string s, .int .i64 (i : Int)] w fun e w' => (∃ p a, e = badBody p a ∧ (code (rest s i) = 1 ∧ a = a0 ∨ code (rest s i) = 2 ∧ (a = a1 ∨ a = a2))) ∧ Below w.heap.size w w' := by
 by_cases h4 : (rest s i).size < 4
 ·refine (body_short4 s i w hi hs a0 a1 a2 he h4).mono ?_
  rintro e w' ⟨⟨p, rfl⟩, hb⟩
  exact ⟨⟨p, a0, rfl, .inl ⟨by rw [code, if_pos h4], rfl⟩⟩, hb⟩
 by_cases hl : rdv (rest s i) 4 = 0 ∨ 2000 < rdv (rest s i) 4
 ·refine (body_len s i w hi hs a0 a1 a2 he (by omega) hl).mono ?_
  rintro e w' ⟨⟨p, rfl⟩, hb⟩
  exact ⟨⟨p, a1, rfl, .inr ⟨by rw [code, if_neg h4, if_pos hl], .inl rfl⟩⟩, hb⟩
 by_cases h8 : (rest s i).size < 8 + rdv (rest s i) 4
 ·refine (body_short8 s i w hi hs a0 a1 a2 he (by omega) (by omega) (by omega) h8).mono ?_
  rintro e w' ⟨⟨p, rfl⟩, hb⟩
  exact ⟨⟨p, a0, rfl, .inl ⟨by rw [code, if_neg h4, if_neg hl, if_pos h8], rfl⟩⟩, hb⟩
 have hsum : sumOf ((rest s i).extract 0 4) (bodyOf (rest s i)) ≠ (rest s i).extract 4 8 := fun h => hcode (by rw [code, if_neg h4, if_neg hl, if_neg h8, if_pos h])
 refine (body_sum s i w hi hs ht a0 a1 a2 he (by omega) (by omega) (by omega) (by omega) hsum).mono ?_
 rintro e w' ⟨⟨p, rfl⟩, hb⟩
 exact ⟨⟨p, a2, rfl, .inr ⟨by rw [code, if_neg h4, if_neg hl, if_neg h8, if_neg hsum], .inr rfl⟩⟩, hb⟩
end Go.Proofs.YtgillglkmnocaaaDoor
namespace Go.Proofs.YtgillglkmnocaaaDoor
open Go.ChangeShapes Go.WideShapes Go.ChangeAt Go.RowKit Go.PlainAid
set_option linter.unusedVariables false
theorem cell?_heap {w w' : World} (h : w'.heap = w.heap) (a : Addr) : w'.cell? a = w.cell? a := by
 unfold World.cell?
 rw [h]
theorem Strs.heap {w w' : World} {base : Nat} {v : Value} {l : List ByteArray} (h : Strs w base v l) (hh : w'.heap = w.heap) : Strs w' base v l := h.kept fun g _ _ => by rw [hh]
theorem below_heap {w w' : World} (h1 : w'.heap = w.heap) (h2 : w'.os = w.os) (h3 : w'.tape = w.tape) (h4 : w'.output = w.output) : Below w.heap.size w w' := ⟨h2, h3, h4, by rw [h1]; exact Nat.le_refl _, fun k _ => by rw [h1]⟩
def Like (w w' : World) : Prop := w'.heap = w.heap ∧ w'.os = w.os ∧ w'.tape = w.tape ∧ w'.output = w.output
theorem Like.refl (w : World) : Like w w := ⟨rfl, rfl, rfl, rfl⟩
theorem Like.drewN {w w' : World} (h : Like w w') (n : Nat) : Like w (w'.drewN n) := h
theorem Like.below {w w' : World} (h : Like w w') : Below w.heap.size w w' := below_heap h.1 h.2.1 h.2.2.1 h.2.2.2
end Go.Proofs.YtgillglkmnocaaaDoor
namespace Go.Proofs.YtgillglkmnocaaaDoor
open Go.ChangeShapes Go.WideShapes Go.ChangeAt Go.RowKit Go.PlainAid
set_option linter.unusedVariables false
theorem Tryd.info9 : (Tryd.prog.info? 9).map (fun i => (i.zero, i.size, i.bytes)) = some (some (.string ⟨#[]⟩), 1, 16) := by kernel_rfl
set_option maxHeartbeats 1000000 in
theorem impl_frames (s : ByteArray) (w : World) (hs : s.size ≤ 1048576) (ht : SumTab w) (a0 a1 a2 : Addr) (he : Errs w a0 a1 a2) :
  Calls Tryd.prog 21 #[.string s] w fun e w' => ∃ K v, Ends s K ∧ e = .returned (.tuple #[v, .int .i64 (pos s K : Int)]) ∧ Strs w' w.heap.size v (bods s K) ∧ Below w.heap.size w w' := by
 have HT : Hid (SumTab w) := ht
 have HE : Hid (Errs w a0 a1 a2) := he
 have HS : Hid (s.size ≤ 1048576) := hs
 clear ht he hs
 go_enter Tryd.func21, Tryd.ntmps21
 go_wp2_with fail
 go_loopw [4, 5] (fun v4 v5 wr => ∃ k : Nat, Runs s k ∧ v5 = .int .i64 (pos s k : Int) ∧ Strs wr w.heap.size v4 (bods s k) ∧ Below w.heap.size w wr) (fun _ i _ => s.size - (intOf i).toNat)
 case atStart => exact ⟨0, Runs.zero s, rfl, Strs.nil _ _, Below.refl _ _⟩
 case round =>
  obtain ⟨k, hk, rfl, hS, hB⟩ := hrel
  have hp := hk.pos_le
  have HK : Hid (Runs s k) := hk
  have HV : Hid (Strs wr w.heap.size u4 (bods s k)) := hS
  have HB : Hid (Below w.heap.size w wr) := hB
  have HP : Hid (k * 9 ≤ pos s k ∧ pos s k ≤ s.size) := hp
  have HL : Hid ((bods s k).length = k) := bods_length s k
  by_cases hc : code (rest s (pos s k)) = 0
  ·have c1 := body_ok s (pos s k) wr hp.2 HS.out (HT.out.on hB) hc
   obtain ⟨h4, h1, h2, h8, hsum⟩ := (code_zero _).1 hc
   have hz := bodyOf_size _ h8
   have HR : Hid (Runs s (k + 1)) := hk.succ hc
   have hp1 := HR.out.pos_le
   have EP := pos_succ s k
   have EB : Hid (bods s (k + 1) = bods s k ++ [bodyOf (rest s (pos s k))]) := bods_succ s k
   have q1 : ((bodyOf (rest s (pos s k))).size : Int) = (rdv (rest s (pos s k)) 4 : Int) := by rw [hz]
   have q2 : (rdv (rest s (pos s k)) 4 : Int) ≤ 2000 := by omega
   have q3 : (pos s k : Int) ≤ 1048576 := by have := HS.out; omega
   have EQ : Hid ((pos s (k + 1) : Int) = (pos s k : Int) + (8 + (rdv (rest s (pos s k)) 4 : Int))) := by unfold Hid; rw [EP]; omega
   have HM : Hid (pos s k < pos s (k + 1) ∧ pos s (k + 1) ≤ s.size) := by unfold Hid; omega
   clear hS hB hp hk hc h4 h1 h2 h8 hsum hz hp1 EP
   generalize rdv (rest s (pos s k)) 4 = n at *
   generalize bodyOf (rest s (pos s k)) = b at *
   generalize hx : pos s k = p at *
   go_wp2_with fail
   refine c1.mono ?_
   rintro e w1 ⟨rfl, hb1⟩
   have hV1 := HV.out.on hb1
   have hsz : w.heap.size ≤ w1.heap.size := Nat.le_trans HB.out.size hb1.size
   have hB1 : Below w.heap.size w w1 := HB.out.trans (hb1.mono HB.out.size)
   go_wp2_with (at_builtin; refine wpList_append_str rfl (.tmp 18) (.tmp 20) 62 rfl Tryd.underlying62 Tryd.info9 w.heap.size _ (bods s k) rfl hV1 b rfl (by rw [HL.out]; have := HP.out; have := HS.out; omega) hsz ?_; intro v' w2 hV2 hb2)
   go_roundw
   case rel => exact ⟨k + 1, HR.out, by rw [EQ.out], by rw [EB.out]; exact hV2, hB1.trans hb2⟩
   case measure => have := HM.out; have := EQ.out; simp [intOf]; omega
  ·have c1 := body_bad s (pos s k) wr hp.2 HS.out (HT.out.on hB) a0 a1 a2 (HE.out.on hB) hc
   have HC : Hid (code (rest s (pos s k)) ≠ 0) := hc
   simp only [badBody, wrapped] at c1
   clear hS hB hp hk hc
   generalize hx : pos s k = p at *
   go_wp2_with fail
   refine c1.mono ?_
   rintro e w1 ⟨⟨q, a, rfl, _⟩, hb1⟩
   have hV1 : Hid (Strs w1 w.heap.size u4 (bods s k)) := HV.out.on hb1
   have hB1 : Hid (Below w.heap.size w w1) := HB.out.trans (hb1.mono HB.out.size)
   go_wp2_with fail
   go_ret2
   exact ⟨k, u4, ⟨HK.out, by rw [hx]; exact HC.out⟩, by rw [hx]; rfl, hV1.out, hB1.out⟩
end Go.Proofs.YtgillglkmnocaaaDoor
namespace Go.Proofs.YtgillglkmnocaaaDoor
open Go.ChangeShapes Go.WideShapes Go.ChangeAt Go.RowKit Go.PlainAid
set_option linter.unusedVariables false
theorem Owns.notBlk {w : World} {base : Nat} {e t : TypeId} {sz g : Nat} {v : Value} {R : List (List Value)} {cs : Array Value} (h : Owns w base e sz v R) (hb : Blk w g cs t) (hne : e ≠ t) : v.ownBlock ≠ some g := by
 intro hg
 obtain ⟨c, fz, e1⟩ := Lib.ownsRow_kind h.2 g hg
 unfold Blk at hb
 rw [e1] at hb
 cases hb
 exact hne rfl
end Go.Proofs.YtgillglkmnocaaaDoor
namespace Go.Proofs.YtgillglkmnocaaaDoor
open Go.ChangeShapes Go.WideShapes Go.ChangeAt Go.RowKit Go.PlainAid
set_option linter.unusedVariables false
structure WSt (w : World) (p g R N : Nat) (W : World) (t v b bt : Int) (es : List Ent) : Prop where
 k : ∃ A m c, Blk W g #[.int .i64 t, .int .i64 v, .int .i64 b, .int .i64 bt, .slice A m c] 26 ∧ Owns W w.heap.size 61 2 (.slice A m c) (entR es) ∧ m = es.length
 r : Blk W R #[.int .i64 0, .int .i64 0, .int .i64 0, .int .i64 0, .slice none 0 0] 26
 n : es.length ≤ N
 d : ∀ x ∈ es, x.data.size ≤ 1000
 a : AtS W p
 m : Mod w.heap.size p w W
 o : p < w.heap.size ∧ w.heap.size ≤ R ∧ R < g
theorem ent_len {W : World} {base n c : Nat} {A : Option Addr} {es : List Ent} (h : Owns W base 61 2 (.slice A n c) (entR es)) : n = es.length := by
 rcases h.2.2 with ⟨e, h0⟩ | ⟨g, cap, cur, e, _⟩
 ·simp only [Value.slice.injEq] at e
  rw [entR_length] at h0
  omega
 ·simp only [Value.slice.injEq] at e
  rw [e.2.1, entR_length]
section
variable {w W W' : World} {p g R N : Nat} {t v b bt : Int} {es : List Ent}
theorem WSt.draw (h : WSt w p g R N W t v b bt es) (hA : AtS W' p) (hm : Mod W.heap.size p W W') : WSt w p g R N W' t v b bt es := by
 obtain ⟨A, m, c, hk, hO, hl⟩ := h.k
 exact ⟨⟨A, m, c, hk.mod hm hk.lt (by have := h.o; omega), hO.mod hm h.o.1 (Nat.le_refl _), hl⟩, h.r.mod hm h.r.lt (by have := h.o; omega), h.n, h.d, hA, h.m.trans (hm.mono h.m.size), h.o⟩
theorem WSt.drew (h : WSt w p g R N W t v b bt es) : WSt w p g R N W.drew t v b bt es := h.draw (h.a.below (Below.refl W.heap.size W).drew h.a.lt) (Mod.of_below (Below.refl _ W).drew)
theorem WSt.more (h : WSt w p g R N W t v b bt es) {N' : Nat} (hN : N ≤ N') : WSt w p g R N' W t v b bt es := ⟨h.k, h.r, Nat.le_trans h.n hN, h.d, h.a, h.m, h.o⟩
theorem WSt.poke (h : WSt w p g R N W t v b bt es) (i : Nat) (x : Value) (t' v' b' bt' : Int) (hs : ∀ A m c, (#[.int .i64 t, .int .i64 v, .int .i64 b, .int .i64 bt, .slice A m c] : Array Value).setIfInBounds i x = #[.int .i64 t', .int .i64 v', .int .i64 b', .int .i64 bt', .slice A m c]) : WSt w p g R N (W.setCell ⟨g, i, none⟩ x) t' v' b' bt' es := by
 obtain ⟨A, m, c, hk, hO, hl⟩ := h.k
 have hb : Below w.heap.size W (W.setCell ⟨g, i, none⟩ x) := (Below.refl _ _).setCell (show w.heap.size ≤ g by have := h.o; omega) _
 refine ⟨⟨A, m, c, ?_, hO.other (hO.notBlk hk (by decide)) _ _, hl⟩, h.r.other (by have := h.o; omega) _ _, h.n, h.d, h.a.below hb h.o.1, h.m.trans (Mod.of_below hb), h.o⟩
 have := hk.set i x
 rw [hs] at this
 exact this
theorem WSt.setT (h : WSt w p g R N W t v b bt es) (x : Int) : WSt w p g R N (W.setCell ⟨g, 0, none⟩ (.int .i64 x)) x v b bt es := h.poke 0 _ x v b bt (fun _ _ _ => rfl)
theorem WSt.setV (h : WSt w p g R N W t v b bt es) (x : Int) : WSt w p g R N (W.setCell ⟨g, 1, none⟩ (.int .i64 x)) t x b bt es := h.poke 1 _ t x b bt (fun _ _ _ => rfl)
theorem WSt.setB (h : WSt w p g R N W t v b bt es) (x : Int) : WSt w p g R N (W.setCell ⟨g, 2, none⟩ (.int .i64 x)) t v x bt es := h.poke 2 _ t v x bt (fun _ _ _ => rfl)
theorem WSt.setBt (h : WSt w p g R N W t v b bt es) (x : Int) : WSt w p g R N (W.setCell ⟨g, 3, none⟩ (.int .i64 x)) t v b x es := h.poke 3 _ t v b x (fun _ _ _ => rfl)
theorem WSt.setE (h : WSt w p g R N W t v b bt es) {Y : World} {A A' : Option Addr} {m c m' c' : Nat} {es' : List Ent} {N' : Nat} (hk : Blk W g #[.int .i64 t, .int .i64 v, .int .i64 b, .int .i64 bt, .slice A m c] 26) (hO : Owns Y w.heap.size 61 2 (.slice A' m' c') (entR es'))
  (hA : AtS Y p) (hm : Mod w.heap.size p W Y) (hg : Y.heap[g]? = W.heap[g]?) (hR : Y.heap[R]? = W.heap[R]?) (hn : es'.length ≤ N') (hd : ∀ x ∈ es', x.data.size ≤ 1000) : WSt w p g R N' (Y.setCell ⟨g, 4, none⟩ (.slice A' m' c')) t v b bt es' := by
 have hkY : Blk Y g #[.int .i64 t, .int .i64 v, .int .i64 b, .int .i64 bt, .slice A m c] 26 := hg.trans hk
 have hb2 : Below w.heap.size Y (Y.setCell ⟨g, 4, none⟩ (.slice A' m' c')) := (Below.refl _ _).setCell (show w.heap.size ≤ g by have := h.o; omega) _
 exact ⟨⟨A', m', c', hkY.set 4 _, hO.other (hO.notBlk hkY (by decide)) _ _, ent_len hO⟩, (show Blk Y R _ _ from hR.trans h.r).other (by have := h.o; omega) _ _, hn, hd, hA.below hb2 h.o.1, (h.m.trans hm).trans (Mod.of_below hb2), h.o⟩
def lenAt (g : Nat) (W : World) : Nat := match W.cell? ⟨g, 4, none⟩ with | some (.slice _ n _) => n | _ => 0
theorem lenAt_is {A : Option Addr} {n c : Nat} (h : W.cell? ⟨g, 4, none⟩ = some (.slice A n c)) : lenAt g W = n := by unfold lenAt; rw [h]
theorem WSt.out (h : WSt w p g R N W t v b bt es) : ∃ A c, (W.cell? ⟨g, 0, none⟩ = some (.int .i64 t) ∧ W.cell? ⟨g, 1, none⟩ = some (.int .i64 v) ∧ W.cell? ⟨g, 2, none⟩ = some (.int .i64 b) ∧ W.cell? ⟨g, 3, none⟩ = some (.int .i64 bt) ∧ W.cell? ⟨g, 4, none⟩ = some (.slice A es.length c)) ∧ (∀ i, W.frozen? ⟨g, i, none⟩ = false) ∧
  Blk W g #[.int .i64 t, .int .i64 v, .int .i64 b, .int .i64 bt, .slice A es.length c] 26 ∧ Owns W w.heap.size 61 2 (.slice A es.length c) (entR es) := by
 obtain ⟨A, m, c, hk, hO, rfl⟩ := h.k
 exact ⟨A, c, ⟨hk.cell 0 _ rfl, hk.cell 1 _ rfl, hk.cell 2 _ rfl, hk.cell 3 _ rfl, hk.cell 4 _ rfl⟩, fun i => hk.free i, hk, hO⟩
end
def DrawnW (w : World) (p N : Nat) (e : Ending) (w' : World) : Prop := ∃ u x, e = .returned u ∧ WalO w' w.heap.size u x ∧ x.ents.length ≤ N ∧ (∀ y ∈ x.ents, y.data.size ≤ 1000) ∧ (-1000 ≤ x.term ∧ x.term ≤ 1000000) ∧ AtS w' p ∧ Mod w.heap.size p w w'
end Go.Proofs.YtgillglkmnocaaaDoor
