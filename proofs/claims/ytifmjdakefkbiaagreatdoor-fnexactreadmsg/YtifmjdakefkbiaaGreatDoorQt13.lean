/- TdMath MgShI MgReA WkTo MgTk MgCp MgTm MgRp -/
import Derived.Test.YtifmjdakefkbiaaGreatDoorQt12
import Derived.Test.YtifmjdakefkbiaaGreatDoorQt0
import Derived.Test.YtifmjdakefkbiaaGreatDoorRows
import Derived.Test.YtifmjdakefkbiaaGreatDoorQt11
import Derived.Test.YtifmjdakefkbiaaGreatDoorQt9
import Derived.Test.YtifmjdakefkbiaaGreatDoorQt2
import Derived.Test.YtifmjdakefkbiaaGreatDoorQt4
import Derived.Laws.StructEq
import Derived.Laws.DeepStrings4
import Derived.Deep.Cut
import Derived.Deep.CutRange
import Derived.Handy
import Derived.Test.YtifmjdakefkbiaaGreatDoorQt3
import Derived.Test.YtifmjdakefkbiaaGreatDoorQt1
import Derived.Test.YtifmjdakefkbiaaGreatDoorQt6
import Derived.Test.YtifmjdakefkbiaaGreatDoorQt5
open List (setIfInBounds_toArray set_cons_zero set_cons_succ)
namespace Go.Proofs.YtifmjdakefkbiaaGreatDoor
open Go.RowKit Go.PlainAid
set_option linter.unusedVariables false
theorem half_zeroD (d : Nat) (hd : d < 4294967296) (h : half d = 0) : d = 0 := by
 unfold half at h
 split at h
 ·exfalso
  have e : d / 2 = 2197175160 := by
   have := congrArg (· ^^^ 2197175160) h
   simpa [Nat.xor_assoc] using this
  omega
 ·omega
theorem halfs_zeroD (k d : Nat) (hd : d < 4294967296) (h : halfs k d = 0) : d = 0 := by
 induction k with
 | zero => simpa [halfs] using h
 | succ k ih =>
  rw [halfs_succ] at h
  exact ih (half_zeroD _ (halfs_lt k d hd) h)
theorem xor_zeroD {a b : Nat} (h : a ^^^ b = 0) : a = b := by
 have := congrArg (· ^^^ b) h
 simpa [Nat.xor_assoc] using this
theorem halfs_injD (k a b : Nat) (ha : a < 4294967296) (hb : b < 4294967296) (h : halfs k a = halfs k b) : a = b := by
 apply xor_zeroD
 apply halfs_zeroD k _ (xor_lt32 a b ha hb)
 rw [halfs_xor, h, Nat.xor_self]
theorem crcC_sameD (s t : ByteArray) (j : Nat) (h : ∀ i, i < j → bn s i = bn t i) : crcC s j = crcC t j := by
 induction j with
 | zero => rfl
 | succ j ih =>
  rw [crcC_succ, crcC_succ, ih (fun i hi => h i (by omega)), h j (by omega)]
theorem bytes_extD {s t : ByteArray} (hz : s.size = t.size) (h : ∀ i, i < s.size → bn s i = bn t i) : s = t := by
 apply ByteArray.ext_getElem hz
 intro i h1 h2
 have := h i h1
 rw [bn_get s i h1, bn_get t i h2] at this
 exact UInt8.toNat_inj.1 this
theorem crcC_partD (s t : ByteArray) (k n : Nat) (hk : bn s k ≠ bn t k) (h : ∀ i, i < n → i ≠ k → bn s i = bn t i) (hkn : k < n) (d : Nat) (hd : k + 1 + d ≤ n) : crcC s (k + 1 + d) ≠ crcC t (k + 1 + d) := by
 induction d with
 | zero =>
  rw [Nat.add_zero, crcC_succ, crcC_succ, crcC_sameD s t k (fun i hi => h i (by omega) (by omega))]
  intro e
  have e2 := halfs_injD 8 _ _ (xor_lt32 _ _ (crcC_lt t k) (by have := bn_lt s k; omega)) (xor_lt32 _ _ (crcC_lt t k) (by have := bn_lt t k; omega)) e
  apply hk
  have := congrArg (crcC t k ^^^ ·) e2
  simpa [← Nat.xor_assoc] using this
 | succ d ih =>
  rw [show k + 1 + (d + 1) = (k + 1 + d) + 1 by omega, crcC_succ, crcC_succ, h (k + 1 + d) (by omega) (by omega)]
  intro e
  have e2 := halfs_injD 8 _ _ (xor_lt32 _ _ (crcC_lt s _) (by have := bn_lt t (k + 1 + d); omega)) (xor_lt32 _ _ (crcC_lt t _) (by have := bn_lt t (k + 1 + d); omega)) e
  apply ih (by omega)
  have := congrArg (· ^^^ bn t (k + 1 + d)) e2
  simpa [Nat.xor_assoc] using this
theorem bn_exD (s : ByteArray) (a b i : Nat) (hi : a + i < b) (hb : b ≤ s.size) : bn (s.extract a b) i = bn s (a + i) := by
 rw [bn_get _ _ (by rw [ByteArray.size_extract]; omega), bn_get _ _ (by omega)]
 congr 1
 rw [ByteArray.getElem_extract]
theorem crc_turned {a b : ByteArray} (hz : b.size = a.size) (k : Nat) (hk : k < a.size) (hne : bn a k ≠ bn b k) (heq : ∀ i, i < a.size → i ≠ k → bn a i = bn b i) : crc a ≠ crc b := by
 intro e
 unfold crc at e
 rw [hz] at e
 have l1 := crcC_lt a a.size
 have l2 := crcC_lt b a.size
 have e3 : crcC a a.size = crcC b a.size := by omega
 have := crcC_partD a b k a.size hne heq hk (a.size - (k + 1)) (by omega)
 rw [show k + 1 + (a.size - (k + 1)) = a.size by omega] at this
 exact this e3
theorem four_injD {a b : Nat} (ha : a < 4294967296) (hb : b < 4294967296) (h : four a = four b) : a = b := by
 rw [← rdv_four_four a ha, ← rdv_four_four b hb, h]
theorem fixed_fourD (n : Nat) (h : n < 4294967296) : fixed n 4 = four n := by
 unfold fixed four
 rw [if_pos (by omega)]
theorem sumOk_turned {s t : ByteArray} (h : sumOk s) (h4 : 4 ≤ s.size) (hz : t.size = s.size) (k : Nat) (hk : k < s.size) (hne : bn s k ≠ bn t k) (heq : ∀ i, i < s.size → i ≠ k → bn s i = bn t i) : ¬ sumOk t := by
 intro h'
 unfold sumOk at h h'
 rw [fixed_fourD _ (crc_lt _)] at h h'
 have zs : (lf s 4).size = s.size - 4 := by unfold lf; rw [ByteArray.size_extract]; omega
 have zt : (lf t 4).size = s.size - 4 := by unfold lf; rw [ByteArray.size_extract]; omega
 have bs : ∀ i, i < s.size - 4 → bn (lf s 4) i = bn s (4 + i) := fun i hi => bn_exD s 4 s.size i (by omega) (Nat.le_refl _)
 have btt : ∀ i, i < s.size - 4 → bn (lf t 4) i = bn t (4 + i) := fun i hi => bn_exD t 4 t.size i (by omega) (Nat.le_refl _)
 rcases Nat.lt_or_ge k 4 with hk4 | hk4
 ·have e1 : lf s 4 = lf t 4 := by
   apply bytes_extD (by rw [zs, zt])
   intro i hi
   rw [zs] at hi
   rw [bs i hi, btt i hi]
   exact heq _ (by omega) (by omega)
  rw [← e1, h] at h'
  have := congrArg (fun z => bn z k) h'
  try simp only at this
  rw [bn_exD s 0 4 k (by omega) h4, bn_exD t 0 4 k (by omega) (by omega), Nat.zero_add] at this
  exact hne this
 ·have e1 : s.extract 0 4 = t.extract 0 4 := by
   apply bytes_extD (by rw [ByteArray.size_extract, ByteArray.size_extract, hz])
   intro i hi
   rw [ByteArray.size_extract] at hi
   rw [bn_exD s 0 4 i (by omega) h4, bn_exD t 0 4 i (by omega) (by omega)]
   exact heq _ (by omega) (by omega)
  rw [← h, ← h'] at e1
  refine crc_turned (a := lf s 4) (b := lf t 4) (by rw [zs, zt]) (k - 4) (by omega) ?_ ?_ (four_injD (crc_lt _) (crc_lt _) e1)
  ·rw [bs _ (by omega), btt _ (by omega), show 4 + (k - 4) = k by omega]
   exact hne
  ·intro i hi hik
   rw [zs] at hi
   rw [bs i hi, btt i hi]
   exact heq _ (by omega) (by omega)
theorem MgRd.turned {s t : ByteArray} {x : Mg} (h : MgRd s x) (h4 : 4 ≤ s.size) (hz : t.size = s.size) (k : Nat) (hk : k < s.size) (hne : bn s k ≠ bn t k) (heq : ∀ i, i < s.size → i ≠ k → bn s i = bn t i) : ∀ y, ¬ MgRd t y := by
 intro y h'
 obtain ⟨_, _, _, _, _, hs, _⟩ := h
 obtain ⟨_, _, _, _, _, ht, _⟩ := h'
 exact sumOk_turned hs h4 hz k hk hne heq ht
theorem bn_rightD (a b : ByteArray) (k : Nat) (h : k < b.size) : bn (a ++ b) (a.size + k) = bn b k := by
 rw [bn_get _ _ (by rw [ByteArray.size_append]; omega), bn_get _ _ h]
 congr 1
 rw [ByteArray.getElem_append_right (by omega)]
 simp
theorem code_turned {b t : ByteArray} (h1 : 1 ≤ b.size) (h2 : b.size ≤ 2000) (hz : t.size = 8 + b.size) (k : Nat) (hk4 : 4 ≤ k) (hk : k < 8 + b.size) (hne : bn (frameOf b) k ≠ bn t k) (heq : ∀ i, i < 8 + b.size → i ≠ k → bn (frameOf b) i = bn t i) : code t = 2 := by
 have c0 := code_frameOf b ByteArray.empty h1 h2
 have r0 := rdv_frameOf b ByteArray.empty h2
 rw [ByteArray.append_empty] at c0 r0
 have zs := frameOf_size b
 generalize frameOf b = s at *
 have rt : rdv t 4 = b.size := by
  rw [← r0, rdv_four, rdv_four, heq 0 (by omega) (by omega), heq 1 (by omega) (by omega), heq 2 (by omega) (by omega), heq 3 (by omega) (by omega)]
 rw [code_zero, r0] at c0
 obtain ⟨_, _, _, _, hs⟩ := c0
 have p4 : s.extract 0 4 = t.extract 0 4 := by
  apply bytes_extD (by rw [ByteArray.size_extract, ByteArray.size_extract]; omega)
  intro i hi
  rw [ByteArray.size_extract] at hi
  rw [bn_exD s 0 4 i (by omega) (by omega), bn_exD t 0 4 i (by omega) (by omega)]
  exact heq _ (by omega) (by omega)
 have zbs : (bodyOf s).size = b.size := by rw [bodyOf, r0, ByteArray.size_extract]; omega
 have zbt : (bodyOf t).size = b.size := by rw [bodyOf, rt, ByteArray.size_extract]; omega
 have bs : ∀ i, i < b.size → bn (bodyOf s) i = bn s (8 + i) := fun i hi => by rw [bodyOf, r0]; exact bn_exD s 8 _ i (by omega) (by omega)
 have btt : ∀ i, i < b.size → bn (bodyOf t) i = bn t (8 + i) := fun i hi => by rw [bodyOf, rt]; exact bn_exD t 8 _ i (by omega) (by omega)
 have hno : ¬ sumOf (t.extract 0 4) (bodyOf t) = t.extract 4 8 := by
  intro ht
  rw [← p4] at ht
  rcases Nat.lt_or_ge k 8 with hk8 | hk8
  ·have e1 : bodyOf s = bodyOf t := by
    apply bytes_extD (by rw [zbs, zbt])
    intro i hi
    rw [zbs] at hi
    rw [bs i hi, btt i hi]
    exact heq _ (by omega) (by omega)
   rw [← e1, hs] at ht
   have := congrArg (fun z => bn z (k - 4)) ht
   try simp only at this
   rw [bn_exD s 4 8 _ (by omega) (by omega), bn_exD t 4 8 _ (by omega) (by omega), show 4 + (k - 4) = k by omega] at this
   exact hne this
  ·have e1 : s.extract 4 8 = t.extract 4 8 := by
    apply bytes_extD (by rw [ByteArray.size_extract, ByteArray.size_extract]; omega)
    intro i hi
    rw [ByteArray.size_extract] at hi
    rw [bn_exD s 4 8 i (by omega) (by omega), bn_exD t 4 8 i (by omega) (by omega)]
    exact heq _ (by omega) (by omega)
   rw [← hs, ← ht] at e1
   have e2 := four_injD (crc_lt _) (crc_lt _) (show four _ = four _ from e1)
   have zp : (s.extract 0 4).size = 4 := by rw [ByteArray.size_extract]; omega
   generalize s.extract 0 4 = p at *
   refine crc_turned (a := p ++ bodyOf s) (b := p ++ bodyOf t) (by rw [ByteArray.size_append, ByteArray.size_append, zbs, zbt]) (p.size + (k - 8)) (by rw [ByteArray.size_append, zbs]; omega) ?_ ?_ e2
   ·rw [bn_rightD _ _ _ (by rw [zbs]; omega), bn_rightD _ _ _ (by rw [zbt]; omega), bs _ (by omega), btt _ (by omega), show 8 + (k - 8) = k by omega]
    exact hne
   ·intro i hi hik
    rw [ByteArray.size_append, zbs] at hi
    rcases Nat.lt_or_ge i p.size with hip | hip
    ·rw [bn_append_left _ _ _ hip, bn_append_left _ _ _ hip]
    ·obtain ⟨j, rfl⟩ := Nat.exists_eq_add_of_le hip
     rw [bn_rightD _ _ _ (by rw [zbs]; omega), bn_rightD _ _ _ (by rw [zbt]; omega), bs _ (by omega), btt _ (by omega)]
     exact heq _ (by omega) (by omega)
 unfold code
 rw [if_neg (by omega), rt, if_neg (by omega), if_neg (by omega), if_neg hno]
end Go.Proofs.YtifmjdakefkbiaaGreatDoor
namespace Go.Proofs.YtifmjdakefkbiaaGreatDoor
open Go.ChangeShapes Go.WideShapes Go.ChangeAt Go.RowKit Go.PlainAid
set_option linter.unusedVariables false
theorem strCells_appM (t s : ByteArray) : Lib.strCells (t ++ s) = Lib.strCells t ++ Lib.strCells s := by simp [Lib.strCells]
def BldM (gb : Nat) (t : ByteArray) (w : World) : Prop := Lib.IsBuilderF 69 5 gb gb (Lib.strCells t) w
theorem BldM.on {gb : Nat} {t : ByteArray} {w w' : World} (h : BldM gb t w) (hb : Below w.heap.size w w') : BldM gb t w' := bld_on h hb
theorem bldWriteM (gb : Nat) (t s : ByteArray) (w : World) (h : BldM gb t w) (hlen : t.size + s.size ≤ 100000000) (hBw : gb ≤ w.heap.size) :
  Calls Tryz.prog 36 #[.pointer (some ⟨gb, 0, none⟩), .string s] w fun e w' => e = .returned (.tuple #[.int .i64 s.size, .nilIface]) ∧ BldM gb (t ++ s) w' ∧ Below gb w w' := by
 refine (bldWrite gb gb _ s w h (by rw [Lib.strCells_length]; omega) hBw).mono ?_
 rintro e w' ⟨rfl, h1, h2, h3⟩
 refine ⟨rfl, ?_, h2⟩
 unfold BldM
 rw [strCells_appM]
 exact .inr h1
theorem bldStringM (gb : Nat) (t : ByteArray) (w : World) (h : BldM gb t w) (hBw : gb ≤ w.heap.size) :
  Calls Tryz.prog 40 #[.pointer (some ⟨gb, 0, none⟩)] w fun e w' => e = .returned (.string t) ∧ BldM gb t w' ∧ Below gb w w' := by
 have h' : Lib.IsBuilderF 69 5 gb gb (Lib.byteCells t.data.toList) w := h
 refine (bldString gb gb _ w h' hBw).mono ?_
 rintro e w' ⟨rfl, h1, h2, _⟩
 exact ⟨by simp, h1, h2⟩
theorem BldM.lt {gb : Nat} {t : ByteArray} {w : World} (h : BldM gb t w) : gb < w.heap.size := by
 rcases h with ⟨_, v, hh, _⟩ | ⟨_, v, hh, _⟩
 ·exact lt_of_block hh
 ·exact lt_of_block hh
theorem yesI (b : Bool) (w : World) : Calls Tryz.prog 38 #[.bool b] w fun e w' => e = .returned (.int .i64 ((yesN b : Nat) : Int)) ∧ w = w' := by
 cases b
 all_goals
  go_enter Tryz.func38, Tryz.ntmps38
  go_wp2_with fail
  go_ret
  exact ⟨rfl, rfl⟩
theorem msgSumV (s : ByteArray) (w : World) (hs : s.size ≤ 2000000) (ht : SumTab w) : Calls Tryz.prog 39 #[.string s] w fun e w' => e = .returned (.string (fixed (crc s) 4)) ∧ Below w.heap.size w w' := by
 have hc := crc_lt s
 have cC := impl_crc s w (by omega) ht
 have cX := fun wx => impl_fixed (crc s) 4 wx (by omega) (by omega) (by omega)
 generalize fixed (crc s) 4 = fx at *
 generalize crc s = cb at *
 go_enter Tryz.func39, Tryz.ntmps39
 go_wp2_with fail
 refine cC.mono ?_
 rintro e w' ⟨rfl, rfl⟩
 go_wp2_with fail
 refine (cX _).mono ?_
 rintro e w' ⟨rfl, hb⟩
 have HB := Hid.mkM hb
 clear hb cX cC
 go_wp2_with fail
 go_ret
 exact ⟨rfl, HB.out⟩
theorem varsT_snoc (l : List Int) (k : Nat) (h : k < l.length) : varsT (l.take (k + 1)) = varsT (l.take k) ++ txt (vF 6 (l.getD k 0).toNat) := by
 have e : l.take (k + 1) = l.take k ++ [l.getD k 0] := by
  rw [List.take_succ_eq_append_getElem h, List.getD_eq_getElem?_getD, List.getElem?_eq_getElem h]; rfl
 rw [e, varsT_append]
 simp [varsT]
theorem varsT_sizeM : ∀ (l : List Int), (varsT l).size ≤ 7 * l.length
 | [] => by simp [varsT]
 | z :: l => by
  have h1 := varsT_sizeM l
  have h2 := vT_small z.toNat
  rw [varsT, ByteArray.size_append, List.length_cons]
  omega
set_option maxHeartbeats 4000000 in
theorem showVarsV (l : List Int) (v : Value) (w : World) (B : Nat) (hv : NumsV w B v l) (hl : l.length ≤ 100) (hz : ∀ j, j < l.length → 0 ≤ l.getD j 0 ∧ l.getD j 0 ≤ 562949953421311) (hB : B ≤ w.heap.size) :
  Calls Tryz.prog 37 #[v] w fun e w' => e = .returned (.string (varsT l)) ∧ Below w.heap.size w w' := by
 obtain ⟨A, cap, rfl, _, _, hlk⟩ := hv
 have HL := Hid.mkM hlk
 have HZ := Hid.mkM hz
 have HB : Hid (B ≤ w.heap.size) := hB
 have HSN : Hid (∀ k, k < l.length → varsT (l.take (k + 1)) = varsT (l.take k) ++ txt (vF 6 (l.getD k 0).toNat)) := fun k hk => varsT_snoc l k hk
 have HSZ : Hid (∀ k, (varsT (l.take k)).size ≤ 700) := fun k => by
  have h1 := varsT_sizeM (l.take k)
  have h2 : (l.take k).length ≤ 100 := by rw [List.length_take]; omega
  unfold Hid at *
  omega
 have HTA : Hid (varsT (l.take l.length) = varsT l) := by unfold Hid; rw [List.take_length]
 clear hlk hz hB
 generalize hN : l.length = n at *
 clear hN
 have qn : (n : Int) ≤ 100 := by omega
 have al : Below w.heap.size w (w.alloc (.cells #[.pointer none, .slice none 0 0] 69)) := (Below.refl _ _).alloc (Nat.le_refl _) _
 have k3 := Blk.new w #[.pointer none, .slice none 0 0] 69
 have LB : Hid (BldM w.heap.size ByteArray.empty (w.alloc (.cells #[.pointer none, .slice none 0 0] 69))) := bld_new k3
 have B0 := Hid.mkM al
 clear al k3
 go_enter Tryz.func37, Tryz.ntmps37
 go_wp2_with fail
 generalize w.alloc (.cells #[.pointer none, .slice none 0 0] 69) = W at *
 go_loopw [8] (fun v8 wr => ∃ i : Nat, i ≤ n ∧ v8 = .int .i64 (i : Int) ∧ BldM w.heap.size (varsT (l.take i)) wr ∧ Below w.heap.size w wr) (fun v _ => n - (intOf v).toNat)
 case atStart => exact ⟨0, Nat.zero_le _, rfl, LB.out, B0.out⟩
 case round =>
  obtain ⟨i, hi, rfl, hL, hD⟩ := hrel
  have L := Hid.mkM hL
  have D := Hid.mkM hD
  clear hL hD LB B0
  by_cases hlt : i < n
  ·have q4 : (i : Int) < (n : Int) := by omega
   obtain ⟨g, off, rfl, hg, e0⟩ := HL.out i hlt
   rw [← D.out.cell (p := ⟨_, _, none⟩) (Nat.lt_of_lt_of_le hg HB.out)] at e0
   obtain ⟨z1, z2⟩ := HZ.out i hlt
   have HS2 : Hid (varsT (l.take (i + 1)) = varsT (l.take i) ++ txt (vF 6 (l.getD i 0).toNat)) := HSN.out i hlt
   have hsz := HSZ.out i
   generalize l.getD i 0 = z at *
   obtain ⟨zn, rfl⟩ : ∃ m : Nat, z = (m : Int) := ⟨z.toNat, by omega⟩
   rw [Int.toNat_natCast] at HS2
   have cV := fun wx => impl_var zn wx (by omega)
   have hv7 := vT_small zn
   generalize txt (vF 6 zn) = tz at *
   go_wp2_with fail
   refine (cV _).mono ?_
   rintro e Y ⟨rfl, hb⟩
   have L1 := Hid.mkM (L.out.on hb)
   have D1 : Hid (Below w.heap.size w Y) := D.out.trans (hb.mono D.out.size)
   clear hb cV e0 z1 z2 L D
   go_wp2_with fail
   refine (bldWriteM w.heap.size _ tz Y L1.out (by omega) D1.out.size).mono ?_
   rintro e Y2 ⟨rfl, hL2, hb2⟩
   have L2 : Hid (BldM w.heap.size (varsT (l.take (i + 1))) Y2) := by unfold Hid; rw [HS2.out]; exact hL2
   have D2 : Hid (Below w.heap.size w Y2) := D1.out.trans hb2
   clear hL2 hb2 L1 D1
   go_wp2_with fail
   go_roundw
   case rel => exact ⟨i + 1, by omega, by go_num, L2.out, D2.out⟩
   case measure => simp [intOf]; omega
  ·obtain rfl : i = n := by omega
   rw [HTA.out] at L
   go_wp2_with fail
   refine (bldStringM w.heap.size _ _ L.out D.out.size).mono ?_
   rintro e Y ⟨rfl, _, hb⟩
   have DE : Hid (Below w.heap.size w Y) := D.out.trans hb
   clear hb
   go_wp2_with fail
   go_ret
   exact ⟨rfl, DE.out⟩
set_option maxRecDepth 20000 in
set_option maxHeartbeats 16000000 in
theorem implShowMsg (x : Mg) (v : Value) (w : World) (B : Nat) (hv : MgV w B v x) (hf : FitsM x) (hs : x.data.size ≤ 1048576) (hB : B ≤ w.heap.size) (hst : SumTab w) (a0 a1 a2 : Addr) (he : Errs w a0 a1 a2) : Calls Tryz.prog 12 #[v] w fun e w' => e = .returned (.string (msgT x)) ∧ Below w.heap.size w w' := by
 have HV := Hid.mkM hv
 have ST := Hid.mkM hst
 obtain ⟨u, rfl, hl⟩ := hv
 obtain ⟨A, cap, rfl, hlk⟩ := ent_look hl
 have HB : Hid (B ≤ w.heap.size) := hB
 have HL := Hid.mkM hlk
 have c0 := fun wx (h : Below w.heap.size w wx) => implMsgOk x _ wx B (HV.out.on (h.mono HB.out)) hf hs (Nat.le_trans HB.out h.size) (hst.on h) a0 a1 a2 (he.on h)
 have HDS : Hid (x.data.size ≤ 1048576) := hs
 clear hl hlk hf hs hB HV hst he
 unfold vMg at c0 ⊢
 generalize hN : x.ents.length = n at *
 have HNE : Hid (x.ents.length = n) := hN
 clear hN
 cases ho : msgOk x
 ·have HE : Hid (msgT x = ⟨#[]⟩) := msgT_no ho
  rw [ho] at c0
  clear ho
  have hb0 := (Below.refl w.heap.size w).alloc (Nat.le_refl _) (.cells #[.int .i64 x.kind, .int .i64 x.frm, .int .i64 x.dst, .int .i64 x.term, .int .i64 x.index, .int .i64 x.iterm, .int .i64 x.commit, .bool x.yes, .slice A n cap, .string x.data] 31)
  go_enter Tryz.func12, Tryz.ntmps12
  go_wp2_with fail
  refine (c0 _ hb0).mono ?_
  rintro e w1 ⟨rfl, hb1⟩
  have B1 : Hid (Below w.heap.size w w1) := hb0.trans (hb1.mono hb0.size)
  clear hb0 hb1 c0
  go_wp2_with fail
  go_ret
  exact ⟨by rw [HE.out]; rfl, B1.out⟩
 rw [ho] at c0
 have HE : Hid (msgT x = fixed (crc (bodT x)) 4 ++ bodT x) := msgT_yes ho
 obtain ⟨⟨e0, b0⟩, ⟨e1, b1⟩, ⟨e2, b2⟩, ⟨e3, b3⟩, ⟨e4, b4⟩, ⟨e5, b5⟩, ⟨e6, b6⟩, h8, h9⟩ := msgOk_in ho
 have HEN := Hid.mkM h9
 have qn4 : n ≤ 4 := by have := HNE.out; omega
 clear ho h8 h9
 obtain ⟨kn, hkn⟩ : ∃ n : Nat, x.kind = (n : Int) := ⟨x.kind.toNat, by omega⟩
 obtain ⟨fn, hfn⟩ : ∃ n : Nat, x.frm = (n : Int) := ⟨x.frm.toNat, by omega⟩
 obtain ⟨dn, hdn⟩ : ∃ n : Nat, x.dst = (n : Int) := ⟨x.dst.toNat, by omega⟩
 obtain ⟨tn, htn⟩ : ∃ n : Nat, x.term = (n : Int) := ⟨x.term.toNat, by omega⟩
 obtain ⟨xn, hxn⟩ : ∃ n : Nat, x.index = (n : Int) := ⟨x.index.toNat, by omega⟩
 obtain ⟨sn, hsn⟩ : ∃ n : Nat, x.iterm = (n : Int) := ⟨x.iterm.toNat, by omega⟩
 obtain ⟨cn, hcn⟩ : ∃ n : Nat, x.commit = (n : Int) := ⟨x.commit.toNat, by omega⟩
 have HH : Hid (varsT [(kn : Int), (fn : Int), (dn : Int), (tn : Int), (xn : Int), (sn : Int), (cn : Int), ((yesN x.yes : Nat) : Int), (n : Int)] = hdT x) := by
  unfold Hid hdT
  rw [HNE.out, hkn, hfn, hdn, htn, hxn, hsn, hcn]
  simp [varsT, ByteArray.append_assoc]
 have hyn : yesN x.yes ≤ 1 := by unfold yesN; split <;> omega
 have HBO : Hid (bodT x = hdT x ++ catE x.ents ++ x.data) := rfl
 have HHS : Hid ((hdT x).size ≤ 63) := hdT_size x
 have HCS : Hid (∀ k, (catE (x.ents.take k)).size ≤ 3656) := catE_few x.ents (by have := HNE.out; omega) fun y hy => (HEN.out y hy).2.2
 have HTA : Hid (x.ents.take n = x.ents) := by unfold Hid; rw [← HNE.out, List.take_length]
 have HSN : Hid (∀ k, k < n → catE (x.ents.take (k + 1)) = catE (x.ents.take k) ++ entT (x.ents.getD k default)) := fun k hk => catE_snoc x.ents k (by have := HNE.out; omega)
 have HEE : Hid (∀ k, k < n → 1 ≤ (x.ents.getD k default).term ∧ (x.ents.getD k default).term ≤ 100000 ∧ (x.ents.getD k default).data.size ≤ 900) := fun k hk => HEN.out _ (getD_mem _ k (by have := HNE.out; omega))
 rw [hkn, hfn, hdn, htn, hxn, hsn, hcn] at c0 ⊢
 rw [hkn] at e0 b0
 rw [hfn] at e1 b1
 rw [hdn] at e2 b2
 rw [htn] at e3 b3
 rw [hxn] at e4 b4
 rw [hsn] at e5 b5
 rw [hcn] at e6 b6
 clear hkn hfn hdn htn hxn hsn hcn
 have cy := fun wx => yesI x.yes wx
 generalize yesN x.yes = yn at *
 generalize x.yes = yy at *
 generalize x.data = dd at *
 have cV : ∀ wx : World, Calls Tryz.prog 37 #[.slice (some ⟨wx.heap.size, 0, none⟩) 9 9] (wx.alloc (.cells #[.int .i64 (kn : Int), .int .i64 (fn : Int), .int .i64 (dn : Int), .int .i64 (tn : Int), .int .i64 (xn : Int), .int .i64 (sn : Int), .int .i64 (cn : Int), .int .i64 (yn : Int), .int .i64 (n : Int)] 3)) fun e w' => e = .returned (.string (hdT x)) ∧ Below (wx.alloc (.cells #[.int .i64 (kn : Int), .int .i64 (fn : Int), .int .i64 (dn : Int), .int .i64 (tn : Int), .int .i64 (xn : Int), .int .i64 (sn : Int), .int .i64 (cn : Int), .int .i64 (yn : Int), .int .i64 (n : Int)] 3)).heap.size (wx.alloc (.cells #[.int .i64 (kn : Int), .int .i64 (fn : Int), .int .i64 (dn : Int), .int .i64 (tn : Int), .int .i64 (xn : Int), .int .i64 (sn : Int), .int .i64 (cn : Int), .int .i64 (yn : Int), .int .i64 (n : Int)] 3)) w' := fun wx => by
  have hN : Nums (wx.alloc (.cells #[.int .i64 (kn : Int), .int .i64 (fn : Int), .int .i64 (dn : Int), .int .i64 (tn : Int), .int .i64 (xn : Int), .int .i64 (sn : Int), .int .i64 (cn : Int), .int .i64 (yn : Int), .int .i64 (n : Int)] 3)) 0 (.slice (some ⟨wx.heap.size, 0, none⟩) 9 9) [(kn : Int), (fn : Int), (dn : Int), (tn : Int), (xn : Int), (sn : Int), (cn : Int), ((yn : Nat) : Int), (n : Int)] := World.ownsRow_lit wx #[.int .i64 (kn : Int), .int .i64 (fn : Int), .int .i64 (dn : Int), .int .i64 (tn : Int), .int .i64 (xn : Int), .int .i64 (sn : Int), .int .i64 (cn : Int), .int .i64 (yn : Int), .int .i64 (n : Int)] 9 (Nat.zero_le _) (by unfold maxLen; omega) rfl
  rw [← HH.out]
  refine showVarsV [(kn : Int), (fn : Int), (dn : Int), (tn : Int), (xn : Int), (sn : Int), (cn : Int), ((yn : Nat) : Int), (n : Int)] _ _ _ hN.lies (by simp) (fun j hj => ?_) (Nat.le_refl _)
  have : j = 0 ∨ j = 1 ∨ j = 2 ∨ j = 3 ∨ j = 4 ∨ j = 5 ∨ j = 6 ∨ j = 7 ∨ j = 8 := by simp at hj; omega
  rcases this with rfl | rfl | rfl | rfl | rfl | rfl | rfl | rfl | rfl <;> simp <;> omega
 have hb0 := (Below.refl w.heap.size w).alloc (Nat.le_refl _) (.cells #[.int .i64 (kn : Int), .int .i64 (fn : Int), .int .i64 (dn : Int), .int .i64 (tn : Int), .int .i64 (xn : Int), .int .i64 (sn : Int), .int .i64 (cn : Int), .bool yy, .slice A n cap, .string dd] 31)
 have k0 := Blk.new w #[.int .i64 (kn : Int), .int .i64 (fn : Int), .int .i64 (dn : Int), .int .i64 (tn : Int), .int .i64 (xn : Int), .int .i64 (sn : Int), .int .i64 (cn : Int), .bool yy, .slice A n cap, .string dd] 31
 clear e0 b0 e1 b1 e2 b2 e3 b3 e4 b4 e5 b5 e6 b6 hyn
 have qn : (n : Int) ≤ 4 := by omega
 go_enter Tryz.func12, Tryz.ntmps12
 go_wp2_with fail
 generalize w.alloc (.cells #[.int .i64 (kn : Int), .int .i64 (fn : Int), .int .i64 (dn : Int), .int .i64 (tn : Int), .int .i64 (xn : Int), .int .i64 (sn : Int), .int .i64 (cn : Int), .bool yy, .slice A n cap, .string dd] 31) = W at *
 refine (c0 _ hb0).mono ?_
 rintro e w1 ⟨rfl, hb1⟩
 have B1 : Hid (Below w.heap.size w w1) := hb0.trans (hb1.mono hb0.size)
 have K1 := Hid.mkM (k0.on hb1 k0.lt)
 clear hb0 hb1 c0 k0
 have hal := (Below.refl w1.heap.size w1).alloc (Nat.le_refl _) (.cells #[.pointer none, .slice none 0 0] 69)
 have k3 := Blk.new w1 #[.pointer none, .slice none 0 0] 69
 have LB : Hid (BldM w1.heap.size ByteArray.empty (w1.alloc (.cells #[.pointer none, .slice none 0 0] 69))) := bld_new k3
 have B2 : Hid (Below w.heap.size w (w1.alloc (.cells #[.pointer none, .slice none 0 0] 69))) := B1.out.trans (hal.mono B1.out.size)
 have K2 := Hid.mkM (K1.out.on hal K1.out.lt)
 have HGB : Hid (w.heap.size < w1.heap.size) := K1.out.lt
 clear hal k3 B1 K1
 go_wp2_with fail
 generalize w1.alloc (.cells #[.pointer none, .slice none 0 0] 69) = w2 at *
 generalize w1.heap.size = gb at *
 have HS0 : Hid (∀ wx, Below gb w2 wx → wx.cell? ⟨w.heap.size, 0, none⟩ = some (.int .i64 (kn : Int)) ∧ wx.cell? ⟨w.heap.size, 1, none⟩ = some (.int .i64 (fn : Int)) ∧ wx.cell? ⟨w.heap.size, 2, none⟩ = some (.int .i64 (dn : Int)) ∧ wx.cell? ⟨w.heap.size, 3, none⟩ = some (.int .i64 (tn : Int)) ∧ wx.cell? ⟨w.heap.size, 4, none⟩ = some (.int .i64 (xn : Int)) ∧ wx.cell? ⟨w.heap.size, 5, none⟩ = some (.int .i64 (sn : Int)) ∧ wx.cell? ⟨w.heap.size, 6, none⟩ = some (.int .i64 (cn : Int)) ∧ wx.cell? ⟨w.heap.size, 7, none⟩ = some (.bool yy) ∧ wx.cell? ⟨w.heap.size, 8, none⟩ = some (.slice A n cap)) := fun wx hx => ⟨(hx.cell (p := ⟨w.heap.size, 0, none⟩) HGB.out).trans (K2.out.cell 0 _ rfl), (hx.cell (p := ⟨w.heap.size, 1, none⟩) HGB.out).trans (K2.out.cell 1 _ rfl), (hx.cell (p := ⟨w.heap.size, 2, none⟩) HGB.out).trans (K2.out.cell 2 _ rfl), (hx.cell (p := ⟨w.heap.size, 3, none⟩) HGB.out).trans (K2.out.cell 3 _ rfl), (hx.cell (p := ⟨w.heap.size, 4, none⟩) HGB.out).trans (K2.out.cell 4 _ rfl), (hx.cell (p := ⟨w.heap.size, 5, none⟩) HGB.out).trans (K2.out.cell 5 _ rfl), (hx.cell (p := ⟨w.heap.size, 6, none⟩) HGB.out).trans (K2.out.cell 6 _ rfl), (hx.cell (p := ⟨w.heap.size, 7, none⟩) HGB.out).trans (K2.out.cell 7 _ rfl), (hx.cell (p := ⟨w.heap.size, 8, none⟩) HGB.out).trans (K2.out.cell 8 _ rfl)⟩
 have HGW : Hid (gb ≤ w2.heap.size) := Nat.le_of_lt LB.out.lt
 refine wp_region_until (fun w' => w'.cell? ⟨w.heap.size, 0, none⟩ = some (.int .i64 (kn : Int)) ∧ w'.cell? ⟨w.heap.size, 1, none⟩ = some (.int .i64 (fn : Int)) ∧ w'.cell? ⟨w.heap.size, 2, none⟩ = some (.int .i64 (dn : Int)) ∧ w'.cell? ⟨w.heap.size, 3, none⟩ = some (.int .i64 (tn : Int)) ∧ w'.cell? ⟨w.heap.size, 4, none⟩ = some (.int .i64 (xn : Int)) ∧ w'.cell? ⟨w.heap.size, 5, none⟩ = some (.int .i64 (sn : Int)) ∧ w'.cell? ⟨w.heap.size, 6, none⟩ = some (.int .i64 (cn : Int)) ∧ w'.cell? ⟨w.heap.size, 7, none⟩ = some (.bool yy) ∧ w'.cell? ⟨w.heap.size, 8, none⟩ = some (.slice A n cap)) (fun _ => false) 23 (by rfl) (by kernel_rfl) ?_
 have V0 : Hid (Below gb w2 w2.drew) := (Below.refl _ _).drew
 have L0 : Hid (BldM gb ByteArray.empty w2.drew) := LB.out
 generalize w2.drew = Y0 at *
 refine tF 0 (HS0.out _ V0.out) ?_
 refine tF 1 (HS0.out _ V0.out) ?_
 refine tF 2 (HS0.out _ V0.out) ?_
 refine tF 3 (HS0.out _ V0.out) ?_
 refine tF 4 (HS0.out _ V0.out) ?_
 refine tF 5 (HS0.out _ V0.out) ?_
 refine tF 6 (HS0.out _ V0.out) ?_
 refine tF 7 (HS0.out _ V0.out) ?_
 refine tF 8 (HS0.out _ V0.out) ?_
 refine tF 9 (HS0.out _ V0.out) ?_
 refine tF 10 (HS0.out _ V0.out) ?_
 refine tF 11 (HS0.out _ V0.out) ?_
 refine tF 12 (HS0.out _ V0.out) ?_
 refine tF 13 (HS0.out _ V0.out) ?_
 refine tF 14 (HS0.out _ V0.out) ?_
 refine tF 15 (HS0.out _ V0.out) ?_
 refine tF 17 (HS0.out _ V0.out) ?_
 refine tF 18 (HS0.out _ V0.out) ?_
 refine tF 19 (HS0.out _ V0.out) ?_
 refine uNe 16 (fun K hK => ?_)
 go_simp
 refine (cy Y0).mono ?_
 rintro e w' ⟨rfl, rfl⟩
 refine hK.out _ _ (fun _ _ => HS0.out _ V0.out) ?_
 clear hK K
 try simp only [Act.put, zQ1, zQ2, zQ3]
 refine uNe 20 (fun K hK => ?_)
 have ha := (Below.refl Y0.heap.size Y0).alloc (Nat.le_refl _) (.cells #[.int .i64 (kn : Int), .int .i64 (fn : Int), .int .i64 (dn : Int), .int .i64 (tn : Int), .int .i64 (xn : Int), .int .i64 (sn : Int), .int .i64 (cn : Int), .int .i64 (yn : Int), .int .i64 (n : Int)] 3)
 have V1 : Hid (Below gb w2 (Y0.alloc (.cells #[.int .i64 (kn : Int), .int .i64 (fn : Int), .int .i64 (dn : Int), .int .i64 (tn : Int), .int .i64 (xn : Int), .int .i64 (sn : Int), .int .i64 (cn : Int), .int .i64 (yn : Int), .int .i64 (n : Int)] 3))) := V0.out.trans (ha.mono (Nat.le_trans HGW.out V0.out.size))
 have L1 := Hid.mkM (L0.out.on ha)
 have cV2 := cV Y0
 clear ha L0
 go_simp
 refine hK.out _ _ (fun _ _ => HS0.out _ V1.out) ?_
 clear hK K
 try simp only [Act.put, zQ1, zQ2, zQ3]
 generalize Y0.alloc (.cells #[.int .i64 (kn : Int), .int .i64 (fn : Int), .int .i64 (dn : Int), .int .i64 (tn : Int), .int .i64 (xn : Int), .int .i64 (sn : Int), .int .i64 (cn : Int), .int .i64 (yn : Int), .int .i64 (n : Int)] 3) = Y1 at *
 refine uNe 21 (fun K hK => ?_)
 go_simp
 refine cV2.mono ?_
 rintro e Y2 ⟨rfl, hb⟩
 have V2 : Hid (Below gb w2 Y2) := V1.out.trans (hb.mono (Nat.le_trans HGW.out V1.out.size))
 have L2 := Hid.mkM (L1.out.on hb)
 clear hb V1 L1 cV2 cV cy
 refine hK.out _ _ (fun _ _ => HS0.out _ V2.out) ?_
 clear hK K
 try simp only [Act.put, zQ1, zQ2, zQ3]
 refine uNe 22 (fun K hK => ?_)
 go_simp
 refine (bldWriteM gb _ (hdT x) Y2 L2.out (by have := HHS.out; have h0 : ByteArray.empty.size = 0 := rfl; omega) (Nat.le_of_lt L2.out.lt)).mono ?_
 rintro e Y3 ⟨rfl, hL3, hb⟩
 have V3 : Hid (Below gb w2 Y3) := V2.out.trans hb
 have L3 : Hid (BldM gb (hdT x) Y3) := by unfold Hid; rw [ByteArray.empty_append] at hL3; exact hL3
 clear hb hL3 V2 L2
 refine hK.out _ _ (fun _ _ => HS0.out _ V3.out) ?_
 clear hK K
 try simp only [Act.put, zQ1, zQ2, zQ3]
 refine until_done (by kernel_rfl) ?_ _
 have D0 : Hid (Below w.heap.size w Y3) := B2.out.trans (V3.out.mono (Nat.le_of_lt HGB.out))
 have K3 : Hid (Blk Y3 w.heap.size #[.int .i64 (kn : Int), .int .i64 (fn : Int), .int .i64 (dn : Int), .int .i64 (tn : Int), .int .i64 (xn : Int), .int .i64 (sn : Int), .int .i64 (cn : Int), .bool yy, .slice A n cap, .string dd] 31) := (V3.out.block _ HGB.out).trans K2.out
 clear HS0 V3 V0 B2 K2 LB
 have HHs := Hid.mkM HHS.out
 generalize hdT x = hd at *
 have k8 := K3.out.cell 8 _ rfl
 go_wp2_with fail
 clear k8
 go_loopw [35] (fun v wr => ∃ i : Nat, i ≤ n ∧ v = .int .i64 (i : Int) ∧ BldM gb (hd ++ catE (x.ents.take i)) wr ∧ Below w.heap.size w wr ∧ Blk wr w.heap.size #[.int .i64 (kn : Int), .int .i64 (fn : Int), .int .i64 (dn : Int), .int .i64 (tn : Int), .int .i64 (xn : Int), .int .i64 (sn : Int), .int .i64 (cn : Int), .bool yy, .slice A n cap, .string dd] 31) (fun v _ => n - (intOf v).toNat)
 case atStart => exact ⟨0, Nat.zero_le _, rfl, by simpa [catE] using L3.out, D0.out, K3.out⟩
 case round =>
  obtain ⟨i, hi, rfl, hL, hD, hK⟩ := hrel
  have L := Hid.mkM hL
  have D := Hid.mkM hD
  have K4 := Hid.mkM hK
  clear hL hD hK L3 D0 K3
  have HC := HCS.out i
  by_cases hlt : i < n
  ·have q4 : (i : Int) < (n : Int) := by omega
   obtain ⟨g, off, rfl, hg, e0, e1⟩ := HL.out i hlt
   have hgw : g < w.heap.size := Nat.lt_of_lt_of_le hg HB.out
   rw [← D.out.cell (p := ⟨_, _, none⟩) hgw] at e0 e1
   have HSi : Hid (catE (x.ents.take (i + 1)) = catE (x.ents.take i) ++ entT (x.ents.getD i default)) := HSN.out i hlt
   obtain ⟨z1, z2, z3⟩ := HEE.out i hlt
   generalize x.ents.getD i default = y at *
   obtain ⟨yt, yd⟩ := y
   simp only at e0 e1 z1 z2 z3
   obtain ⟨yn2, rfl⟩ : ∃ m : Nat, yt = (m : Int) := ⟨yt.toNat, by omega⟩
   have HET : Hid (varsT [(yn2 : Int), ((yd.size : Nat) : Int)] ++ yd = entT ⟨(yn2 : Int), yd⟩) := by unfold Hid entT; simp [varsT, ByteArray.append_assoc]
   have hv7 := varsT_sizeM [(yn2 : Int), ((yd.size : Nat) : Int)]
   have hv8 : (varsT [(yn2 : Int), ((yd.size : Nat) : Int)]).size ≤ 14 := hv7
   have qd : (yd.size : Int) ≤ 900 := by omega
   have cW : ∀ wx : World, Calls Tryz.prog 37 #[.slice (some ⟨wx.heap.size, 0, none⟩) 2 2] (wx.alloc (.cells #[.int .i64 (yn2 : Int), .int .i64 (yd.size : Int)] 3)) fun e w' => e = .returned (.string (varsT [(yn2 : Int), ((yd.size : Nat) : Int)])) ∧ Below (wx.alloc (.cells #[.int .i64 (yn2 : Int), .int .i64 (yd.size : Int)] 3)).heap.size (wx.alloc (.cells #[.int .i64 (yn2 : Int), .int .i64 (yd.size : Int)] 3)) w' := fun wx => by
    have hN : Nums (wx.alloc (.cells #[.int .i64 (yn2 : Int), .int .i64 (yd.size : Int)] 3)) 0 (.slice (some ⟨wx.heap.size, 0, none⟩) 2 2) [(yn2 : Int), ((yd.size : Nat) : Int)] := World.ownsRow_lit wx #[.int .i64 (yn2 : Int), .int .i64 (yd.size : Int)] 2 (Nat.zero_le _) (by unfold maxLen; omega) rfl
    refine showVarsV [(yn2 : Int), ((yd.size : Nat) : Int)] _ _ _ hN.lies (by simp) (fun j hj => ?_) (Nat.le_refl _)
    have : j = 0 ∨ j = 1 := by simp at hj; omega
    rcases this with rfl | rfl <;> simp <;> omega
   generalize varsT [(yn2 : Int), ((yd.size : Nat) : Int)] = tv at *
   have al := (Below.refl wr.heap.size wr).alloc (Nat.le_refl _) (.cells #[.int .i64 (yn2 : Int), .string yd] 75)
   have KE := Hid.mkM (Blk.new wr #[.int .i64 (yn2 : Int), .string yd] 75)
   have D1 : Hid (Below w.heap.size w (wr.alloc (.cells #[.int .i64 (yn2 : Int), .string yd] 75))) := D.out.trans (al.mono D.out.size)
   have L1 := Hid.mkM (L.out.on al)
   have K5 := Hid.mkM (K4.out.on al K4.out.lt)
   generalize catE (x.ents.take i) = ce at *
   have HN2 : Hid (hd ++ ce ++ (tv ++ yd) = hd ++ catE (x.ents.take (i + 1))) := by unfold Hid; rw [HSi.out, HET.out]; simp only [ByteArray.append_assoc]
   have hs0 : (hd ++ ce).size = hd.size + ce.size := ByteArray.size_append
   have hs2 : (tv ++ yd).size = tv.size + yd.size := ByteArray.size_append
   have hhs := HHs.out
   have s3 : ¬ 9223372036854775807 < tv.size + yd.size := by omega
   have HLN : Hid ((hd ++ ce).size + (tv ++ yd).size ≤ 100000000) := by unfold Hid; omega
   clear hg hgw z1 z2 z3 hv7 hv8 HC hs0 hs2 hhs al
   have k8 := K4.out.cell 8 _ rfl
   go_wp2_with fail
   clear k8 e0 e1 L D K4
   generalize hge : wr.heap.size = ge at *
   have HGE : Hid (ge < (wr.alloc (.cells #[.int .i64 (yn2 : Int), .string yd] 75)).heap.size) := KE.out.lt
   generalize wr.alloc (.cells #[.int .i64 (yn2 : Int), .string yd] 75) = Z at *
   have HS1 : Hid (∀ wx, Below Z.heap.size Z wx → wx.cell? ⟨ge, 0, none⟩ = some (.int .i64 (yn2 : Int)) ∧ wx.cell? ⟨ge, 1, none⟩ = some (.string yd)) := fun wx hx => ⟨(KE.out.on hx KE.out.lt).cell 0 _ rfl, (KE.out.on hx KE.out.lt).cell 1 _ rfl⟩
   refine wp_region_until (fun w' => w'.cell? ⟨ge, 0, none⟩ = some (.int .i64 (yn2 : Int)) ∧ w'.cell? ⟨ge, 1, none⟩ = some (.string yd)) (fun i => i == 10) 11 (by rfl) (by kernel_rfl) ?_
   have V0 : Hid (Below Z.heap.size Z Z.drew) := (Below.refl _ _).drew
   have L2 : Hid (BldM gb (hd ++ ce) Z.drew) := L1.out
   generalize Z.drew = Y0 at *
   refine tF 0 (HS1.out _ V0.out) ?_
   refine tF 1 (HS1.out _ V0.out) ?_
   refine tF 2 (HS1.out _ V0.out) ?_
   refine tF 3 (HS1.out _ V0.out) ?_
   refine tF 4 (HS1.out _ V0.out) ?_
   refine tF 7 (HS1.out _ V0.out) ?_
   refine tF 8 (HS1.out _ V0.out) ?_
   refine uNe 5 (fun K hK => ?_)
   have ha := (Below.refl Y0.heap.size Y0).alloc (Nat.le_refl _) (.cells #[.int .i64 (yn2 : Int), .int .i64 (yd.size : Int)] 3)
   have V1 : Hid (Below Z.heap.size Z (Y0.alloc (.cells #[.int .i64 (yn2 : Int), .int .i64 (yd.size : Int)] 3))) := V0.out.trans (ha.mono V0.out.size)
   have L3 := Hid.mkM (L2.out.on ha)
   have cW2 := cW Y0
   clear ha L2
   go_simp
   refine hK.out _ _ (fun _ _ => HS1.out _ V1.out) ?_
   clear hK K
   try simp only [Act.put, zQ1, zQ2, zQ3]
   generalize Y0.alloc (.cells #[.int .i64 (yn2 : Int), .int .i64 (yd.size : Int)] 3) = Y1 at *
   refine uNe 6 (fun K hK => ?_)
   go_simp
   refine cW2.mono ?_
   rintro e Y2 ⟨rfl, hb⟩
   have V2 : Hid (Below Z.heap.size Z Y2) := V1.out.trans (hb.mono V1.out.size)
   have L4 := Hid.mkM (L3.out.on hb)
   clear hb V1 L3 cW2 cW
   refine hK.out _ _ (fun _ _ => HS1.out _ V2.out) ?_
   clear hK K
   try simp only [Act.put, zQ1, zQ2, zQ3]
   refine pF 9 ?_
   refine uNe 10 (fun K hK => ?_)
   go_simp
   refine (bldWriteM gb _ (tv ++ yd) Y2 L4.out HLN.out (Nat.le_of_lt L4.out.lt)).mono ?_
   rintro e Y3 ⟨rfl, hL5, hb⟩
   have L5 : Hid (BldM gb (hd ++ catE (x.ents.take (i + 1))) Y3) := by unfold Hid; rw [← HN2.out]; exact hL5
   have D2 : Hid (Below w.heap.size w Y3) := (D1.out.trans (V2.out.mono D1.out.size)).trans (hb.mono (Nat.le_of_lt HGB.out))
   have K6 : Hid (Blk Y3 w.heap.size #[.int .i64 (kn : Int), .int .i64 (fn : Int), .int .i64 (dn : Int), .int .i64 (tn : Int), .int .i64 (xn : Int), .int .i64 (sn : Int), .int .i64 (cn : Int), .bool yy, .slice (some ⟨g, off, none⟩) n cap, .string dd] 31) := (hb.block _ HGB.out).trans (K5.out.on V2.out K5.out.lt)
   clear hb hL5 V2 V0 L4 L1 D1 K5 HS1
   refine hK.out _ _ (fun h => by cases h) ?_
   clear hK K
   try simp only [Act.put, zQ1, zQ2, zQ3]
   refine until_done (by kernel_rfl) ?_ _
   try go_wp2_with fail
   go_roundw
   case rel => exact ⟨i + 1, by omega, by go_num, L5.out, D2.out, K6.out⟩
   case measure => simp [intOf]; omega
  ·obtain rfl : i = n := by omega
   have HT : Hid (hd ++ catE (x.ents.take i) ++ dd = bodT x) := by unfold Hid; rw [HTA.out, HBO.out]
   have k9 := K4.out.cell 9 _ rfl
   have hds := HDS.out
   have hhs := HHs.out
   generalize catE (x.ents.take i) = ce at *
   have hs0 : (hd ++ ce).size = hd.size + ce.size := ByteArray.size_append
   have hs1 : (bodT x).size ≤ 1060000 := by rw [← HT.out, ByteArray.size_append, hs0]; omega
   have HLN : Hid ((hd ++ ce).size + dd.size ≤ 100000000) := by unfold Hid; omega
   clear hs0 HC hds hhs
   go_wp2_with fail
   refine (bldWriteM gb _ dd _ L.out HLN.out (Nat.le_of_lt L.out.lt)).mono ?_
   rintro e Y1 ⟨rfl, hL5, hb⟩
   have L5 : Hid (BldM gb (bodT x) Y1) := by unfold Hid; rw [← HT.out]; exact hL5
   have D1 : Hid (Below w.heap.size w Y1) := D.out.trans (hb.mono (Nat.le_of_lt HGB.out))
   clear hb hL5 k9 L D K4
   have hfx := fixed_small (crc (bodT x))
   generalize bodT x = bt at *
   go_wp2_with fail
   refine (bldStringM gb _ _ L5.out (Nat.le_of_lt L5.out.lt)).mono ?_
   rintro e Y2 ⟨rfl, hL6, hb⟩
   have L6 := Hid.mkM hL6
   have D2 : Hid (Below w.heap.size w Y2) := D1.out.trans (hb.mono (Nat.le_of_lt HGB.out))
   clear hb hL6 L5 D1
   have cM := msgSumV bt Y2 (by omega) (ST.out.on D2.out)
   generalize fixed (crc bt) 4 = fx at *
   have s2 : ¬ 9223372036854775807 < fx.size + bt.size := by omega
   go_wp2_with fail
   refine cM.mono ?_
   rintro e Y3 ⟨rfl, hb⟩
   have L7 := Hid.mkM (L6.out.on hb)
   have D3 : Hid (Below w.heap.size w Y3) := D2.out.trans (hb.mono D2.out.size)
   clear hb cM L6 D2
   go_wp2_with fail
   refine (bldStringM gb _ _ L7.out (Nat.le_of_lt L7.out.lt)).mono ?_
   rintro e Y4 ⟨rfl, _, hb⟩
   have D4 : Hid (Below w.heap.size w Y4) := D3.out.trans (hb.mono (Nat.le_of_lt HGB.out))
   clear hb L7 D3
   go_wp2_with fail
   go_ret
   exact ⟨by rw [HE.out]; rfl, D4.out⟩
end Go.Proofs.YtifmjdakefkbiaaGreatDoor
namespace Go.Proofs.YtifmjdakefkbiaaGreatDoor
open Go.ChangeShapes Go.WideShapes Go.ChangeAt Go.RowKit Go.PlainAid
set_option linter.unusedVariables false
def mg0 : Mg := ⟨0, 0, 0, 0, 0, 0, 0, false, [], ⟨#[]⟩⟩
def MgN (s : ByteArray) (x : Mg) (b : Bool) : Prop := (MgRd s x ∧ b = true) ∨ ((∀ x, ¬ MgRd s x) ∧ x = mg0 ∧ b = false)
def MgA (s : ByteArray) (base : Nat) (e : Ending) (w' : World) : Prop := ∃ x u b, MgN s x b ∧ e = .returned (.tuple #[u, .bool b]) ∧ MgO w' base u x
theorem MgN.one {s : ByteArray} {x y : Mg} {b c : Bool} (h : MgN s x b) (h' : MgN s y c) : x = y ∧ b = c := by
 rcases h with ⟨h1, rfl⟩ | ⟨h1, rfl, rfl⟩
 ·rcases h' with ⟨h2, rfl⟩ | ⟨h2, _, _⟩
  ·exact ⟨h1.one h2, rfl⟩
  ·exact absurd h1 (h2 _)
 ·rcases h' with ⟨h2, _⟩ | ⟨_, rfl, rfl⟩
  ·exact absurd h2 (h1 _)
  ·exact ⟨rfl, rfl⟩
theorem MgO.zero (w : World) (base : Nat) : MgO w base (.agg #[.int .i64 0, .int .i64 0, .int .i64 0, .int .i64 0, .int .i64 0, .int .i64 0, .int .i64 0, .bool false, .slice none 0 0, .string ⟨#[]⟩]) mg0 := ⟨_, rfl, Owns.nil _ _ _ _⟩
theorem MgN.few {s : ByteArray} {x : Mg} {b : Bool} (h : MgN s x b) : x.ents.length ≤ 4 := by
 rcases h with ⟨⟨_, _, _, h1, _⟩, _⟩ | ⟨_, rfl, _⟩
 ·exact h1.2.1
 ·decide
theorem RdL.snocM {α : Type} {P : Nat → α → Nat → Prop} {a k : Nat} {l : List α} {n m : Nat} {y : α} (h : RdL P a k l n) (hy : P n y m) : RdL P a (k + 1) (l ++ [y]) m := ⟨l, n, y, h, hy, rfl⟩
theorem cell_alloc_keepM {w : World} {p : Addr} {v : Value} (h : w.cell? p = some v) (o : Obj) : (w.alloc o).cell? p = some v := by
 have hl : p.block < w.heap.size := by
  rcases Nat.lt_or_ge p.block w.heap.size with h1 | h1
  ·exact h1
  ·simp [World.cell?, Array.getElem?_eq_none h1] at h
 exact (((Below.refl w.heap.size w).alloc (Nat.le_refl _) o).cell hl).trans h
structure MgI (X : World) (base gx : Nat) (cs : Value → Array Value) (ve : Value) (es : List Ent) : Prop where
 box : Blk X gx (cs ve) 31
 lt : gx < base
 own : Owns X base 75 2 ve (entR es)
theorem MgI.on {X Y : World} {base gx : Nat} {cs : Value → Array Value} {ve : Value} {es : List Ent} (i : MgI X base gx cs ve es) (hb : Below X.heap.size X Y) : MgI Y base gx cs ve es := ⟨i.box.on hb i.box.lt, i.lt, i.own.on hb⟩
theorem ent_cells (t : Int) (d : ByteArray) : ∀ u ∈ ([.int .i64 t, .string d] : List Value), u.oneCell' = true := by
 intro u hu
 simp only [List.mem_cons, List.not_mem_nil, or_false] at hu
 rcases hu with rfl | rfl <;> rfl
end Go.Proofs.YtifmjdakefkbiaaGreatDoor
namespace Go.Proofs.YtifmjdakefkbiaaGreatDoor
open Go.ChangeShapes Go.WideShapes Go.ChangeAt Go.RowKit Go.PlainAid
set_option linter.unusedVariables false
theorem Tryz.infoEnt : (Tryz.prog.info? 75).map (fun i => (i.zero, i.size, i.bytes)) = some (some (.agg #[.int .i64 0, .string ⟨#[]⟩]), 2, 24) := by kernel_rfl
end Go.Proofs.YtifmjdakefkbiaaGreatDoor
namespace Go.Proofs.YtifmjdakefkbiaaGreatDoor
open Go.ChangeShapes Go.WideShapes Go.ChangeAt Go.RowKit Go.PlainAid
set_option linter.unusedVariables false
set_option maxHeartbeats 2000000 in
theorem takeYes (g : Nat) (s : ByteArray) (n : Nat) (w : World) (hp : Prt w g (lf s n)) (hs : s.size ≤ 1048576) :
  Calls Tryz.prog 92 #[.pointer (some ⟨g, 0, none⟩)] w fun e w' => ((∃ k, FindV (lf s n) k ∧ vvS (lf s n) 0 k ≤ 1 ∧ e = .returned (.bool (decide (vvS (lf s n) 0 k = 1))) ∧ Prt w' g (lf s (n + k))) ∨ ((∀ k, FindV (lf s n) k → 1 < vvS (lf s n) 0 k) ∧ e = .panicked lackP)) ∧ PKeep g w w' := by
 have c := takeVarF g s n w hp hs
 have HO : Hid (∀ k k', FindV (lf s n) k → FindV (lf s n) k' → k = k') := fun k k' h h' => h.one h'
 clear hp
 go_enter Tryz.func92, Tryz.ntmps92
 go_wp2_with fail
 refine c.mono ?_
 rintro e X1 ⟨hR, hk⟩
 have HK := Hid.mkM hk
 clear hk c
 rcases hR with ⟨k, hF, rfl, hp⟩ | ⟨hno, rfl⟩
 rotate_left
 ·have HN : Hid (∀ k, FindV (lf s n) k → 1 < vvS (lf s n) 0 k) := fun k h => absurd h (hno k)
  clear hno
  go_wp2_with fail
  exact ⟨rfl, .inr ⟨HN.out, rfl⟩, HK.out⟩
 have HP := Hid.mkM hp
 have HF := Hid.mkM hF
 clear hp hF
 generalize hv : vvS (lf s n) 0 k = v at *
 have HV := Hid.mkM hv
 clear hv
 by_cases h1 : v ≤ 1
 rotate_left
 ·have e1 : decide ((v : Int) ≤ 1) = false := decide_eq_false (by omega)
  have HN : Hid (∀ k, FindV (lf s n) k → 1 < vvS (lf s n) 0 k) := fun k' h => by
   obtain rfl := HO.out _ _ h HF.out
   rw [HV.out]
   omega
  go_wp2_with fail
  refine (need_no _).mono ?_
  rintro e X2 ⟨rfl, rfl⟩
  go_wp2_with fail
  exact ⟨rfl, .inr ⟨HN.out, rfl⟩, HK.out⟩
 have e1 : decide ((v : Int) ≤ 1) = true := decide_eq_true (by omega)
 have HB : Hid (((v : Int) == 1) = decide (v = 1)) := by
  unfold Hid
  by_cases h : v = 1
  ·rw [h]; rfl
  ·rw [decide_eq_false h]; exact beq_eq_false_iff_ne.2 (by omega)
 have H1 : Hid (v ≤ 1) := h1
 clear h1
 go_wp2_with fail
 refine (need_yes _).mono ?_
 rintro e X2 ⟨rfl, rfl⟩
 go_wp2_with fail
 go_ret
 exact ⟨.inl ⟨k, HF.out, by rw [HV.out]; exact H1.out, by rw [HV.out, ← HB.out]; rfl, HP.out⟩, HK.out⟩
set_option maxRecDepth 20000 in
set_option maxHeartbeats 8000000 in
theorem takeEntries (g : Nat) (s : ByteArray) (n : Nat) (w : World) (hp : Prt w g (lf s n)) (hs : s.size ≤ 1048576) :
  Calls Tryz.prog 93 #[.pointer (some ⟨g, 0, none⟩)] w fun e w' => ((∃ k es m u, FindV (lf s n) k ∧ vvS (lf s n) 0 k ≤ 4 ∧ RdL (EnRd s) (n + k) (vvS (lf s n) 0 k) es m ∧ m ≤ s.size ∧ e = .returned u ∧ Owns w' w.heap.size 75 2 u (entR es) ∧ Prt w' g (lf s m)) ∨ ((∀ k es m, FindV (lf s n) k → vvS (lf s n) 0 k ≤ 4 → ¬ RdL (EnRd s) (n + k) (vvS (lf s n) 0 k) es m) ∧ e = .panicked lackP)) ∧ PKeep g w w' := by
 have HS : Hid (s.size ≤ 1048576) := hs
 have HG : Hid (g < w.heap.size) := hp.lt
 have c := takeVarF g s n w hp hs
 have HO : Hid (∀ k k', FindV (lf s n) k → FindV (lf s n) k' → k = k') := fun k k' h h' => h.one h'
 clear hp hs
 go_enter Tryz.func93, Tryz.ntmps93
 go_wp2_with fail
 refine c.mono ?_
 rintro e X1 ⟨hR, hk⟩
 have HK := Hid.mkM hk
 clear hk c
 rcases hR with ⟨k, hF, rfl, hp⟩ | ⟨hno, rfl⟩
 rotate_left
 ·have HN : Hid (∀ k es m, FindV (lf s n) k → vvS (lf s n) 0 k ≤ 4 → ¬ RdL (EnRd s) (n + k) (vvS (lf s n) 0 k) es m) := fun k _ _ h => absurd h (hno k)
  clear hno
  go_wp2_with fail
  exact ⟨rfl, .inr ⟨HN.out, rfl⟩, HK.out⟩
 have HP := Hid.mkM hp
 have HF := Hid.mkM hF
 have HNS : Hid (n + k ≤ s.size) := by have h1 := hF.2.2.1; have h2 := hF.1; rw [lf_size] at h1; unfold Hid; omega
 clear hp hF
 generalize hv : vvS (lf s n) 0 k = kn at *
 have HV := Hid.mkM hv
 clear hv
 generalize hn1 : n + k = n1 at *
 have HN1 := Hid.mkM hn1
 clear hn1
 by_cases h4 : kn ≤ 4
 rotate_left
 ·have e1 : decide ((kn : Int) ≤ 4) = false := decide_eq_false (by omega)
  have HN : Hid (∀ k es m, FindV (lf s n) k → vvS (lf s n) 0 k ≤ 4 → ¬ RdL (EnRd s) (n + k) (vvS (lf s n) 0 k) es m) := fun k' es m h hle => by
   obtain rfl := HO.out _ _ h HF.out
   rw [HV.out] at hle
   omega
  go_wp2_with fail
  refine (need_no _).mono ?_
  rintro e X2 ⟨rfl, rfl⟩
  go_wp2_with fail
  exact ⟨rfl, .inr ⟨HN.out, rfl⟩, HK.out⟩
 have e1 : decide ((kn : Int) ≤ 4) = true := decide_eq_true (by omega)
 have H4 : Hid (kn ≤ 4) := h4
 have HNO : Hid ((∀ es m, ¬ RdL (EnRd s) n1 kn es m) → ∀ k es m, FindV (lf s n) k → vvS (lf s n) 0 k ≤ 4 → ¬ RdL (EnRd s) (n + k) (vvS (lf s n) 0 k) es m) := fun h k' es m hf _ hr => by
  obtain rfl := HO.out _ _ hf HF.out
  rw [HV.out, HN1.out] at hr
  exact h _ _ hr
 have HYES : Hid (∀ (X : World) (es : List Ent) (m : Nat) (u : Value), RdL (EnRd s) n1 kn es m → m ≤ s.size → Owns X w.heap.size 75 2 u (entR es) → Prt X g (lf s m) → ∃ k es m u', FindV (lf s n) k ∧ vvS (lf s n) 0 k ≤ 4 ∧ RdL (EnRd s) (n + k) (vvS (lf s n) 0 k) es m ∧ m ≤ s.size ∧ (Ending.returned u = .returned u') ∧ Owns X w.heap.size 75 2 u' (entR es) ∧ Prt X g (lf s m)) := fun X es m u h1 h2 h3 h4 => ⟨k, es, m, u, HF.out, by rw [HV.out]; exact H4.out, by rw [HV.out, HN1.out]; exact h1, h2, rfl, h3, h4⟩
 have qk : (kn : Int) ≤ 4 := by omega
 clear h4 HO HV HN1
 go_wp2_with fail
 refine (need_yes _).mono ?_
 rintro e X2 ⟨rfl, rfl⟩
 go_wp2_with fail
 go_loopw [4, 11] (fun v4 v11 wr => ∃ (j m : Nat) (es : List Ent), j ≤ kn ∧ v11 = .int .i64 (j : Int) ∧ RdL (EnRd s) n1 j es m ∧ m ≤ s.size ∧ Prt wr g (lf s m) ∧ Owns wr w.heap.size 75 2 v4 (entR es) ∧ PKeep g w wr) (fun _ v _ => kn - (intOf v).toNat)
 case atStart => exact ⟨0, n1, [], Nat.zero_le _, rfl, ⟨rfl, rfl⟩, HNS.out, HP.out, Owns.nil _ _ _ _, HK.out⟩
 case round =>
  obtain ⟨j, m, es, hj, rfl, hrl, hm, hp, ho, hk⟩ := hrel
  obtain ⟨Ae, me, ce, rfl⟩ := ho.shape
  have HRL := Hid.mkM hrl
  have HM : Hid (m ≤ s.size) := hm
  have P3 := Hid.mkM hp
  have O3 := Hid.mkM ho
  have K3 := Hid.mkM hk
  clear hrl hm hp ho hk HP HK
  by_cases hlt : j < kn
  ·have q5 : (j : Int) < (kn : Int) := by omega
   have HLT : Hid (j < kn) := hlt
   go_wp2_with fail
   refine (takeVarF g s m wr P3.out HS.out).mono ?_
   rintro e X4 ⟨hR, hk⟩
   have K4 := Hid.mkM (K3.out.trans hk)
   have O4 : Hid (Owns X4 w.heap.size 75 2 (.slice Ae me ce) (entR es)) := O3.out.kept fun b hb ho => hk.2 b (by have := (O3.out.lt b ho).1; have := HG.out; omega) hb
   clear hk K3 O3 P3
   rcases hR with ⟨k1, hF1, rfl, hp⟩ | ⟨hno, rfl⟩
   rotate_left
   ·have HN := Hid.mkM (HNO.out (RdL.no (EnRd.onep s) HRL.out HLT.out (fun y m2 hy => by obtain ⟨b, ⟨_, _, k', h0, h1, _⟩, _⟩ := hy; obtain ⟨rfl, rfl⟩ := h0; exact hno _ h1)))
    clear hno
    go_wp2_with fail
    exact ⟨rfl, .inr ⟨HN.out, rfl⟩, K4.out⟩
   have P4 := Hid.mkM hp
   have HR1 : Hid (RdF s m 1 [(vvS (lf s m) 0 k1 : Int)] (m + k1)) := ⟨[], m, k1, ⟨rfl, rfl⟩, hF1, rfl, rfl⟩
   clear hp hF1
   generalize (vvS (lf s m) 0 k1 : Int) = tz at *
   generalize m + k1 = m1 at *
   have HM1 : Hid (m1 ≤ s.size) := HR1.out.inS.2
   go_wp2_with fail
   refine (takeVarF g s m1 X4 P4.out HS.out).mono ?_
   rintro e X5 ⟨hR, hk⟩
   have K5 := Hid.mkM (K4.out.trans hk)
   have O5 : Hid (Owns X5 w.heap.size 75 2 (.slice Ae me ce) (entR es)) := O4.out.kept fun b hb ho => hk.2 b (by have := (O4.out.lt b ho).1; have := HG.out; omega) hb
   clear hk K4 O4 P4
   rcases hR with ⟨k2, hF2, rfl, hp⟩ | ⟨hno, rfl⟩
   rotate_left
   ·have HN := Hid.mkM (HNO.out (RdL.no (EnRd.onep s) HRL.out HLT.out (fun y m2 hy => by obtain ⟨b, h1, c, ⟨_, _, k', h0, h2, _⟩, _⟩ := hy; obtain ⟨_, rfl⟩ := h1.one HR1.out; obtain ⟨rfl, rfl⟩ := h0; exact hno _ h2)))
    clear hno
    go_wp2_with fail
    exact ⟨rfl, .inr ⟨HN.out, rfl⟩, K5.out⟩
   have P5 := Hid.mkM hp
   have HR2 : Hid (RdF s m1 1 [(vvS (lf s m1) 0 k2 : Int)] (m1 + k2)) := ⟨[], m1, k2, ⟨rfl, rfl⟩, hF2, rfl, rfl⟩
   clear hp hF2
   generalize vvS (lf s m1) 0 k2 = dn at *
   generalize m1 + k2 = m2 at *
   have HM2 : Hid (m2 ≤ s.size) := HR2.out.inS.2
   go_wp2_with fail
   refine (takeTextF g s m2 dn X5 P5.out HM2.out HS.out).mono ?_
   rintro e X6 ⟨hR, hk⟩
   have K6 := Hid.mkM (K5.out.trans hk)
   have O6 : Hid (Owns X6 w.heap.size 75 2 (.slice Ae me ce) (entR es)) := O5.out.kept fun b hb ho => hk.2 b (by have := (O5.out.lt b ho).1; have := HG.out; omega) hb
   clear hk K5 O5 P5
   rcases hR with ⟨hfit, rfl, hp⟩ | ⟨hno, rfl⟩
   rotate_left
   ·have HN := Hid.mkM (HNO.out (RdL.no (EnRd.onep s) HRL.out HLT.out (fun y m4 hy => by obtain ⟨b, h1, c, h2, h3, h4, h5⟩ := hy; obtain ⟨_, rfl⟩ := h1.one HR1.out; obtain ⟨e, rfl⟩ := h2.one HR2.out; simp only [List.cons.injEq, and_true] at e; omega)))
    clear hno
    go_wp2_with fail
    exact ⟨rfl, .inr ⟨HN.out, rfl⟩, K6.out⟩
   have P6 := Hid.mkM hp
   have HY : Hid (EnRd s m ⟨tz, s.extract m2 (m2 + dn)⟩ (m2 + dn)) := by
    have hsz : (s.extract m2 (m2 + dn)).size = dn := by rw [ByteArray.size_extract]; omega
    refine ⟨m1, HR1.out, m2, ?_, by rw [hsz], hfit, rfl⟩
    rw [hsz]
    exact HR2.out
   have HM3 : Hid (m2 + dn ≤ s.size) := hfit
   clear hp hfit
   generalize s.extract m2 (m2 + dn) = tt at *
   generalize m2 + dn = m3 at *
   have HLS : Hid ((entR es).length ≤ 2097152) := by unfold Hid; rw [entR_length, HRL.out.length]; have := HLT.out; have := H4.out; omega
   have HZ : Hid (w.heap.size ≤ X6.heap.size) := by have := K6.out.1.size; unfold Hid; omega
   go_wp2_with (at_builtin; refine wpList_append_row rfl (.tmp 13) (.tmp 21) 29 75 (.agg #[.int .i64 0, .string ⟨#[]⟩]) 2 24 rfl Tryz.underlying29 Tryz.infoEnt rfl (by omega) w.heap.size _ (entR es) rfl O6.out [.int .i64 tz, .string tt] rfl (ent_cells _ _) rfl HLS.out (by omega) HZ.out ?_; intro v' w2 hO2 hb2 hk2 hv2; obtain ⟨A2, n2, c2, rfl⟩ := hO2.shape; refine Shut.out ?_)
   unfold Shut
   have HRL2 := Hid.mkM (HRL.out.snocM HY.out)
   have O7 : Hid (Owns w2 w.heap.size 75 2 (.slice A2 n2 c2) (entR (es ++ [⟨tz, tt⟩]))) := by unfold Hid; rw [entR_append]; exact hO2
   have P7 : Hid (Prt w2 g (lf s m3)) := (hk2 g P6.out.lt (O6.out.below HG.out)).trans P6.out
   have K7 : Hid (PKeep g w w2) := ⟨K6.out.1.trans (hb2.mono (Nat.le_of_lt HG.out)), fun b hb hl => by rw [hb2.block b hl]; exact K6.out.2 b hb hl⟩
   clear hO2 hb2 hk2 hv2 O6 P6 K6
   try go_wp2_with fail
   go_roundw
   case rel => exact ⟨j + 1, m3, _, by omega, by go_num, HRL2.out, HM3.out, P7.out, O7.out, K7.out⟩
   case measure => simp [intOf]; omega
  ·obtain rfl : j = kn := by omega
   have HA := Hid.mkM (HYES.out wr es m _ HRL.out HM.out O3.out P3.out)
   go_wp2_with fail
   go_ret
   exact ⟨.inl HA.out, K3.out⟩
set_option maxRecDepth 20000 in
set_option maxHeartbeats 8000000 in
theorem copyEntriesV (l : List Ent) (v : Value) (w : World) (B : Nat) (hv : Lies w B 2 v (entR l)) (hn : l.length ≤ 1048576) (hd : ∀ y ∈ l, y.data.size ≤ 1048576) (hB : B ≤ w.heap.size) :
  Calls Tryz.prog 121 #[v] w fun e w' => (∃ u, e = .returned u ∧ Owns w' w.heap.size 75 2 u (entR l)) ∧ Below w.heap.size w w' := by
 obtain ⟨A, cap, rfl, hlk⟩ := ent_look hv
 have HL := Hid.mkM hlk
 have HB : Hid (B ≤ w.heap.size) := hB
 have HD : Hid (∀ i, i < l.length → (l.getD i default).data.size ≤ 1048576) := fun i hi => hd _ (getD_mem l i hi)
 have HT : Hid (∀ i, i < l.length → entR (l.take (i + 1)) = entR (l.take i) ++ [entC (l.getD i default)]) := fun i hi => entR_snoc l i hi
 have HTA : Hid (l.take l.length = l) := List.take_length
 have HLN : Hid (∀ i, (entR (l.take i)).length ≤ 2097152) := fun i => by rw [entR_length, List.length_take]; omega
 clear hv hlk hB hd
 generalize hN : l.length = n at *
 clear hN
 have qn : (n : Int) ≤ 1048576 := by omega
 go_enter Tryz.func121, Tryz.ntmps121
 go_wp2_with fail
 go_loopw [3, 8] (fun v3 v8 wr => ∃ i : Nat, i ≤ n ∧ v8 = .int .i64 (i : Int) ∧ Owns wr w.heap.size 75 2 v3 (entR (l.take i)) ∧ Below w.heap.size w wr) (fun _ v _ => n - (intOf v).toNat)
 case atStart => exact ⟨0, Nat.zero_le _, rfl, Owns.nil _ _ _ _, Below.refl _ _⟩
 case round =>
  obtain ⟨i, hi, rfl, ho, hd⟩ := hrel
  obtain ⟨Ae, me, ce, rfl⟩ := ho.shape
  have O3 := Hid.mkM ho
  have D3 := Hid.mkM hd
  clear ho hd
  by_cases hlt : i < n
  ·have q4 : (i : Int) < (n : Int) := by omega
   obtain ⟨g, off, rfl, hg, e0, e1⟩ := HL.out i hlt
   have hgw : g < w.heap.size := Nat.lt_of_lt_of_le hg HB.out
   rw [← D3.out.cell (p := ⟨_, _, none⟩) hgw] at e0 e1
   have hds := HD.out i hlt
   have HTi : Hid (entR (l.take (i + 1)) = entR (l.take i) ++ [entC (l.getD i default)]) := HT.out i hlt
   have HLi : Hid ((entR (l.take i)).length ≤ 2097152) := HLN.out i
   generalize l.getD i default = y at *
   obtain ⟨yt, yd⟩ := y
   simp only at e0 e1 hds
   have cC := fun wx => clone yd wx (by omega)
   have al := (Below.refl wr.heap.size wr).alloc (Nat.le_refl _) (.cells #[.int .i64 yt, .string yd] 75)
   have KE := Hid.mkM (Blk.new wr #[.int .i64 yt, .string yd] 75)
   have D4 : Hid (Below w.heap.size w (wr.alloc (.cells #[.int .i64 yt, .string yd] 75))) := D3.out.trans (al.mono D3.out.size)
   have O4 := Hid.mkM (O3.out.on al)
   clear al hds hgw hg
   go_wp2_with fail
   clear e0 e1 O3 D3
   generalize wr.heap.size = ge at *
   generalize wr.alloc (.cells #[.int .i64 yt, .string yd] 75) = Z at *
   have HS1 : Hid (∀ wx, Below Z.heap.size Z wx → wx.cell? ⟨ge, 0, none⟩ = some (.int .i64 yt) ∧ wx.cell? ⟨ge, 1, none⟩ = some (.string yd)) := fun wx hx => ⟨(KE.out.on hx KE.out.lt).cell 0 _ rfl, (KE.out.on hx KE.out.lt).cell 1 _ rfl⟩
   refine wp_region_until (fun w' => w'.cell? ⟨ge, 0, none⟩ = some (.int .i64 yt) ∧ w'.cell? ⟨ge, 1, none⟩ = some (.string yd)) (fun i => i == 8) 10 (by rfl) (by kernel_rfl) ?_
   have V0 : Hid (Below Z.heap.size Z Z.drew) := (Below.refl _ _).drew
   generalize Z.drew = Y0 at *
   refine tF 0 (HS1.out _ V0.out) ?_
   refine tF 1 (HS1.out _ V0.out) ?_
   refine tF 2 (HS1.out _ V0.out) ?_
   refine tF 3 (HS1.out _ V0.out) ?_
   refine tF 4 (HS1.out _ V0.out) ?_
   refine uNe 5 (fun K hK => ?_)
   go_simp
   refine (cC Y0).mono ?_
   rintro e Y1 ⟨rfl, hb⟩
   have V1 : Hid (Below Z.heap.size Z Y1) := V0.out.trans (hb.mono V0.out.size)
   clear hb V0 cC
   refine hK.out _ _ (fun _ _ => HS1.out _ V1.out) ?_
   clear hK K
   try simp only [Act.put, zQ1, zQ2, zQ3]
   refine pF 6 ?_
   have O5 := Hid.mkM (O4.out.on V1.out)
   have D5 : Hid (Below w.heap.size w Y1) := D4.out.trans (V1.out.mono D4.out.size)
   obtain ⟨nA, nm, nc, w5, r5, hO5, hb5, hk5, -⟩ := run_append_row (P := Tryz.prog) Y1 29 29 75 (.agg #[.int .i64 0, .string ⟨#[]⟩]) 2 24 Tryz.underlying29 Tryz.infoEnt rfl (by omega) w.heap.size (.slice Ae me ce) (entR (l.take i)) O5.out [.int .i64 yt, .string yd] rfl (ent_cells _ _) HLi.out (by omega) D5.out.size
   refine uNe 7 (fun K hK => ?_)
   go_simp
   refine hK.out _ _ (fun _ h => ⟨cell_alloc_keepM h.1 _, cell_alloc_keepM h.2 _⟩) ?_
   clear hK K
   try simp only [Act.put, zQ1, zQ2, zQ3]
   refine uNe 8 (fun K hK => ?_)
   refine step_append_run (by rfl) (.tmp 12) (.tmp 19) 29 (by rfl) _ _ _ _ (by rfl) (by rfl) r5 ?_
   have O6 : Hid (Owns w5 w.heap.size 75 2 (.slice nA nm nc) (entR (l.take (i + 1)))) := by unfold Hid; rw [HTi.out]; exact hO5
   have D6 : Hid (Below w.heap.size w w5) := D5.out.trans hb5
   clear hO5 hb5 hk5 r5 O5 D5 O4 D4 V1 KE HS1
   refine hK.out _ _ (fun h => by cases h) ?_
   clear hK K
   try simp only [Act.put, zQ1, zQ2, zQ3]
   refine pF 9 ?_
   refine until_done (by kernel_rfl) ?_ _
   try go_wp2_with fail
   go_roundw
   case rel => exact ⟨i + 1, by omega, by go_num, O6.out, D6.out⟩
   case measure => simp [intOf]; omega
  ·obtain rfl : i = n := by omega
   rw [HTA.out] at O3
   go_wp2_with fail
   go_ret
   exact ⟨⟨_, rfl, O3.out⟩, D3.out⟩
end Go.Proofs.YtifmjdakefkbiaaGreatDoor
namespace Go.Proofs.YtifmjdakefkbiaaGreatDoor
open Go.ChangeShapes Go.WideShapes Go.ChangeAt Go.RowKit Go.PlainAid
set_option linter.unusedVariables false
set_option maxRecDepth 20000 in
set_option maxHeartbeats 8000000 in
theorem copyMsgV (z0 z1 z2 z3 z4 z5 z6 : Int) (yb : Bool) (Ae : Option Addr) (me ce : Nat) (es : List Ent) (df : ByteArray) (w : World) (B : Nat) (hv : Lies w B 2 (.slice Ae me ce) (entR es)) (hn : es.length ≤ 1048576) (hd : ∀ y ∈ es, y.data.size ≤ 1048576) (hds : df.size ≤ 1048576) (hB : B ≤ w.heap.size) :
  Calls Tryz.prog 95 #[.agg #[.int .i64 z0, .int .i64 z1, .int .i64 z2, .int .i64 z3, .int .i64 z4, .int .i64 z5, .int .i64 z6, .bool yb, .slice Ae me ce, .string df]] w fun e w' => (∃ u, e = .returned (.agg #[.int .i64 z0, .int .i64 z1, .int .i64 z2, .int .i64 z3, .int .i64 z4, .int .i64 z5, .int .i64 z6, .bool yb, u, .string df]) ∧ Owns w' w.heap.size 75 2 u (entR es)) ∧ Below w.heap.size w w' := by
 have HV := Hid.mkM hv
 have HEL := Hid.mkM hn
 have HED := Hid.mkM hd
 have HDS := Hid.mkM hds
 have HB : Hid (B ≤ w.heap.size) := hB
 obtain ⟨X0, hX0⟩ : ∃ X0, X0 = (w.alloc (.cells #[.int .i64 z0, .int .i64 z1, .int .i64 z2, .int .i64 z3, .int .i64 z4, .int .i64 z5, .int .i64 z6, .bool yb, .slice Ae me ce, .string df] 31)).alloc (.cells #[.int .i64 0, .int .i64 0, .int .i64 0, .int .i64 0, .int .i64 0, .int .i64 0, .int .i64 0, .bool false, .slice none 0 0, .string ⟨#[]⟩] 31) := ⟨_, rfl⟩
 have B0 : Hid (Below w.heap.size w X0) := by unfold Hid; rw [hX0]; exact ((Below.refl _ w).alloc (Nat.le_refl _) _).alloc (by simp) _
 have K0 : Hid (Blk X0 w.heap.size #[.int .i64 z0, .int .i64 z1, .int .i64 z2, .int .i64 z3, .int .i64 z4, .int .i64 z5, .int .i64 z6, .bool yb, .slice Ae me ce, .string df] 31) := by unfold Hid; rw [hX0]; exact (Blk.new w _ _).alloc _
 have R0 : Hid (Blk X0 (w.heap.size + 1) #[.int .i64 0, .int .i64 0, .int .i64 0, .int .i64 0, .int .i64 0, .int .i64 0, .int .i64 0, .bool false, .slice none 0 0, .string ⟨#[]⟩] 31) := by unfold Hid; rw [hX0]; have := Blk.new (w.alloc (.cells #[.int .i64 z0, .int .i64 z1, .int .i64 z2, .int .i64 z3, .int .i64 z4, .int .i64 z5, .int .i64 z6, .bool yb, .slice Ae me ce, .string df] 31)) #[.int .i64 0, .int .i64 0, .int .i64 0, .int .i64 0, .int .i64 0, .int .i64 0, .int .i64 0, .bool false, .slice none 0 0, .string ⟨#[]⟩] 31; rw [World.size_alloc] at this; exact this
 have HZX : Hid (w.heap.size + 2 ≤ X0.heap.size) := by have := R0.out.lt; unfold Hid; omega
 have HS1 : Hid (∀ wx, Below X0.heap.size X0 wx → wx.cell? ⟨w.heap.size, 8, none⟩ = some (.slice Ae me ce) ∧ wx.cell? ⟨w.heap.size, 9, none⟩ = some (.string df)) := fun wx hx => ⟨(K0.out.on hx K0.out.lt).cell 8 _ rfl, (K0.out.on hx K0.out.lt).cell 9 _ rfl⟩
 clear hv hn hd hds hB
 go_enter Tryz.func95, Tryz.ntmps95
 go_wp2_with fail
 rw [← hX0]
 clear hX0
 refine wp_region_until (fun w' => w'.cell? ⟨w.heap.size, 8, none⟩ = some (.slice Ae me ce) ∧ w'.cell? ⟨w.heap.size, 9, none⟩ = some (.string df)) (fun i => i == 7 || i == 9) 10 (by rfl) (by kernel_rfl) ?_
 have V0 : Hid (Below X0.heap.size X0 X0.drew) := (Below.refl _ _).drew
 generalize X0.drew = Q0 at *
 refine tF 0 (HS1.out _ V0.out) ?_
 refine tF 1 (HS1.out _ V0.out) ?_
 refine tF 3 (HS1.out _ V0.out) ?_
 refine tF 4 (HS1.out _ V0.out) ?_
 refine uNe 2 (fun K hK => ?_)
 go_simp
 refine (copyEntriesV es (.slice Ae me ce) Q0 B ((HV.out.on (B0.out.mono HB.out)).on (V0.out.mono (by have := HB.out; have := HZX.out; omega))) HEL.out HED.out (by have := HB.out; have := HZX.out; have := V0.out.size; omega)).mono ?_
 rintro e Q1 ⟨⟨u, rfl, ho⟩, hb⟩
 obtain ⟨Au, mu, cu, rfl⟩ := ho.shape
 have V1 : Hid (Below X0.heap.size X0 Q1) := V0.out.trans (hb.mono V0.out.size)
 have Ou := Hid.mkM (ho.mono V0.out.size)
 clear hb ho V0
 refine hK.out _ _ (fun _ _ => HS1.out _ V1.out) ?_
 clear hK K
 try simp only [Act.put, zQ1, zQ2, zQ3]
 refine pF 6 ?_
 refine uNe 5 (fun K hK => ?_)
 go_simp
 refine (clone df Q1 (by have := HDS.out; omega)).mono ?_
 rintro e Q2 ⟨rfl, hb⟩
 have V2 : Hid (Below X0.heap.size X0 Q2) := V1.out.trans (hb.mono V1.out.size)
 have Ov := Hid.mkM (Ou.out.on hb)
 clear hb V1 Ou
 refine hK.out _ _ (fun _ _ => HS1.out _ V2.out) ?_
 clear hK K
 try simp only [Act.put, zQ1, zQ2, zQ3]
 have KE := Hid.mkM (K0.out.on V2.out K0.out.lt)
 have k8 := KE.out.cell 8 _ rfl
 have f8 := KE.out.free 8
 have k9 := (KE.out.set 8 (.slice Au mu cu)).cell 9 _ rfl
 have f9 := (KE.out.set 8 (.slice Au mu cu)).free 9
 refine uNe 7 (fun K hK => ?_)
 go_simp
 refine hK.out _ _ (fun h => by cases h) ?_
 clear hK K
 try simp only [Act.put, zQ1, zQ2, zQ3]
 refine pF 8 ?_
 refine uNe 9 (fun K hK => ?_)
 go_simp
 refine hK.out _ _ (fun h => by cases h) ?_
 clear hK K
 try simp only [Act.put, zQ1, zQ2, zQ3]
 refine until_done (by kernel_rfl) ?_ _
 have hKF : Blk ((Q2.setCell ⟨w.heap.size, 8, none⟩ (.slice Au mu cu)).setCell ⟨w.heap.size, 9, none⟩ (.string df)) w.heap.size #[.int .i64 z0, .int .i64 z1, .int .i64 z2, .int .i64 z3, .int .i64 z4, .int .i64 z5, .int .i64 z6, .bool yb, .slice Au mu cu, .string df] 31 := (KE.out.set 8 (.slice Au mu cu)).set 9 (.string df)
 have hOF : Owns ((Q2.setCell ⟨w.heap.size, 8, none⟩ (.slice Au mu cu)).setCell ⟨w.heap.size, 9, none⟩ (.string df)) X0.heap.size 75 2 (.slice Au mu cu) (entR es) := (Ov.out.lowM K0.out.lt).lowM K0.out.lt
 have hBB : Below w.heap.size w ((Q2.setCell ⟨w.heap.size, 8, none⟩ (.slice Au mu cu)).setCell ⟨w.heap.size, 9, none⟩ (.string df)) := ((B0.out.trans (V2.out.mono B0.out.size)).setCell (Nat.le_refl _) _).setCell (Nat.le_refl _) _
 have hRR : Blk ((Q2.setCell ⟨w.heap.size, 8, none⟩ (.slice Au mu cu)).setCell ⟨w.heap.size, 9, none⟩ (.string df)) (w.heap.size + 1) #[.int .i64 0, .int .i64 0, .int .i64 0, .int .i64 0, .int .i64 0, .int .i64 0, .int .i64 0, .bool false, .slice none 0 0, .string ⟨#[]⟩] 31 := ((R0.out.on V2.out R0.out.lt).other (by omega) 8 _).other (by omega) 9 _
 clear k8 f8 k9 f9 KE K0 V2 Ov R0 HS1
 generalize (Q2.setCell ⟨w.heap.size, 8, none⟩ (.slice Au mu cu)).setCell ⟨w.heap.size, 9, none⟩ (.string df) = Q3 at *
 obtain ⟨b0, b1, b2, b3, b4, b5, b6, b7, b8, b9⟩ := cellsC10 hKF
 obtain ⟨⟨r0, f0⟩, ⟨r1, f1⟩, ⟨r2, f2⟩, ⟨r3, f3⟩, ⟨r4, f4⟩, ⟨r5, f5⟩, ⟨r6, f6⟩, ⟨r7, f7⟩, ⟨r8, f8⟩, ⟨r9, f9⟩, y0, y1, y2, y3, y4, y5, y6, y7, y8, y9⟩ := resC10 (x0 := .int .i64 z0) (x1 := .int .i64 z1) (x2 := .int .i64 z2) (x3 := .int .i64 z3) (x4 := .int .i64 z4) (x5 := .int .i64 z5) (x6 := .int .i64 z6) (x7 := .bool yb) (x8 := .slice Au mu cu) (x9 := .string df) hRR
 have OE := Hid.mkM (ownsC10 hOF (show w.heap.size + 1 < X0.heap.size by have := HZX.out; omega) (.int .i64 z0) (.int .i64 z1) (.int .i64 z2) (.int .i64 z3) (.int .i64 z4) (.int .i64 z5) (.int .i64 z6) (.bool yb) (.slice Au mu cu) (.string df))
 have BE := Hid.mkM (belowC10 hBB (Nat.le_succ _) (.int .i64 z0) (.int .i64 z1) (.int .i64 z2) (.int .i64 z3) (.int .i64 z4) (.int .i64 z5) (.int .i64 z6) (.bool yb) (.slice Au mu cu) (.string df))
 clear hKF hOF hBB hRR
 go_wp2_with fail
 exact bodyPost_ret (v := .agg #[.int .i64 z0, .int .i64 z1, .int .i64 z2, .int .i64 z3, .int .i64 z4, .int .i64 z5, .int .i64 z6, .bool yb, .slice Au mu cu, .string df]) (by simp [results, go_sem, y0, y1, y2, y3, y4, y5, y6, y7, y8, y9]) rfl ⟨⟨_, rfl, OE.out.mono (by have := HZX.out; omega)⟩, BE.out⟩
end Go.Proofs.YtifmjdakefkbiaaGreatDoor
namespace Go.Proofs.YtifmjdakefkbiaaGreatDoor
open Go.ChangeShapes Go.WideShapes Go.ChangeAt Go.RowKit Go.PlainAid
set_option linter.unusedVariables false
theorem RdF.ninth {s : ByteArray} {a7 a8 : Int} {l l7 : List Int} {n n7 : Nat} (h : RdF s 4 9 l n) (h7 : RdF s 4 7 l7 n7) (hl : ∃ p, p.length = 7 ∧ l = p ++ [a7, a8]) : ∃ m m2, FindV (lf s n7) m ∧ a7 = (vvS (lf s n7) 0 m : Int) ∧ FindV (lf s (n7 + m)) m2 ∧ a8 = (vvS (lf s (n7 + m)) 0 m2 : Int) ∧ n = n7 + m + m2 := by
 obtain ⟨p, hp, rfl⟩ := hl
 obtain ⟨l8, n8, m2, h8, f2, e2, rfl⟩ := h
 obtain ⟨l7', n7', m, h7', f1, e1, rfl⟩ := h8
 obtain ⟨rfl, rfl⟩ := h7.one h7'
 have hl7 := h7.length
 rw [e1, List.append_assoc] at e2
 obtain ⟨_, e3⟩ := List.append_inj e2 (by omega)
 simp only [List.cons_append, List.nil_append, List.cons.injEq, and_true] at e3
 exact ⟨m, m2, f1, e3.1, f2, e3.2, rfl⟩
theorem MgP.ninth {s : ByteArray} {x : Mg} {yn n1 n2 : Nat} (h : MgP s x yn n1 n2) {l7 : List Int} {n7 : Nat} (h7 : RdF s 4 7 l7 n7) : ∃ m m2, FindV (lf s n7) m ∧ yn = vvS (lf s n7) 0 m ∧ FindV (lf s (n7 + m)) m2 ∧ x.ents.length = vvS (lf s (n7 + m)) 0 m2 ∧ n1 = n7 + m + m2 := by
 obtain ⟨m, m2, f1, e1, f2, e2, e3⟩ := h.1.ninth (a7 := (yn : Int)) (a8 := (x.ents.length : Int)) h7 ⟨[x.kind, x.frm, x.dst, x.term, x.index, x.iterm, x.commit], rfl, rfl⟩
 exact ⟨m, m2, f1, by omega, f2, by omega, e3⟩
theorem noYes {s : ByteArray} {l7 : List Int} {n7 : Nat} (h7 : RdF s 4 7 l7 n7) (hn : ∀ k, FindV (lf s n7) k → 1 < vvS (lf s n7) 0 k) : ∀ x, ¬ MgRd s x := by
 rintro x ⟨yn, n1, n2, h1, h2, _⟩
 obtain ⟨m, m2, f1, e1, _⟩ := h1.ninth h7
 have := hn m f1
 omega
theorem noEntsI {s : ByteArray} {l7 : List Int} {n7 k : Nat} (h7 : RdF s 4 7 l7 n7) (hk : FindV (lf s n7) k) (hn : ∀ k2 es m, FindV (lf s (n7 + k)) k2 → vvS (lf s (n7 + k)) 0 k2 ≤ 4 → ¬ RdL (EnRd s) (n7 + k + k2) (vvS (lf s (n7 + k)) 0 k2) es m) : ∀ x, ¬ MgRd s x := by
 rintro x ⟨yn, n1, n2, h1, _⟩
 obtain ⟨m, m2, f1, e1, f2, e2, e3⟩ := h1.ninth h7
 obtain rfl := f1.one hk
 have h4 := h1.2.1
 have h5 := h1.2.2.1
 rw [e2] at h4
 rw [e2, e3] at h5
 exact hn m2 _ _ f2 h4 h5
set_option maxRecDepth 20000 in
set_option maxHeartbeats 16000000 in
theorem takeMsg (g : Nat) (s : ByteArray) (w : World) (hp : Prt w g s) (hs : s.size ≤ 1048576) (w0 : World) (hst : SumTab w0) (a0 a1 a2 : Addr) (her : Errs w0 a0 a1 a2) (hb0 : Below w0.heap.size w0 w) (hg0 : w0.heap.size ≤ g) :
  Calls Tryz.prog 50 #[.pointer (some ⟨g, 0, none⟩)] w fun e w' => ((∃ x u, MgRd s x ∧ e = .returned u ∧ MgO w' w.heap.size u x) ∨ ((∀ x, ¬ MgRd s x) ∧ e = .panicked lackP)) ∧ PKeep g w w' := by
 have HS : Hid (s.size ≤ 1048576) := hs
 have ST := Hid.mkM hst
 have ER := Hid.mkM her
 have HG0 : Hid (w0.heap.size ≤ g) := hg0
 have HG : Hid (g < w.heap.size) := hp.lt
 have K0 : Hid (PKeep g w (w.alloc (.cells #[.int .i64 0, .int .i64 0, .int .i64 0, .int .i64 0, .int .i64 0, .int .i64 0, .int .i64 0, .bool false, .slice none 0 0, .string ⟨#[]⟩] 31))) := (PKeep.refl g w).alloc hp.lt _
 have R0 := Hid.mkM (Blk.new w #[.int .i64 0, .int .i64 0, .int .i64 0, .int .i64 0, .int .i64 0, .int .i64 0, .int .i64 0, .bool false, .slice none 0 0, .string ⟨#[]⟩] 31)
 have P0 : Hid (Prt (w.alloc (.cells #[.int .i64 0, .int .i64 0, .int .i64 0, .int .i64 0, .int .i64 0, .int .i64 0, .int .i64 0, .bool false, .slice none 0 0, .string ⟨#[]⟩] 31)) g (lf s 0)) := by unfold Hid; rw [lf_zero]; exact hp.alloc _
 have B0 : Hid (Below w0.heap.size w0 (w.alloc (.cells #[.int .i64 0, .int .i64 0, .int .i64 0, .int .i64 0, .int .i64 0, .int .i64 0, .int .i64 0, .bool false, .slice none 0 0, .string ⟨#[]⟩] 31))) := hb0.alloc hb0.size _
 have HRB : Hid (∀ (X Y : World), Blk X w.heap.size #[.int .i64 0, .int .i64 0, .int .i64 0, .int .i64 0, .int .i64 0, .int .i64 0, .int .i64 0, .bool false, .slice none 0 0, .string ⟨#[]⟩] 31 → PKeep g X Y → w.heap.size < X.heap.size → Blk Y w.heap.size #[.int .i64 0, .int .i64 0, .int .i64 0, .int .i64 0, .int .i64 0, .int .i64 0, .int .i64 0, .bool false, .slice none 0 0, .string ⟨#[]⟩] 31) := fun X Y h hk hl => (hk.2 _ (by have := HG.out; omega) hl).trans h
 clear hp hs hst her hb0 hg0
 go_enter Tryz.func50, Tryz.ntmps50
 go_wp2_with fail
 generalize w.alloc (.cells #[.int .i64 0, .int .i64 0, .int .i64 0, .int .i64 0, .int .i64 0, .int .i64 0, .int .i64 0, .bool false, .slice none 0 0, .string ⟨#[]⟩] 31) = X0 at *
 refine (takeTextF g s 0 4 X0 P0.out (Nat.zero_le _) HS.out).mono ?_
 rintro e X1 ⟨hR, hk⟩
 have K1 := Hid.mkM (K0.out.trans hk)
 have R1 := Hid.mkM (HRB.out _ _ R0.out hk R0.out.lt)
 have B1 : Hid (Below w0.heap.size w0 X1) := B0.out.trans (hk.1.mono HG0.out)
 clear hk K0 R0 B0 P0
 rcases hR with ⟨hfit, rfl, hp⟩ | ⟨hno, rfl⟩
 rotate_left
 ·have HN : Hid (∀ x, ¬ MgRd s x) := by
   rintro x ⟨_, _, _, h1, _⟩
   have := h1.inS
   omega
  clear hno
  go_wp2_with fail
  exact ⟨rfl, .inr ⟨HN.out, rfl⟩, K1.out⟩
 rw [Nat.zero_add] at hfit hp ⊢
 have P1 := Hid.mkM hp
 have H4 : Hid (4 ≤ s.size) := hfit
 have hcl := P1.out.cell
 have hls := lf_size s 4
 have cS := fun wx h => msgSumV (lf s 4) wx (by have := HS.out; omega) h
 have HSU : Hid (sumOk s ↔ fixed (crc (lf s 4)) 4 = s.extract 0 4) := Iff.rfl
 have HLP : Hid (∀ X, Prt X g (lf s 4) ↔ Prt X g (lf s 4)) := fun _ => Iff.rfl
 clear hp hfit hls HLP
 generalize fixed (crc (lf s 4)) 4 = fx at *
 generalize s.extract 0 4 = sx at *
 generalize hl4 : lf s 4 = l4 at *
 have HL4 := Hid.mkM hl4
 clear hl4
 go_wp2_with fail
 refine (cS _ (ST.out.on B1.out)).mono ?_
 rintro e X2 ⟨rfl, hb⟩
 have K2 := Hid.mkM (K1.out.below HG.out hb)
 have R2 := Hid.mkM (R1.out.on hb R1.out.lt)
 have B2 : Hid (Below w0.heap.size w0 X2) := B1.out.trans (hb.mono B1.out.size)
 have P2 : Hid (Prt X2 g (lf s 4)) := by unfold Hid; rw [HL4.out]; exact P1.out.on hb
 clear hb K1 R1 B1 P1 cS hcl
 by_cases hsum : fx = sx
 rotate_left
 ·have HN : Hid (∀ x, ¬ MgRd s x) := by
   rintro x ⟨_, _, _, _, _, h3, _⟩
   exact hsum (HSU.out.1 h3)
  have hne : ¬ sx = fx := fun e => hsum e.symm
  obtain ⟨t0, t1, t2⟩ := text_neqC hne
  clear hsum hne
  go_wp2_with fail
  refine (need_no _).mono ?_
  rintro e X3 ⟨rfl, rfl⟩
  go_wp2_with fail
  exact ⟨rfl, .inr ⟨HN.out, rfl⟩, K2.out⟩
 have HSO : Hid (sumOk s) := HSU.out.2 hsum
 have t1 : (sx.toList == fx.toList) = true := by rw [hsum]; simp
 clear hsum
 go_wp2_with fail
 refine (need_yes _).mono ?_
 rintro e X3 ⟨rfl, rfl⟩
 have HR0 : Hid (RdF s 4 0 [] 4) := ⟨rfl, rfl⟩
 go_wp2_with fail
 refine (takeVarF g s 4 X2 P2.out HS.out).mono ?_
 rintro e Y1 ⟨hR, hk⟩
 have KY1 := Hid.mkM (K2.out.trans hk)
 have RY1 := Hid.mkM (HRB.out _ _ R2.out hk R2.out.lt)
 have BY1 : Hid (Below w0.heap.size w0 Y1) := B2.out.trans (hk.1.mono HG0.out)
 clear hk K2 R2 B2 P2
 rcases hR with ⟨k, hF, rfl, hp⟩ | ⟨hno, rfl⟩
 rotate_left
 ·have HN : Hid (∀ x, ¬ MgRd s x) := noVars (RdF.no HR0.out (by omega) hno)
  clear hno
  go_wp2_with fail
  exact ⟨rfl, .inr ⟨HN.out, rfl⟩, KY1.out⟩
 have PY1 := Hid.mkM hp
 have HR1 : Hid (RdF s 4 1 [(vvS (lf s 4) 0 k : Int)] (4 + k)) := HR0.out.snoc hF
 clear hp hF HR0
 generalize (vvS (lf s 4) 0 k : Int) = z0 at *
 generalize 4 + k = n1 at *
 go_wp2_with fail
 refine (takeVarF g s n1 Y1 PY1.out HS.out).mono ?_
 rintro e Y2 ⟨hR, hk⟩
 have KY2 := Hid.mkM (KY1.out.trans hk)
 have RY2 := Hid.mkM (HRB.out _ _ RY1.out hk RY1.out.lt)
 have BY2 : Hid (Below w0.heap.size w0 Y2) := BY1.out.trans (hk.1.mono HG0.out)
 clear hk KY1 RY1 BY1 PY1
 rcases hR with ⟨k, hF, rfl, hp⟩ | ⟨hno, rfl⟩
 rotate_left
 ·have HN : Hid (∀ x, ¬ MgRd s x) := noVars (RdF.no HR1.out (by omega) hno)
  clear hno
  go_wp2_with fail
  exact ⟨rfl, .inr ⟨HN.out, rfl⟩, KY2.out⟩
 have PY2 := Hid.mkM hp
 have HR2 : Hid (RdF s 4 2 [z0, (vvS (lf s n1) 0 k : Int)] (n1 + k)) := HR1.out.snoc hF
 clear hp hF HR1
 generalize (vvS (lf s n1) 0 k : Int) = z1 at *
 generalize n1 + k = n2 at *
 go_wp2_with fail
 refine (takeVarF g s n2 Y2 PY2.out HS.out).mono ?_
 rintro e Y3 ⟨hR, hk⟩
 have KY3 := Hid.mkM (KY2.out.trans hk)
 have RY3 := Hid.mkM (HRB.out _ _ RY2.out hk RY2.out.lt)
 have BY3 : Hid (Below w0.heap.size w0 Y3) := BY2.out.trans (hk.1.mono HG0.out)
 clear hk KY2 RY2 BY2 PY2
 rcases hR with ⟨k, hF, rfl, hp⟩ | ⟨hno, rfl⟩
 rotate_left
 ·have HN : Hid (∀ x, ¬ MgRd s x) := noVars (RdF.no HR2.out (by omega) hno)
  clear hno
  go_wp2_with fail
  exact ⟨rfl, .inr ⟨HN.out, rfl⟩, KY3.out⟩
 have PY3 := Hid.mkM hp
 have HR3 : Hid (RdF s 4 3 [z0, z1, (vvS (lf s n2) 0 k : Int)] (n2 + k)) := HR2.out.snoc hF
 clear hp hF HR2
 generalize (vvS (lf s n2) 0 k : Int) = z2 at *
 generalize n2 + k = n3 at *
 go_wp2_with fail
 refine (takeVarF g s n3 Y3 PY3.out HS.out).mono ?_
 rintro e Y4 ⟨hR, hk⟩
 have KY4 := Hid.mkM (KY3.out.trans hk)
 have RY4 := Hid.mkM (HRB.out _ _ RY3.out hk RY3.out.lt)
 have BY4 : Hid (Below w0.heap.size w0 Y4) := BY3.out.trans (hk.1.mono HG0.out)
 clear hk KY3 RY3 BY3 PY3
 rcases hR with ⟨k, hF, rfl, hp⟩ | ⟨hno, rfl⟩
 rotate_left
 ·have HN : Hid (∀ x, ¬ MgRd s x) := noVars (RdF.no HR3.out (by omega) hno)
  clear hno
  go_wp2_with fail
  exact ⟨rfl, .inr ⟨HN.out, rfl⟩, KY4.out⟩
 have PY4 := Hid.mkM hp
 have HR4 : Hid (RdF s 4 4 [z0, z1, z2, (vvS (lf s n3) 0 k : Int)] (n3 + k)) := HR3.out.snoc hF
 clear hp hF HR3
 generalize (vvS (lf s n3) 0 k : Int) = z3 at *
 generalize n3 + k = n4 at *
 go_wp2_with fail
 refine (takeVarF g s n4 Y4 PY4.out HS.out).mono ?_
 rintro e Y5 ⟨hR, hk⟩
 have KY5 := Hid.mkM (KY4.out.trans hk)
 have RY5 := Hid.mkM (HRB.out _ _ RY4.out hk RY4.out.lt)
 have BY5 : Hid (Below w0.heap.size w0 Y5) := BY4.out.trans (hk.1.mono HG0.out)
 clear hk KY4 RY4 BY4 PY4
 rcases hR with ⟨k, hF, rfl, hp⟩ | ⟨hno, rfl⟩
 rotate_left
 ·have HN : Hid (∀ x, ¬ MgRd s x) := noVars (RdF.no HR4.out (by omega) hno)
  clear hno
  go_wp2_with fail
  exact ⟨rfl, .inr ⟨HN.out, rfl⟩, KY5.out⟩
 have PY5 := Hid.mkM hp
 have HR5 : Hid (RdF s 4 5 [z0, z1, z2, z3, (vvS (lf s n4) 0 k : Int)] (n4 + k)) := HR4.out.snoc hF
 clear hp hF HR4
 generalize (vvS (lf s n4) 0 k : Int) = z4 at *
 generalize n4 + k = n5 at *
 go_wp2_with fail
 refine (takeVarF g s n5 Y5 PY5.out HS.out).mono ?_
 rintro e Y6 ⟨hR, hk⟩
 have KY6 := Hid.mkM (KY5.out.trans hk)
 have RY6 := Hid.mkM (HRB.out _ _ RY5.out hk RY5.out.lt)
 have BY6 : Hid (Below w0.heap.size w0 Y6) := BY5.out.trans (hk.1.mono HG0.out)
 clear hk KY5 RY5 BY5 PY5
 rcases hR with ⟨k, hF, rfl, hp⟩ | ⟨hno, rfl⟩
 rotate_left
 ·have HN : Hid (∀ x, ¬ MgRd s x) := noVars (RdF.no HR5.out (by omega) hno)
  clear hno
  go_wp2_with fail
  exact ⟨rfl, .inr ⟨HN.out, rfl⟩, KY6.out⟩
 have PY6 := Hid.mkM hp
 have HR6 : Hid (RdF s 4 6 [z0, z1, z2, z3, z4, (vvS (lf s n5) 0 k : Int)] (n5 + k)) := HR5.out.snoc hF
 clear hp hF HR5
 generalize (vvS (lf s n5) 0 k : Int) = z5 at *
 generalize n5 + k = n6 at *
 go_wp2_with fail
 refine (takeVarF g s n6 Y6 PY6.out HS.out).mono ?_
 rintro e Y7 ⟨hR, hk⟩
 have KY7 := Hid.mkM (KY6.out.trans hk)
 have RY7 := Hid.mkM (HRB.out _ _ RY6.out hk RY6.out.lt)
 have BY7 : Hid (Below w0.heap.size w0 Y7) := BY6.out.trans (hk.1.mono HG0.out)
 clear hk KY6 RY6 BY6 PY6
 rcases hR with ⟨k, hF, rfl, hp⟩ | ⟨hno, rfl⟩
 rotate_left
 ·have HN : Hid (∀ x, ¬ MgRd s x) := noVars (RdF.no HR6.out (by omega) hno)
  clear hno
  go_wp2_with fail
  exact ⟨rfl, .inr ⟨HN.out, rfl⟩, KY7.out⟩
 have PY7 := Hid.mkM hp
 have HR7 : Hid (RdF s 4 7 [z0, z1, z2, z3, z4, z5, (vvS (lf s n6) 0 k : Int)] (n6 + k)) := HR6.out.snoc hF
 clear hp hF HR6
 generalize (vvS (lf s n6) 0 k : Int) = z6 at *
 generalize n6 + k = n7 at *
 go_wp2_with fail
 refine (takeYes g s n7 Y7 PY7.out HS.out).mono ?_
 rintro e Y8 ⟨hR, hk⟩
 have KY8 := Hid.mkM (KY7.out.trans hk)
 have RY8 := Hid.mkM (HRB.out _ _ RY7.out hk RY7.out.lt)
 have BY8 : Hid (Below w0.heap.size w0 Y8) := BY7.out.trans (hk.1.mono HG0.out)
 clear hk KY7 RY7 BY7 PY7
 rcases hR with ⟨k, hF, hy1, rfl, hp⟩ | ⟨hno, rfl⟩
 rotate_left
 ·have HN : Hid (∀ x, ¬ MgRd s x) := noYes HR7.out hno
  clear hno
  go_wp2_with fail
  exact ⟨rfl, .inr ⟨HN.out, rfl⟩, KY8.out⟩
 have PY8 := Hid.mkM hp
 have HF8 := Hid.mkM hF
 have HR8 : Hid (RdF s 4 8 [z0, z1, z2, z3, z4, z5, z6, (vvS (lf s n7) 0 k : Int)] (n7 + k)) := HR7.out.snoc hF
 have HNE : Hid ((∀ k2 es m, FindV (lf s (n7 + k)) k2 → vvS (lf s (n7 + k)) 0 k2 ≤ 4 → ¬ RdL (EnRd s) (n7 + k + k2) (vvS (lf s (n7 + k)) 0 k2) es m) → ∀ x, ¬ MgRd s x) := fun h => noEntsI HR7.out HF8.out h
 have HY1 := Hid.mkM hy1
 clear hp hF hy1 HR7 HF8
 generalize vvS (lf s n7) 0 k = yn at *
 generalize n7 + k = n8 at *
 obtain ⟨yb, hyb⟩ : ∃ yb : Bool, yb = decide (yn = 1) := ⟨_, rfl⟩
 have HYB := Hid.mkM hyb
 rw [← hyb]
 clear hyb
 have HZ8 : Hid (g < Y8.heap.size) := PY8.out.lt
 go_wp2_with fail
 refine (takeEntries g s n8 Y8 PY8.out HS.out).mono ?_
 rintro e Y9 ⟨hR, hk⟩
 have KY9 := Hid.mkM (KY8.out.trans hk)
 have RY9 := Hid.mkM (HRB.out _ _ RY8.out hk RY8.out.lt)
 have BY9 : Hid (Below w0.heap.size w0 Y9) := BY8.out.trans (hk.1.mono HG0.out)
 have HZQ : Hid (Y8.heap.size ≤ Y9.heap.size) := hk.1.size
 clear hk KY8 RY8 BY8 PY8
 rcases hR with ⟨k, es, m, u, hF, h4, hrl, hm, rfl, ho, hp⟩ | ⟨hno, rfl⟩
 rotate_left
 ·have HN : Hid (∀ x, ¬ MgRd s x) := HNE.out hno
  clear hno
  go_wp2_with fail
  exact ⟨rfl, .inr ⟨HN.out, rfl⟩, KY9.out⟩
 obtain ⟨Ae, me, ce, rfl⟩ := ho.shape
 have PY9 := Hid.mkM hp
 have O9 := Hid.mkM ho
 have HX : Hid (MgP s ⟨z0, z1, z2, z3, z4, z5, z6, yb, es, lf s m⟩ yn (n8 + k) m) := by
  have hl := hrl.length
  refine ⟨?_, ?_, ?_, rfl, HYB.out⟩
  ·show RdF s 4 9 [z0, z1, z2, z3, z4, z5, z6, (yn : Int), (es.length : Int)] (n8 + k)
   rw [hl]
   exact HR8.out.snoc hF
  ·show es.length ≤ 4
   rw [hl]; exact h4
  ·show RdL (EnRd s) (n8 + k) es.length es m
   rw [hl]; exact hrl
 clear hp ho hF h4 hrl hm HNE HR8
 go_wp2_with fail
 refine (takeRestF g s m Y9 PY9.out HS.out).mono ?_
 rintro e Ya ⟨rfl, hk⟩
 have KYa := Hid.mkM (KY9.out.trans hk)
 have RYa := Hid.mkM (HRB.out _ _ RY9.out hk RY9.out.lt)
 have BYa : Hid (Below w0.heap.size w0 Ya) := BY9.out.trans (hk.1.mono HG0.out)
 have Oa : Hid (Owns Ya Y8.heap.size 75 2 (.slice Ae me ce) (entR es)) := O9.out.kept fun b hb ho => hk.2 b (by have := (O9.out.lt b ho).1; have := HZ8.out; omega) hb
 have HZY : Hid (Y8.heap.size ≤ Ya.heap.size) := Nat.le_trans HZQ.out hk.1.size
 clear hk KY9 RY9 BY9 PY9 O9
 obtain ⟨hw1, hf1⟩ := HX.out.short HS.out
 have HDS : Hid ((lf s m).size ≤ 1048576) := by have h := lf_size s m; have := HS.out; unfold Hid; omega
 have HED : Hid (∀ y ∈ es, y.data.size ≤ 1048576) := fun y hy => by have h := HX.out.2.2.1.wide.2 y hy; have := HS.out; omega
 have HEL : Hid (es.length ≤ 1048576) := by have h : es.length ≤ 4 := HX.out.2.1; unfold Hid; omega
 have HNO : Hid (msgOk ⟨z0, z1, z2, z3, z4, z5, z6, yb, es, lf s m⟩ = false → ∀ x, ¬ MgRd s x) := fun hf y hy => by
  obtain ⟨_, _, _, g1, _, _, g4⟩ := hy
  obtain ⟨e, _⟩ := HX.out.one g1
  rw [e, g4] at hf
  cases hf
 have HYE : Hid (msgOk ⟨z0, z1, z2, z3, z4, z5, z6, yb, es, lf s m⟩ = true → MgRd s ⟨z0, z1, z2, z3, z4, z5, z6, yb, es, lf s m⟩) := fun h => ⟨_, _, _, HX.out, HY1.out, HSO.out, h⟩
 have cI := fun wx (h1 : Owns wx Y8.heap.size 75 2 (.slice Ae me ce) (entR es)) hs (he : Errs wx a0 a1 a2) => implMsgOk ⟨z0, z1, z2, z3, z4, z5, z6, yb, es, lf s m⟩ (vMg ⟨z0, z1, z2, z3, z4, z5, z6, yb, es, lf s m⟩ (.slice Ae me ce)) wx wx.heap.size ⟨_, rfl, h1.lies⟩ hf1 HDS.out (Nat.le_refl _) hs a0 a1 a2 he
 have HMO : Hid (∀ wx b u, Owns wx b 75 2 u (entR es) → MgO wx b (vMg ⟨z0, z1, z2, z3, z4, z5, z6, yb, es, lf s m⟩ u) ⟨z0, z1, z2, z3, z4, z5, z6, yb, es, lf s m⟩) := fun wx b u h => ⟨_, rfl, h⟩
 unfold vMg at cI HMO
 simp only at cI HMO
 generalize lf s m = df at *
 clear hw1 hf1 HX HYB HY1 HSO
 have al := (Below.refl Ya.heap.size Ya).alloc (Nat.le_refl _) (.cells #[.int .i64 z0, .int .i64 z1, .int .i64 z2, .int .i64 z3, .int .i64 z4, .int .i64 z5, .int .i64 z6, .bool yb, .slice Ae me ce, .string df] 31)
 have KB := Hid.mkM (Blk.new Ya #[.int .i64 z0, .int .i64 z1, .int .i64 z2, .int .i64 z3, .int .i64 z4, .int .i64 z5, .int .i64 z6, .bool yb, .slice Ae me ce, .string df] 31)
 have KYb := Hid.mkM (KYa.out.below HG.out al)
 have RYb := Hid.mkM (RYa.out.on al RYa.out.lt)
 have BYb : Hid (Below w0.heap.size w0 (Ya.alloc (.cells #[.int .i64 z0, .int .i64 z1, .int .i64 z2, .int .i64 z3, .int .i64 z4, .int .i64 z5, .int .i64 z6, .bool yb, .slice Ae me ce, .string df] 31))) := BYa.out.trans (al.mono BYa.out.size)
 have Ob := Hid.mkM (Oa.out.on al)
 have HZa : Hid (Y8.heap.size ≤ Ya.heap.size ∧ w.heap.size < Ya.heap.size) := by have h1 := Oa.out; have h2 := RYa.out.lt; exact ⟨HZY.out, h2⟩
 clear al KYa RYa BYa Oa
 go_wp2_with fail
 generalize hgx : Ya.heap.size = gx at *
 clear hgx
 generalize Ya.alloc (.cells #[.int .i64 z0, .int .i64 z1, .int .i64 z2, .int .i64 z3, .int .i64 z4, .int .i64 z5, .int .i64 z6, .bool yb, .slice Ae me ce, .string df] 31) = Yb at *
 refine (cI _ Ob.out (ST.out.on BYb.out) (ER.out.on BYb.out)).mono ?_
 rintro e Yc ⟨rfl, hb⟩
 have KYc := Hid.mkM (KYb.out.below HG.out hb)
 have RYc := Hid.mkM (RYb.out.on hb RYb.out.lt)
 have Oc := Hid.mkM (Ob.out.on hb)
 have KBc := Hid.mkM (KB.out.on hb KB.out.lt)
 clear hb KYb RYb BYb Ob KB cI
 cases hok : msgOk ⟨z0, z1, z2, z3, z4, z5, z6, yb, es, df⟩
 ·have HN : Hid (∀ x, ¬ MgRd s x) := HNO.out hok
  clear hok
  go_wp2_with fail
  refine (need_no _).mono ?_
  rintro e Yd ⟨rfl, rfl⟩
  go_wp2_with fail
  exact ⟨rfl, .inr ⟨HN.out, rfl⟩, KYc.out⟩
 have HRD := Hid.mkM (HYE.out hok)
 clear hok HNO HYE
 go_wp2_with fail
 refine (need_yes _).mono ?_
 rintro e Yd ⟨rfl, rfl⟩
 obtain ⟨b0, b1, b2, b3, b4, b5, b6, b7, b8, b9⟩ := cellsC10 KBc.out
 go_wp2_with fail
 refine (copyMsgV z0 z1 z2 z3 z4 z5 z6 yb Ae me ce es df Yc Yc.heap.size Oc.out.lies HEL.out HED.out HDS.out (Nat.le_refl _)).mono ?_
 rintro e Q3 ⟨⟨u, rfl, ho⟩, hb⟩
 obtain ⟨Au, mu, cu, rfl⟩ := ho.shape
 have HKK := Hid.mkM (KYc.out.below HG.out hb)
 have hRR := RYc.out.on hb RYc.out.lt
 have HRL : Hid (w.heap.size < Yc.heap.size) := RYc.out.lt
 have hOF := ho
 have HWY : Hid (w.heap.size ≤ Yc.heap.size) := Nat.le_of_lt HRL.out
 clear b0 b1 b2 b3 b4 b5 b6 b7 b8 b9 hb ho KBc Oc KYc RYc
 obtain ⟨⟨r0, f0⟩, ⟨r1, f1⟩, ⟨r2, f2⟩, ⟨r3, f3⟩, ⟨r4, f4⟩, ⟨r5, f5⟩, ⟨r6, f6⟩, ⟨r7, f7⟩, ⟨r8, f8⟩, ⟨r9, f9⟩, y0, y1, y2, y3, y4, y5, y6, y7, y8, y9⟩ := resC10 (x0 := .int .i64 z0) (x1 := .int .i64 z1) (x2 := .int .i64 z2) (x3 := .int .i64 z3) (x4 := .int .i64 z4) (x5 := .int .i64 z5) (x6 := .int .i64 z6) (x7 := .bool yb) (x8 := .slice Au mu cu) (x9 := .string df) hRR
 have OE := Hid.mkM (ownsC10 hOF HRL.out (.int .i64 z0) (.int .i64 z1) (.int .i64 z2) (.int .i64 z3) (.int .i64 z4) (.int .i64 z5) (.int .i64 z6) (.bool yb) (.slice Au mu cu) (.string df))
 clear hOF hRR
 have KE := Hid.mkM ((((((((((HKK.out.setNew (Nat.le_refl _) (Nat.le_of_lt HG.out) 0 (.int .i64 z0)).setNew (Nat.le_refl _) (Nat.le_of_lt HG.out) 1 (.int .i64 z1)).setNew (Nat.le_refl _) (Nat.le_of_lt HG.out) 2 (.int .i64 z2)).setNew (Nat.le_refl _) (Nat.le_of_lt HG.out) 3 (.int .i64 z3)).setNew (Nat.le_refl _) (Nat.le_of_lt HG.out) 4 (.int .i64 z4)).setNew (Nat.le_refl _) (Nat.le_of_lt HG.out) 5 (.int .i64 z5)).setNew (Nat.le_refl _) (Nat.le_of_lt HG.out) 6 (.int .i64 z6)).setNew (Nat.le_refl _) (Nat.le_of_lt HG.out) 7 (.bool yb)).setNew (Nat.le_refl _) (Nat.le_of_lt HG.out) 8 (.slice Au mu cu)).setNew (Nat.le_refl _) (Nat.le_of_lt HG.out) 9 (.string df))
 go_wp2_with fail
 exact bodyPost_ret (v := .agg #[.int .i64 z0, .int .i64 z1, .int .i64 z2, .int .i64 z3, .int .i64 z4, .int .i64 z5, .int .i64 z6, .bool yb, .slice Au mu cu, .string df]) (by simp [results, go_sem, y0, y1, y2, y3, y4, y5, y6, y7, y8, y9]) rfl ⟨.inl ⟨_, _, HRD.out, rfl, (HMO.out _ _ _ OE.out).mono HWY.out⟩, KE.out⟩
end Go.Proofs.YtifmjdakefkbiaaGreatDoor
namespace Go.Proofs.YtifmjdakefkbiaaGreatDoor
open Go.ChangeShapes Go.WideShapes Go.ChangeAt Go.RowKit Go.PlainAid
set_option linter.unusedVariables false
theorem catchMg_panicking (u : TypeId) (pv : Value) (older : List PanicEntry) (w : World) :
  CallsD Tryz.prog 88 #[] (.panicking ({ v := .iface u pv, recovered := false } :: older)) w fun e u' w' =>
   e = .returned (.tuple #[]) ∧ u' = .panicking ({ v := .iface u pv, recovered := true } :: older) ∧ w' = w := by
 refine callsD_of_wpS Tryz.func88 rfl fun c₀ cs hu => ?_
 apply wpS_region
 simp [wpOpsS, go_sem, recoverD, hu, Tryz.ntmps88, bodyPostS, results, Tryz.results88]
theorem catchMg_idle (w : World) :
  CallsD Tryz.prog 88 #[] .returning w fun e u' w' => e = .returned (.tuple #[]) ∧ u' = .returning ∧ w' = w := by
 refine callsD_of_wpS Tryz.func88 rfl fun c₀ cs hu => ?_
 apply wpS_region
 simp [wpOpsS, go_sem, recoverD, hu, Tryz.ntmps88, bodyPostS, results, Tryz.results88]
 cases c₀
 simp_all
theorem MgO.shape {w : World} {base : Nat} {u : Value} {x : Mg} (h : MgO w base u x) : ∃ A m c, u = .agg #[.int .i64 x.kind, .int .i64 x.frm, .int .i64 x.dst, .int .i64 x.term, .int .i64 x.index, .int .i64 x.iterm, .int .i64 x.commit, .bool x.yes, .slice A m c, .string x.data] ∧ Owns w base 75 2 (.slice A m c) (entR x.ents) := by
 obtain ⟨v, rfl, ho⟩ := h
 obtain ⟨A, m, c, rfl⟩ := ho.shape
 exact ⟨A, m, c, rfl, ho⟩
set_option maxHeartbeats 4000000 in
theorem partsMg (s : ByteArray) (w : World) (hs : s.size ≤ 1048576) (hst : SumTab w) (a0 a1 a2 : Addr) (he : Errs w a0 a1 a2) :
  Calls Tryz.prog 49 #[.string s, .func (.func 50) #[] #[]] w fun e w' => MgA s w.heap.size e w' ∧ Below w.heap.size w w' := by
 have hmf : ∀ (fn : Fn) (first cap : Array Value) (w : World), (Instr.makeFunc fn first cap).run Tryz.prog w = .ok (.func fn first cap) w := fun _ _ _ _ => rfl
 have k0 := (Blk.new w #[.int .i64 0, .int .i64 0, .int .i64 0, .int .i64 0, .int .i64 0, .int .i64 0, .int .i64 0, .bool false, .slice none 0 0, .string ⟨#[]⟩] 31).alloc (.cells #[.string s] 121)
 have p0 : Prt ((w.alloc (.cells #[.int .i64 0, .int .i64 0, .int .i64 0, .int .i64 0, .int .i64 0, .int .i64 0, .int .i64 0, .bool false, .slice none 0 0, .string ⟨#[]⟩] 31)).alloc (.cells #[.string s] 121)) (w.heap.size + 1) s := by
  have := heap_alloc_new (w.alloc (.cells #[.int .i64 0, .int .i64 0, .int .i64 0, .int .i64 0, .int .i64 0, .int .i64 0, .int .i64 0, .bool false, .slice none 0 0, .string ⟨#[]⟩] 31)) (.cells #[.string s] 121)
  rw [World.size_alloc] at this
  exact this
 have hb0 := below_c2 w (.cells #[.int .i64 0, .int .i64 0, .int .i64 0, .int .i64 0, .int .i64 0, .int .i64 0, .int .i64 0, .bool false, .slice none 0 0, .string ⟨#[]⟩] 31) (.cells #[.string s] 121)
 go_enter_defers Tryz.func49, Tryz.ntmps49
 go_wp2_with fail
 generalize (w.alloc (.cells #[.int .i64 0, .int .i64 0, .int .i64 0, .int .i64 0, .int .i64 0, .int .i64 0, .int .i64 0, .bool false, .slice none 0 0, .string ⟨#[]⟩] 31)).alloc (.cells #[.string s] 121) = X at *
 have ZX : Hid (w.heap.size < X.heap.size) := k0.lt
 refine (takeMsg (w.heap.size + 1) s X p0 hs w hst a0 a1 a2 he hb0 (by omega)).mono ?_
 rintro e w1 ⟨hR, hk⟩
 have k1 := hk.blk k0 (by omega)
 have B1 : Hid (Below w.heap.size w w1) := hb0.trans (hk.1.mono (by omega))
 clear hk hb0 p0 k0 hs hst he
 rcases hR with ⟨x, u, hx, rfl, hO⟩ | ⟨hn, rfl⟩
 ·have HX : Hid (MgRd s x) := hx
  obtain ⟨Ae, me, ce, rfl, ho⟩ := hO.shape
  have HMO : Hid (∀ (X : World) b, Owns X b 75 2 (.slice Ae me ce) (entR x.ents) → MgO X b (.agg #[.int .i64 x.kind, .int .i64 x.frm, .int .i64 x.dst, .int .i64 x.term, .int .i64 x.index, .int .i64 x.iterm, .int .i64 x.commit, .bool x.yes, .slice Ae me ce, .string x.data]) x) := fun X b h => ⟨_, rfl, h⟩
  obtain ⟨⟨r0, f0⟩, ⟨r1, f1⟩, ⟨r2, f2⟩, ⟨r3, f3⟩, ⟨r4, f4⟩, ⟨r5, f5⟩, ⟨r6, f6⟩, ⟨r7, f7⟩, ⟨r8, f8⟩, ⟨r9, f9⟩, y0, y1, y2, y3, y4, y5, y6, y7, y8, y9⟩ := resC10 (x0 := .int .i64 x.kind) (x1 := .int .i64 x.frm) (x2 := .int .i64 x.dst) (x3 := .int .i64 x.term) (x4 := .int .i64 x.index) (x5 := .int .i64 x.iterm) (x6 := .int .i64 x.commit) (x7 := .bool x.yes) (x8 := .slice Ae me ce) (x9 := .string x.data) k1
  have B2 : Hid (Below w.heap.size w _) := belowC10 B1.out (Nat.le_refl _) (.int .i64 x.kind) (.int .i64 x.frm) (.int .i64 x.dst) (.int .i64 x.term) (.int .i64 x.index) (.int .i64 x.iterm) (.int .i64 x.commit) (.bool x.yes) (.slice Ae me ce) (.string x.data)
  have OE := Hid.mkM ((HMO.out _ _ (ownsC10 ho ZX.out (.int .i64 x.kind) (.int .i64 x.frm) (.int .i64 x.dst) (.int .i64 x.term) (.int .i64 x.index) (.int .i64 x.iterm) (.int .i64 x.commit) (.bool x.yes) (.slice Ae me ce) (.string x.data))).mono (Nat.le_of_lt ZX.out))
  clear k1 hx hO ho
  go_wp2_with fail
  refine leaves_cons (f := 88) (args := #[]) (by simp) (by simp [go_sem]) ?_
  refine (catchMg_idle _).mono ?_
  rintro e u' w'' ⟨rfl, rfl, rfl⟩
  refine ⟨.tuple #[.agg #[.int .i64 x.kind, .int .i64 x.frm, .int .i64 x.dst, .int .i64 x.term, .int .i64 x.index, .int .i64 x.iterm, .int .i64 x.commit, .bool x.yes, .slice Ae me ce, .string x.data], .bool true], ?_, ⟨x, _, _, .inl ⟨HX.out, rfl⟩, rfl, OE.out⟩, B2.out⟩
  simp [results, Tryz.results49, go_sem, y0, y1, y2, y3, y4, y5, y6, y7, y8, y9]
 ·have HN : Hid (∀ x, ¬ MgRd s x) := hn
  clear hn
  have hz := cellsC10 k1
  obtain ⟨y0, y1, y2, y3, y4, y5, y6, y7, y8, y9⟩ := hz
  clear k1
  go_wp2_with fail
  refine leaves_cons (f := 88) (args := #[]) (by simp) (by simp [go_sem]) ?_
  refine (catchMg_panicking _ _ [] _).mono ?_
  rintro e u' w'' ⟨rfl, rfl, rfl⟩
  refine ⟨.tuple #[.agg #[.int .i64 0, .int .i64 0, .int .i64 0, .int .i64 0, .int .i64 0, .int .i64 0, .int .i64 0, .bool false, .slice none 0 0, .string ⟨#[]⟩], .bool false], ?_, ⟨_, _, _, .inr ⟨HN.out, rfl, rfl⟩, rfl, MgO.zero _ _⟩, B1.out⟩
  simp [results, Tryz.results49, go_sem, y0, y1, y2, y3, y4, y5, y6, y7, y8, y9]
set_option maxHeartbeats 2000000 in
theorem implReadMsg (s : ByteArray) (w : World) (hs : s.size ≤ 1048576) (hst : SumTab w) (a0 a1 a2 : Addr) (he : Errs w a0 a1 a2) :
  Calls Tryz.prog 14 #[.string s] w fun e w' => MgA s w.heap.size e w' ∧ Below w.heap.size w w' := by
 have c := fun wx (hb : Below w.heap.size w wx) => partsMg s wx hs (hst.on hb) a0 a1 a2 (he.on hb)
 have k0 := Blk.new w #[.int .i64 0, .int .i64 0, .int .i64 0, .int .i64 0, .int .i64 0, .int .i64 0, .int .i64 0, .bool false, .slice none 0 0, .string ⟨#[]⟩] 31
 have hb0 := (Below.refl w.heap.size w).alloc (Nat.le_refl _) (.cells #[.int .i64 0, .int .i64 0, .int .i64 0, .int .i64 0, .int .i64 0, .int .i64 0, .int .i64 0, .bool false, .slice none 0 0, .string ⟨#[]⟩] 31)
 clear hs hst he
 go_enter Tryz.func14, Tryz.ntmps14
 go_wp2_with fail
 generalize w.alloc (.cells #[.int .i64 0, .int .i64 0, .int .i64 0, .int .i64 0, .int .i64 0, .int .i64 0, .int .i64 0, .bool false, .slice none 0 0, .string ⟨#[]⟩] 31) = X at *
 have ZX : Hid (w.heap.size < X.heap.size) := k0.lt
 refine (c _ hb0).mono ?_
 rintro e w1 ⟨hR, hb1⟩
 have k1 := k0.on hb1 k0.lt
 have B1 : Hid (Below w.heap.size w w1) := hb0.trans (hb1.mono hb0.size)
 obtain ⟨x, u, b, hA, rfl, hO⟩ := hR
 have HA : Hid (MgN s x b) := hA
 obtain ⟨Ae, me, ce, rfl, ho⟩ := hO.shape
 have HMO : Hid (∀ (X : World) b, Owns X b 75 2 (.slice Ae me ce) (entR x.ents) → MgO X b (.agg #[.int .i64 x.kind, .int .i64 x.frm, .int .i64 x.dst, .int .i64 x.term, .int .i64 x.index, .int .i64 x.iterm, .int .i64 x.commit, .bool x.yes, .slice Ae me ce, .string x.data]) x) := fun X b h => ⟨_, rfl, h⟩
 clear hb0 hb1 c k0 hA hO
 obtain ⟨⟨r0, f0⟩, ⟨r1, f1⟩, ⟨r2, f2⟩, ⟨r3, f3⟩, ⟨r4, f4⟩, ⟨r5, f5⟩, ⟨r6, f6⟩, ⟨r7, f7⟩, ⟨r8, f8⟩, ⟨r9, f9⟩, y0, y1, y2, y3, y4, y5, y6, y7, y8, y9⟩ := resC10 (x0 := .int .i64 x.kind) (x1 := .int .i64 x.frm) (x2 := .int .i64 x.dst) (x3 := .int .i64 x.term) (x4 := .int .i64 x.index) (x5 := .int .i64 x.iterm) (x6 := .int .i64 x.commit) (x7 := .bool x.yes) (x8 := .slice Ae me ce) (x9 := .string x.data) k1
 have B2 : Hid (Below w.heap.size w _) := belowC10 B1.out (Nat.le_refl _) (.int .i64 x.kind) (.int .i64 x.frm) (.int .i64 x.dst) (.int .i64 x.term) (.int .i64 x.index) (.int .i64 x.iterm) (.int .i64 x.commit) (.bool x.yes) (.slice Ae me ce) (.string x.data)
 have OE := Hid.mkM ((HMO.out _ _ (ownsC10 ho ZX.out (.int .i64 x.kind) (.int .i64 x.frm) (.int .i64 x.dst) (.int .i64 x.term) (.int .i64 x.index) (.int .i64 x.iterm) (.int .i64 x.commit) (.bool x.yes) (.slice Ae me ce) (.string x.data))).mono (Nat.le_of_lt ZX.out))
 clear k1 B1 ho
 go_wp2_with fail
 exact bodyPost_ret (v := .tuple #[.agg #[.int .i64 x.kind, .int .i64 x.frm, .int .i64 x.dst, .int .i64 x.term, .int .i64 x.index, .int .i64 x.iterm, .int .i64 x.commit, .bool x.yes, .slice Ae me ce, .string x.data], .bool b]) (by simp [results, go_sem, y0, y1, y2, y3, y4, y5, y6, y7, y8, y9]) rfl ⟨⟨x, _, _, HA.out, rfl, OE.out⟩, B2.out⟩
end Go.Proofs.YtifmjdakefkbiaaGreatDoor
