/- CrcImpl CrcSpec FrAid Frame ErrIs -/
import Derived.Test.YtpmgndgkmffcnaaGreatDoorRows
import Derived.Test.YtpmgndgkmffcnaaGreatDoorQd0
import Derived.WalkKit
import Derived.ProofKit
import Derived.OpenShut
import Derived.Below
import Derived.WalkSmall
import Derived.WalkLawsBesides
import Derived.Outline
import Derived.BigQuiet
import Derived.Deep.QuietTactic
import Derived.LaidEql
import Derived.Stop.Asserts
import Derived.RowKitTokens
import Derived.PlainAid
import Derived.Lib.LaidTab
namespace Go.Proofs.YtpmgndgkmffcnaaGreatDoor
open Go.ChangeShapes Go.WideShapes Go.ChangeAt Go.RowKit Go.PlainAid
set_option linter.unusedVariables false
theorem gSum : Tryz.prog.globalNamed "loop.example/g00360/impl.halfSums" = some 0 := by kernel_rfl
def SumTab (w : World) : Prop := Lib.TabIs Tryz.prog w "loop.example/g00360/impl.halfSums" .u32 sumTab
theorem SumTab.below {B : Nat} {w w' : World} (h : SumTab w) (hb : Below B w w') (hB : 0 < B) : SumTab w' := var?_below hb gSum hB h
theorem SumTab.drewN {w : World} (h : SumTab w) (n : Nat) : SumTab (w.drewN n) := h
set_option maxHeartbeats 400000 in
theorem impl_half4 (c : Nat) (w : World) (hc : c < 4294967296) (ht : SumTab w) :
  Calls Tryz.prog 136 #[.int .u32 (c : Int)] w fun e w' => e = .returned (.int .u32 ((halfs 4 c : Nat) : Int)) ∧ w = w' := by
 have e1 := and_u32_15 c hc
 have hcell : w.cell? ⟨0, c % 16, none⟩ = some (.int .u32 ((halfs 4 (c % 16) : Nat) : Int)) := by
  rw [ht.cell gSum _ (by rw [sumTab_length]; omega), sumTab_at _ (by omega)]
 have l1 := halfs_lt 4 (c % 16) (by omega)
 have e2 := xor_u32 (c / 16) (halfs 4 (c % 16)) (by omega) l1
 rw [step_four] at e2
 have e3 : (c : Int) / 16 = ((c / 16 : Nat) : Int) := by omega
 have b1 : ((c % 16 : Nat) : Int) < 16 := by omega
 have b2 : c % 16 < 16 := by omega
 generalize halfs 4 (c % 16) = t at *
 generalize halfs 4 c = r at *
 generalize c / 16 = d at *
 generalize c % 16 = m at *
 clear hc l1 ht
 go_enter Tryz.func136, Tryz.ntmps136
 go_wp2_with fail
 go_ret
 exact ⟨rfl, rfl⟩
set_option maxHeartbeats 400000 in
theorem impl_with (c b : Nat) (w : World) (hc : c < 4294967296) (hb : b < 256) (ht : SumTab w) :
  Calls Tryz.prog 117 #[.int .u32 (c : Int), .int .u8 (b : Int)] w fun e w' => e = .returned (.int .u32 ((halfs 8 (c ^^^ b) : Nat) : Int)) ∧ w = w' := by
 have e1 := xor_u32 c b hc (by omega)
 have l1 := xor_lt32 c b hc (by omega)
 have e2 : IntKind.u32.wrap (b : Int) = (b : Int) := by rw [IntKind.wrap_u32]; omega
 have HT : Hid (SumTab w) := ht
 have L1 : Hid (c ^^^ b < 4294967296) := l1
 rw [show (8 : Nat) = 4 + 4 from rfl, halfs_add]
 generalize c ^^^ b = x at *
 have c1 := impl_half4 x w l1 ht
 have c2 := impl_half4 (halfs 4 x) w (halfs_lt _ _ l1) ht
 clear ht l1 hc
 go_enter Tryz.func117, Tryz.ntmps117
 go_wp2_with fail
 refine c1.mono ?_
 rintro e w1 ⟨rfl, rfl⟩
 go_wp2_with fail
 refine c2.mono ?_
 rintro e w1 ⟨rfl, rfl⟩
 go_wp2_with fail
 go_ret
 exact ⟨rfl, rfl⟩
set_option maxHeartbeats 400000 in
theorem impl_told (c : Nat) (w : World) (hc : c < 4294967296) :
  Calls Tryz.prog 118 #[.int .u32 (c : Int)] w fun e w' => e = .returned (.int .i64 ((4294967295 - c : Nat) : Int)) ∧ w = w' := by
 have e1 : IntKind.i64.wrap (4294967295 - (c : Int)) = ((4294967295 - c : Nat) : Int) := by rw [IntKind.wrap_i64]; omega
 have e2 : (4294967295 : Int) - (c : Int) = ((4294967295 - c : Nat) : Int) := by omega
 have e3 : IntKind.i64.wrap (c : Int) = (c : Int) := by rw [IntKind.wrap_i64]; omega
 have e4 : wrap64 (4294967295 - (c : Int)) = ((4294967295 - c : Nat) : Int) := by unfold wrap64; omega
 generalize 4294967295 - c = r at *
 clear hc
 go_enter Tryz.func118, Tryz.ntmps118
 go_wp2_with fail
 go_ret
 exact ⟨rfl, rfl⟩
set_option maxHeartbeats 400000 in
theorem impl_crc (s : ByteArray) (w : World) (hs : s.size ≤ 9223372036854775807) (ht : SumTab w) :
  Calls Tryz.prog 97 #[.string s] w fun e w' => e = .returned (.int .i64 ((crc s : Nat) : Int)) ∧ w = w' := by
 have hbt := get_bn s
 have HT : Hid (SumTab w) := ht
 clear ht
 go_enter Tryz.func97, Tryz.ntmps97
 go_wp2
 go_loop [3, 7] (fun v3 v7 => ∃ k : Nat, k ≤ s.size ∧ v7 = .int .i64 k ∧ v3 = .int .u32 ((crcC s k : Nat) : Int)) (fun _ i => s.size - (intOf i).toNat)
 case atStart => exact ⟨0, by omega, rfl, rfl⟩
 case round =>
  obtain ⟨k, hk, rfl, rfl⟩ := hrel
  have hl : Hid (crcC s k < 4294967296) := crcC_lt s k
  by_cases hlt : k < s.size
  ·have q1 : (k : Int) < (s.size : Int) := by omega
   have r2 := bn_lt s k
   have c1 := impl_with (crcC s k) (bn s k) w hl.out r2 HT.out
   rw [← crcC] at c1
   go_wp2_with fail
   refine c1.mono ?_
   rintro e w1 ⟨rfl, rfl⟩
   go_wp2
   go_round
   case rel => exact ⟨k + 1, by omega, by go_num, rfl⟩
   case measure => simp [intOf]; omega
  ·have hkk : k = s.size := by omega
   subst hkk
   have c1 := impl_told (crcC s s.size) w hl.out
   go_wp2_with fail
   refine c1.mono ?_
   rintro e w1 ⟨rfl, rfl⟩
   go_wp2
   go_ret
   exact ⟨rfl, rfl⟩
end Go.Proofs.YtpmgndgkmffcnaaGreatDoor
namespace Go.Proofs.YtpmgndgkmffcnaaGreatDoor
open Go.ChangeShapes Go.WideShapes Go.ChangeAt Go.RowKit Go.PlainAid
set_option linter.unusedVariables false
theorem wrap64_nat (y : Nat) (h : y < 4294967296) : wrap64 (y : Int) = (y : Int) := by
 unfold wrap64
 omega
theorem half_facts (y : Nat) (h : y < 4294967296) : (y : Int).tmod 2 = ((y % 2 : Nat) : Int) ∧ (y : Int).tdiv 2 = ((y / 2 : Nat) : Int) ∧ (y : Int) % 2 = ((y % 2 : Nat) : Int) ∧ (y : Int) / 2 = ((y / 2 : Nat) : Int) ∧
  wrap64 ((y / 2 : Nat) : Int) = ((y / 2 : Nat) : Int) ∧ bits .xor .i64 ((y / 2 : Nat) : Int) 2197175160 = ((y / 2 ^^^ 2197175160 : Nat) : Int) :=
 ⟨(Int.ofNat_tmod y 2).symm, (Int.ofNat_tdiv y 2).symm, by omega, by omega, wrap64_nat _ (by omega), xor_i64 (y / 2) 2197175160 (by omega) (by omega)⟩
set_option maxHeartbeats 400000 in
theorem spec_crc (s : ByteArray) (w : World) (hs : s.size ≤ 9223372036854775807) :
  Calls Tryz.prog 91 #[.string s] w fun e w' => e = .returned (.int .i64 ((crc s : Nat) : Int)) ∧ w = w' := by
 have hbt := get_bn s
 go_enter Tryz.func91, Tryz.ntmps91
 go_wp2
 go_loop [3, 4] (fun v3 v4 => ∃ k : Nat, k ≤ s.size ∧ v4 = .int .i64 k ∧ v3 = .int .i64 ((crcC s k : Nat) : Int)) (fun _ i => s.size - (intOf i).toNat)
 case atStart => exact ⟨0, by omega, rfl, rfl⟩
 case round =>
  obtain ⟨k, hk, rfl, rfl⟩ := hrel
  have hl : Hid (crcC s k < 4294967296) := crcC_lt s k
  by_cases hlt : k < s.size
  ·have q1 : (k : Int) < (s.size : Int) := by omega
   have r2 := bn_lt s k
   have e1 := xor_i64 (crcC s k) (bn s k) hl.out (by omega)
   have eC : Hid (crcC s (k + 1) = halfs 8 (crcC s k ^^^ bn s k)) := crcC_succ s k
   have l1 : Hid (crcC s k ^^^ bn s k < 4294967296) := xor_lt32 _ _ hl.out (by omega)
   generalize crcC s k ^^^ bn s k = x at *
   go_wp2
   go_loop [3, 5] (fun v3 v5 => ∃ j : Nat, j ≤ 8 ∧ v5 = .int .i64 j ∧ v3 = .int .i64 ((halfs j x : Nat) : Int)) (fun _ i => 8 - (intOf i).toNat)
   case atStart => exact ⟨0, by omega, rfl, rfl⟩
   case round =>
    obtain ⟨j, hj, rfl, rfl⟩ := hrel
    by_cases hlt : j < 8
    ·have q2 : (j : Int) < 8 := by omega
     have l2 := halfs_lt j x l1.out
     have eJ : Hid (halfs (j + 1) x = half (halfs j x)) := halfs_succ j x
     generalize halfs j x = y at *
     have e4 := half_facts y l2
     obtain ⟨e2, e3, e5, e6, e7, e8⟩ := e4
     have L2 : Hid (y < 4294967296) := l2
     clear l2
     by_cases ho : y % 2 = 1
     ·have o1 : ((y % 2 : Nat) : Int) = 1 := by rw [ho]; rfl
      have eH : Hid (half y = y / 2 ^^^ 2197175160) := by unfold Hid half; rw [if_pos ho]
      clear ho
      generalize y / 2 ^^^ 2197175160 = z at *
      generalize y / 2 = y2 at *
      generalize y % 2 = m at *
      go_wp2_with fail
      clear e2 e3 e5 e6 e7 e8 o1
      go_round
      case rel => exact ⟨j + 1, by omega, by go_num, by rw [eJ.out, eH.out]⟩
      case measure => simp [intOf]; omega
     ·have o2 : ¬ ((y % 2 : Nat) : Int) = 1 := fun h => ho (by exact_mod_cast h)
      have o1 : decide (((y % 2 : Nat) : Int) = 1) = false := decide_eq_false o2
      have eH : Hid (half y = y / 2) := by unfold Hid half; rw [if_neg ho]
      have E7 : Hid (wrap64 ((y / 2 : Nat) : Int) = ((y / 2 : Nat) : Int)) := e7
      clear e8 ho
      generalize y / 2 = y2 at *
      generalize y % 2 = m at *
      go_wp2_with fail
      clear e2 e3 e5 e6 e7 o1 o2
      go_round
      case rel => exact ⟨j + 1, by omega, by go_num, by rw [eJ.out, eH.out, E7.out]⟩
      case measure => simp [intOf]; omega
    ·have hjj : j = 8 := by omega
     subst hjj
     go_wp2
     go_round
     case rel => exact ⟨k + 1, by omega, by go_num, by rw [eC.out]⟩
     case measure => simp [intOf]; omega
  ·have hkk : k = s.size := by omega
   subst hkk
   have e2 : (4294967295 : Int) - (crcC s s.size : Int) = ((crc s : Nat) : Int) := by have := hl.out; unfold crc; omega
   have e4 : wrap64 (4294967295 - (crcC s s.size : Int)) = ((crc s : Nat) : Int) := by
    have : crc s ≤ 4294967295 := by unfold crc; omega
    rw [e2]
    unfold wrap64
    omega
   go_wp2
   go_ret
   exact ⟨rfl, rfl⟩
end Go.Proofs.YtpmgndgkmffcnaaGreatDoor
namespace Go.Proofs.YtpmgndgkmffcnaaGreatDoor
open Go.RowKit Go.PlainAid
def four (n : Nat) : ByteArray := txt (low n 4)
theorem four_size (n : Nat) : (four n).size = 4 := by rw [four, txt_size, low_length]
theorem rdv_four (s : ByteArray) : rdv s 4 = ((bn s 0 * 256 + bn s 1) * 256 + bn s 2) * 256 + bn s 3 := by simp [rdv]
theorem byt_congr (a b : Nat) (h : a % 256 = b % 256) : byt a = byt b := by
 apply UInt8.toNat_inj.1
 rw [byt_toNat, byt_toNat, h]
theorem rdv_four_lt (s : ByteArray) : rdv s 4 < 4294967296 := rdv_lt s 4
theorem four_rdv (s : ByteArray) (h : 4 ≤ s.size) : four (rdv s 4) = s.extract 0 4 := by
 rw [sg_extract s 4 h, four, rdv_four]
 have h0 := bn_lt s 0
 have h1 := bn_lt s 1
 have h2 := bn_lt s 2
 have h3 := bn_lt s 3
 have e : ∀ a b c d : Nat, ∀ a' b' c' d' : Nat, a % 256 = a' % 256 → b % 256 = b' % 256 → c % 256 = c' % 256 → d % 256 = d' % 256 → [byt a, byt b, byt c, byt d] = [byt a', byt b', byt c', byt d'] := by
  intro a b c d a' b' c' d' ha hb hc hd
  rw [byt_congr a a' ha, byt_congr b b' hb, byt_congr c c' hc, byt_congr d d' hd]
 have e2 : low (((bn s 0 * 256 + bn s 1) * 256 + bn s 2) * 256 + bn s 3) 4 = [byt ((((bn s 0 * 256 + bn s 1) * 256 + bn s 2) * 256 + bn s 3) / 16777216), byt ((((bn s 0 * 256 + bn s 1) * 256 + bn s 2) * 256 + bn s 3) / 65536), byt ((((bn s 0 * 256 + bn s 1) * 256 + bn s 2) * 256 + bn s 3) / 256), byt ((((bn s 0 * 256 + bn s 1) * 256 + bn s 2) * 256 + bn s 3) / 1)] := rfl
 have e3 : sg s 0 4 = [byt (bn s 0), byt (bn s 1), byt (bn s 2), byt (bn s 3)] := rfl
 rw [e2, e3]
 exact congrArg txt (e _ _ _ _ _ _ _ _ (by omega) (by omega) (by omega) (by omega))
theorem bn_get (s : ByteArray) (k : Nat) (h : k < s.size) : bn s k = (s[k]'h).toNat := by
 have := get_bn s k h
 omega
theorem bn_append_left (a b : ByteArray) (k : Nat) (h : k < a.size) : bn (a ++ b) k = bn a k := by
 rw [bn_get _ _ (by rw [ByteArray.size_append]; omega), bn_get _ _ h, ByteArray.getElem_append_left]
theorem rdv_append (a b : ByteArray) (k : Nat) (h : k ≤ a.size) : rdv (a ++ b) k = rdv a k := by
 induction k with
 | zero => rfl
 | succ k ih => rw [rdv, rdv, ih (by omega), bn_append_left _ _ _ (by omega)]
theorem bn_txt (l : List UInt8) (k : Nat) (h : k < l.length) : bn (txt l) k = (l[k]).toNat := by
 rw [bn_get _ _ (by rw [txt_size]; exact h)]
 rfl
theorem rdv_four_four (n : Nat) (h : n < 4294967296) : rdv (four n) 4 = n := by
 rw [rdv_four, four, bn_txt _ 0 (by rw [low_length]; omega), bn_txt _ 1 (by rw [low_length]; omega), bn_txt _ 2 (by rw [low_length]; omega), bn_txt _ 3 (by rw [low_length]; omega)]
 simp only [low, List.getElem_cons_zero, List.getElem_cons_succ, byt_toNat]
 omega
def sumOf (a b : ByteArray) : ByteArray := four (crc (a ++ b))
theorem crc_lt (s : ByteArray) : crc s < 4294967296 := by unfold crc; omega
theorem sumOf_size (a b : ByteArray) : (sumOf a b).size = 4 := four_size _
def frameOf (b : ByteArray) : ByteArray := four b.size ++ sumOf (four b.size) b ++ b
theorem frameOf_size (b : ByteArray) : (frameOf b).size = 8 + b.size := by
 rw [frameOf, ByteArray.size_append, ByteArray.size_append, four_size, sumOf_size]
def frame (b : ByteArray) : ByteArray := if b.size = 0 ∨ 2000 < b.size then txt [] else frameOf b
def bodyOf (s : ByteArray) : ByteArray := s.extract 8 (8 + rdv s 4)
theorem bodyOf_size (s : ByteArray) (h : 8 + rdv s 4 ≤ s.size) : (bodyOf s).size = rdv s 4 := by
 rw [bodyOf, ByteArray.size_extract]
 omega
def code (s : ByteArray) : Nat :=
 if s.size < 4 then 1 else if rdv s 4 = 0 ∨ 2000 < rdv s 4 then 2 else if s.size < 8 + rdv s 4 then 1
 else if sumOf (s.extract 0 4) (bodyOf s) = s.extract 4 8 then 0 else 2
theorem code_zero (s : ByteArray) : code s = 0 ↔ 4 ≤ s.size ∧ 1 ≤ rdv s 4 ∧ rdv s 4 ≤ 2000 ∧ 8 + rdv s 4 ≤ s.size ∧ sumOf (s.extract 0 4) (bodyOf s) = s.extract 4 8 := by
 unfold code
 split
 ·constructor
  ·intro h; cases h
  ·intro h; omega
 ·split
  ·constructor
   ·intro h; cases h
   ·intro h; omega
  ·split
   ·constructor
    ·intro h; cases h
    ·intro h; omega
   ·split
    ·rename_i h
     constructor
     ·intro _; exact ⟨by omega, by omega, by omega, by omega, h⟩
     ·intro _; rfl
    ·rename_i h
     constructor
     ·intro h; cases h
     ·intro h'; exact absurd h'.2.2.2.2 h
theorem pieces (s : ByteArray) (n : Nat) : s.extract 0 (8 + n) = s.extract 0 4 ++ s.extract 4 8 ++ s.extract 8 (8 + n) := by
 rw [ByteArray.extract_append_extract, show min 0 4 = 0 by rfl, show max 4 8 = 8 by rfl, ByteArray.extract_append_extract, show min 0 8 = 0 by rfl, show max 8 (8 + n) = 8 + n by omega]
theorem frame_fits (s : ByteArray) (h4 : 4 ≤ s.size) (h1 : 1 ≤ rdv s 4) (h2 : rdv s 4 ≤ 2000) (h8 : 8 + rdv s 4 ≤ s.size) :
  frame (bodyOf s) = s.extract 0 (8 + rdv s 4) ↔ sumOf (s.extract 0 4) (bodyOf s) = s.extract 4 8 := by
 have hb := bodyOf_size s h8
 have e : s.extract 8 (8 + rdv s 4) = bodyOf s := rfl
 rw [frame, if_neg (by omega), frameOf, hb, four_rdv s h4, pieces, e]
 rw [ByteArray.append_left_inj, ByteArray.append_right_inj]
theorem rdv_frameOf (b t : ByteArray) (h : b.size ≤ 2000) : rdv (frameOf b ++ t) 4 = b.size := by
 rw [frameOf, ByteArray.append_assoc, ByteArray.append_assoc, rdv_append _ _ _ (by rw [four_size]; omega), rdv_four_four _ (by omega)]
theorem bodyOf_frameOf (b t : ByteArray) (h : b.size ≤ 2000) : bodyOf (frameOf b ++ t) = b := by
 have e : frameOf b ++ t = (four b.size ++ sumOf (four b.size) b) ++ (b ++ t) := by rw [frameOf, ByteArray.append_assoc]
 rw [bodyOf, rdv_frameOf b t h, e, ByteArray.extract_append, ByteArray.extract_eq_empty_iff.2 (by rw [ByteArray.size_append, four_size, sumOf_size]; omega), ByteArray.size_append, four_size, sumOf_size]
 rw [ByteArray.empty_append, show 8 - (4 + 4) = 0 by rfl, show 8 + b.size - (4 + 4) = b.size by omega]
 exact ByteArray.extract_append_eq_left rfl
theorem code_frameOf (b t : ByteArray) (h1 : 1 ≤ b.size) (h : b.size ≤ 2000) : code (frameOf b ++ t) = 0 := by
 have hs : (frameOf b ++ t).size = 8 + b.size + t.size := by rw [ByteArray.size_append, frameOf_size]
 rw [code_zero, rdv_frameOf b t h, bodyOf_frameOf b t h]
 refine ⟨by omega, h1, h, by omega, ?_⟩
 have e : frameOf b ++ t = four b.size ++ (sumOf (four b.size) b ++ (b ++ t)) := by rw [frameOf, ByteArray.append_assoc, ByteArray.append_assoc]
 have e1 : (frameOf b ++ t).extract 0 4 = four b.size := by rw [e]; exact ByteArray.extract_append_eq_left (four_size _).symm
 have e2 : (frameOf b ++ t).extract 4 8 = sumOf (four b.size) b := by
  rw [e, ByteArray.extract_append, ByteArray.extract_eq_empty_iff.2 (by rw [four_size]; omega), four_size, ByteArray.empty_append]
  exact ByteArray.extract_append_eq_left (by rw [sumOf_size])
 rw [e1, e2]
def rest (s : ByteArray) (i : Nat) : ByteArray := s.extract i s.size
theorem rest_size (s : ByteArray) (i : Nat) : (rest s i).size = s.size - i := by rw [rest, ByteArray.size_extract]; omega
theorem rest_zero (s : ByteArray) : rest s 0 = s := ByteArray.extract_zero_size
def pos (s : ByteArray) : Nat → Nat
 | 0 => 0
 | k + 1 => pos s k + (8 + rdv (rest s (pos s k)) 4)
def Runs (s : ByteArray) (k : Nat) : Prop := ∀ j, j < k → code (rest s (pos s j)) = 0
def Ends (s : ByteArray) (k : Nat) : Prop := Runs s k ∧ code (rest s (pos s k)) ≠ 0
theorem Runs.zero (s : ByteArray) : Runs s 0 := fun j hj => by omega
theorem Runs.succ {s : ByteArray} {k : Nat} (h : Runs s k) (hc : code (rest s (pos s k)) = 0) : Runs s (k + 1) := fun j hj => by
 rcases Nat.lt_succ_iff_lt_or_eq.1 hj with h' | rfl
 ·exact h j h'
 ·exact hc
theorem Ends.one {s : ByteArray} {k k' : Nat} (h : Ends s k) (h' : Ends s k') : k = k' := by
 rcases Nat.lt_trichotomy k k' with hl | hl | hl
 ·exact absurd (h'.1 k hl) h.2
 ·exact hl
 ·exact absurd (h.1 k' hl) h'.2
end Go.Proofs.YtpmgndgkmffcnaaGreatDoor
namespace Go.Proofs.YtpmgndgkmffcnaaGreatDoor
open Go.ChangeShapes Go.WideShapes Go.ChangeAt Go.RowKit Go.PlainAid
set_option linter.unusedVariables false
theorem fixed_four (n : Nat) (h : n < 4294967296) : fixed n 4 = four n := by
 rw [fixed, if_pos (by omega)]
 rfl
theorem SumTab.lt {W : World} (h : SumTab W) : 0 < W.heap.size := by
 unfold SumTab Lib.TabIs World.var? at h
 simp only [gSum, Option.bind_some] at h
 by_cases hlt : 0 < W.heap.size
 ·exact hlt
 ·rw [Array.getElem?_eq_none (by omega)] at h
  simp at h
theorem SumTab.on {w w' : World} (h : SumTab w) (hb : Below w.heap.size w w') : SumTab w' := h.below hb h.lt
set_option maxHeartbeats 400000 in
theorem impl_frameSum (a b : ByteArray) (w : World) (hs : a.size + b.size ≤ 2097152) (ht : SumTab w) :
  Calls Tryz.prog 152 #[.string a, .string b] w fun e w' => e = .returned (.string (sumOf a b)) ∧ Below w.heap.size w w' := by
 have c1 := impl_crc (a ++ b) w (by rw [ByteArray.size_append]; omega) ht
 have hl := crc_lt (a ++ b)
 have c2 := impl_fixed (crc (a ++ b)) 4 w (by omega) (by omega) (by omega)
 rw [fixed_four _ hl] at c2
 have hsum : a.size + b.size ≤ 9223372036854775807 := by omega
 clear ht hs hl
 go_enter Tryz.func152, Tryz.ntmps152
 go_wp2_with fail
 refine c1.mono ?_
 rintro e w1 ⟨rfl, rfl⟩
 go_wp2_with fail
 refine c2.mono ?_
 rintro e w1 ⟨rfl, hb1⟩
 go_wp2_with fail
 go_ret
 exact ⟨rfl, hb1⟩
set_option maxHeartbeats 400000 in
theorem impl_frame (b : ByteArray) (w : World) (hs : b.size ≤ 1048576) (ht : SumTab w) :
  Calls Tryz.prog 133 #[.string b] w fun e w' => e = .returned (.string (frame b)) ∧ Below w.heap.size w w' := by
 by_cases h0 : b.size = 0
 ·obtain rfl : b = ⟨#[]⟩ := by
   apply ByteArray.ext
   exact Array.eq_empty_of_size_eq_zero h0
  go_enter Tryz.func133, Tryz.ntmps133
  go_wp2_with fail
  go_ret
  exact ⟨by rw [frame, if_pos (.inl h0)]; rfl, Below.refl _ _⟩
 ·have hbe : b.toList.isEmpty = false := by
   rw [Lib.toList_data]
   rcases h : b.data.toList with _ | ⟨x, l⟩
   ·exact absurd (by rw [Lib.size_eq, h]; rfl) h0
   ·rfl
  have hb2 : ¬ b.toList = [] := fun h => by rw [h] at hbe; cases hbe
  by_cases h2 : 2000 < b.size
  ·have q : (2000 : Int) < (b.size : Int) := by omega
   have q2 : decide ((2000 : Int) < (b.size : Int)) = true := decide_eq_true q
   go_enter Tryz.func133, Tryz.ntmps133
   go_wp2_with fail
   go_ret
   exact ⟨by rw [frame, if_pos (.inr h2)]; rfl, Below.refl _ _⟩
  ·have q : (b.size : Int) ≤ 2000 := by omega
   have q2 : decide ((2000 : Int) < (b.size : Int)) = false := decide_eq_false (by omega)
   have c1 := impl_fixed b.size 4 w (by omega) (by omega) (by omega)
   rw [fixed_four _ (by omega)] at c1
   have HT : Hid (SumTab w) := ht
   have HS : Hid ((four b.size).size + b.size ≤ 2097152) := by unfold Hid; rw [four_size]; omega
   have s1 : (four b.size).size + (sumOf (four b.size) b).size ≤ 9223372036854775807 := by rw [four_size, sumOf_size]; omega
   have s2 : (four b.size).size + (sumOf (four b.size) b).size + b.size ≤ 9223372036854775807 := by rw [four_size, sumOf_size]; omega
   have ef : Hid (frame b = four b.size ++ sumOf (four b.size) b ++ b) := by unfold Hid; rw [frame, if_neg (by omega), frameOf]
   clear ht
   go_enter Tryz.func133, Tryz.ntmps133
   go_wp2_with fail
   refine c1.mono ?_
   rintro e w1 ⟨rfl, hb1⟩
   have c2 := impl_frameSum (four b.size) b w1 HS.out (HT.out.on hb1)
   go_wp2_with fail
   refine c2.mono ?_
   rintro e w2 ⟨rfl, hb2⟩
   go_wp2_with fail
   go_ret
   exact ⟨by rw [ef.out]; rfl, hb1.trans (hb2.mono hb1.size)⟩
set_option maxHeartbeats 400000 in
theorem spec_frame (b : ByteArray) (w : World) (hs : b.size ≤ 1048576) :
  Calls Tryz.prog 111 #[.string b] w fun e w' => e = .returned (.string (frame b)) ∧ Below w.heap.size w w' := by
 by_cases h0 : b.size = 0
 ·have q : (b.size : Int) = 0 := by omega
  go_enter Tryz.func111, Tryz.ntmps111
  go_wp2_with fail
  go_ret
  exact ⟨by rw [frame, if_pos (.inl h0)]; rfl, Below.refl _ _⟩
 ·have q0 : ((b.size : Int) == 0) = false := by simp only [beq_eq_false_iff_ne, ne_eq]; omega
  have q1 : ¬ (b.size : Int) = 0 := by omega
  by_cases h2 : 2000 < b.size
  ·have q : (2000 : Int) < (b.size : Int) := by omega
   have q2 : decide ((2000 : Int) < (b.size : Int)) = true := decide_eq_true q
   go_enter Tryz.func111, Tryz.ntmps111
   go_wp2_with fail
   go_ret
   exact ⟨by rw [frame, if_pos (.inr h2)]; rfl, Below.refl _ _⟩
  ·have q : (b.size : Int) ≤ 2000 := by omega
   have q2 : decide ((2000 : Int) < (b.size : Int)) = false := decide_eq_false (by omega)
   have c1 := spec_fixed b.size 4 w (by omega) (by omega) (by omega)
   rw [fixed_four _ (by omega)] at c1
   have s0 : (four b.size).size + b.size ≤ 9223372036854775807 := by rw [four_size]; omega
   have s1 : (four b.size).size + (sumOf (four b.size) b).size ≤ 9223372036854775807 := by rw [four_size, sumOf_size]; omega
   have s2 : (four b.size).size + (sumOf (four b.size) b).size + b.size ≤ 9223372036854775807 := by rw [four_size, sumOf_size]; omega
   have ef : Hid (frame b = four b.size ++ sumOf (four b.size) b ++ b) := by unfold Hid; rw [frame, if_neg (by omega), frameOf]
   have c2 := fun wx => spec_crc (four b.size ++ b) wx (by rw [ByteArray.size_append]; exact s0)
   have c3 : ∀ wx : World, Calls Tryz.prog 90 #[.int .i64 ((crc (four b.size ++ b) : Nat) : Int), .int .i64 4] wx fun e w' => e = .returned (.string (sumOf (four b.size) b)) ∧ Below wx.heap.size wx w' := fun wx => by
    have := spec_fixed (crc (four b.size ++ b)) 4 wx (by have := crc_lt (four b.size ++ b); omega) (by omega) (by omega)
    rw [fixed_four _ (crc_lt _)] at this
    exact this
   go_enter Tryz.func111, Tryz.ntmps111
   go_wp2_with fail
   refine c1.mono ?_
   rintro e w1 ⟨rfl, hb1⟩
   go_wp2_with fail
   refine (c2 _).mono ?_
   rintro e w2 ⟨rfl, rfl⟩
   go_wp2_with fail
   refine (c3 _).mono ?_
   rintro e w2 ⟨rfl, hb2⟩
   go_wp2_with fail
   go_ret
   exact ⟨by rw [ef.out]; rfl, hb1.trans (hb2.mono hb1.size)⟩
end Go.Proofs.YtpmgndgkmffcnaaGreatDoor
namespace Go.Proofs.YtpmgndgkmffcnaaGreatDoor
open Go.RowKit Go.PlainAid
set_option linter.unusedVariables false
theorem isTypeOf (v : Value) (w : World) : (callFunc 184 #[.iface 219 v]).run Tryz.prog w = .ok (.value (.iface 209 (.agg #[.pointer (some ⟨4, 219, none⟩)]))) w := by kernel_rfl
theorem isComparable (w : World) : (callFunc 211 #[.agg #[.pointer (some ⟨4, 219, none⟩)]]).run Tryz.prog w = .ok (.value (.bool true)) w := by kernel_rfl
theorem isMethodComparable (v : Value) (w : World) : (Go.method 353 209 v "Comparable").run Tryz.prog w = .ok (211, v) w := by kernel_rfl
theorem isComp : (Tryz.prog.info? 219).map (·.comparable) = some true := by kernel_rfl
theorem isSize : (Tryz.prog.info? 242).map (·.size) = some 1 := by kernel_rfl
theorem noIsE (v : Value) (xT : TypeId) (w : World) : (Instr.typeAssert (.iface 219 v) xT 211 true).run Tryz.prog w = .ok (.tuple #[.nilIface, .bool false]) w := run_typeAssert_lacksB Tryz.underlying211 (by kernel_rfl) (by kernel_rfl) v xT w
theorem noUnwrapE (v : Value) (xT : TypeId) (w : World) : (Instr.typeAssert (.iface 219 v) xT 214 true).run Tryz.prog w = .ok (.tuple #[.nilIface, .bool false]) w := run_typeAssert_lacksB Tryz.underlying214 (by kernel_rfl) (by kernel_rfl) v xT w
theorem noUnwrapsE (v : Value) (xT : TypeId) (w : World) : (Instr.typeAssert (.iface 219 v) xT 216 true).run Tryz.prog w = .ok (.tuple #[.nilIface, .bool false]) w := run_typeAssert_lacksB Tryz.underlying216 (by kernel_rfl) (by kernel_rfl) v xT w
theorem noIsW (v : Value) (xT : TypeId) (w : World) : (Instr.typeAssert (.iface 201 v) xT 211 true).run Tryz.prog w = .ok (.tuple #[.nilIface, .bool false]) w := run_typeAssert_lacksB Tryz.underlying211 (by kernel_rfl) (by kernel_rfl) v xT w
theorem hasUnwrapW (v : Value) (xT : TypeId) (w : World) : (Instr.typeAssert (.iface 201 v) xT 214 true).run Tryz.prog w = .ok (.tuple #[.iface 201 v, .bool true]) w := run_typeAssert_hasB Tryz.underlying214 (by kernel_rfl) v xT w
theorem methodUnwrap (v : Value) (w : World) : (Go.method 353 201 v "Unwrap").run Tryz.prog w = .ok (207, v) w := by kernel_rfl
theorem heap_alloc_old {w : World} {k : Nat} {o x : Obj} (h : w.heap[k]? = some x) : (w.alloc o).heap[k]? = some x := by
 show (w.heap.push o)[k]? = _
 rcases Nat.lt_or_ge k w.heap.size with h' | h'
 ·simp only [Array.getElem?_push, Nat.ne_of_lt h', if_false]
  exact h
 ·rw [Array.getElem?_eq_none h'] at h
  cases h
def wrapped (p : Int) (a : Addr) : Value := .iface 201 (.agg #[.int .i64 p, .iface 219 (.pointer (some a))])
set_option maxRecDepth 20000 in
set_option maxHeartbeats 1000000 in
theorem is_wrap_same (p : Int) (b : Addr) (w : World) :
  Calls Tryz.prog 182 #[wrapped p b, .iface 219 (.pointer (some b))] w fun e w' => e = .returned (.bool true) ∧ Below w.heap.size w w' := by
 unfold wrapped
 obtain ⟨i, hi, hcmp⟩ := Option.map_eq_some_iff.1 isComp
 obtain ⟨j, hj, hjs⟩ := Option.map_eq_some_iff.1 isSize
 have tT := isTypeOf
 have cT := isComparable
 have mR := isMethodComparable
 have nE := noIsE
 have uE := noUnwrapE
 have vE := noUnwrapsE
 have nW := noIsW
 have uW := hasUnwrapW
 have mU := methodUnwrap
 have heq := fun wx : World => run_eql_iface_ptr_same (P := Tryz.prog) wx b Tryz.underlying179 Tryz.underlying219 hi hcmp hj
 have hty := run_eql_iface_types (P := Tryz.prog) 201 219 (.agg #[.int .i64 p, .iface 219 (.pointer (some b))]) (.pointer (some b)) Tryz.underlying179 (by decide) w
 go_enter Tryz.func182, Tryz.ntmps182
 go_wp2
 refine wp_loop_rounds 2 ?_
 rw [rounds_succ]
 go_wp2
 rw [rounds_succ]
 go_wp2
 go_ret
 exact ⟨rfl, (Below.refl _ _).alloc (Nat.le_refl _) _⟩
set_option maxRecDepth 20000 in
set_option maxHeartbeats 1000000 in
theorem is_wrap_other (p : Int) (a b : Addr) (ca cb : Array Value) (ta tb : TypeId) (w : World) (hne : a ≠ b) (ha : w.heap[a.block]? = some (.cells ca ta (0, 0))) (hb : w.heap[b.block]? = some (.cells cb tb (0, 0))) :
  Calls Tryz.prog 182 #[wrapped p a, .iface 219 (.pointer (some b))] w fun e w' => e = .returned (.bool false) ∧ Below w.heap.size w w' := by
 unfold wrapped
 obtain ⟨i, hi, hcmp⟩ := Option.map_eq_some_iff.1 isComp
 obtain ⟨j, hj, hjs⟩ := Option.map_eq_some_iff.1 isSize
 have tT := isTypeOf
 have cT := isComparable
 have mR := isMethodComparable
 have nE := noIsE
 have uE := noUnwrapE
 have vE := noUnwrapsE
 have nW := noIsW
 have uW := hasUnwrapW
 have mU := methodUnwrap
 have heq : ∀ o : Obj, _ := fun o => run_eql_iface_ptr_other (P := Tryz.prog) (w.alloc o) Tryz.underlying179 Tryz.underlying219 hi hcmp hj (by rw [hjs]; decide) hne (heap_alloc_old ha) (heap_alloc_old hb)
 have hty := run_eql_iface_types (P := Tryz.prog) 201 219 (.agg #[.int .i64 p, .iface 219 (.pointer (some a))]) (.pointer (some b)) Tryz.underlying179 (by decide) w
 clear ha hb hne
 go_enter Tryz.func182, Tryz.ntmps182
 go_wp2
 refine wp_loop_rounds 2 ?_
 rw [rounds_succ]
 go_wp2
 rw [rounds_succ]
 go_wp2
 go_ret
 exact ⟨rfl, (Below.refl _ _).alloc (Nat.le_refl _) _⟩
end Go.Proofs.YtpmgndgkmffcnaaGreatDoor
