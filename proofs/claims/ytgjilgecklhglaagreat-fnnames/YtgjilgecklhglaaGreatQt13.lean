/- Cursor CurNew CurOnce Fix CurTx CurDk KdBox KdName KdCut -/
import Derived.Test.YtgjilgecklhglaaGreatRows
import Derived.Test.YtgjilgecklhglaaGreatQt0
import Derived.WalkKit
import Derived.ProofKit
import Derived.OpenShut
import Derived.Below
import Derived.Handy
import Derived.WalkLawsBesides
import Derived.Outline
import Derived.BigQuiet
import Derived.Deep.QuietTactic
import Derived.Deep.OwnRows
import Derived.Deep.RegionHeld3
import Derived.Test.YtgjilgecklhglaaGreatQt11
import Derived.Test.YtgjilgecklhglaaGreatQt1
import Derived.Deep.RegionWith
import Derived.Test.YtgjilgecklhglaaGreatQt4
import Derived.Lib.OwnKind
import Derived.Deep.Cut
import Derived.Deep.CutRange
import Derived.Deep.CutBlock
import Derived.Test.YtgjilgecklhglaaGreatQt3
namespace Go.Proofs.YtgjilgecklhglaaGreat
open Go.ChangeShapes Go.WideShapes Go.ChangeAt Go.RowKit Go.PlainAid
set_option linter.unusedVariables false
set_option maxHeartbeats 1000000 in
theorem byte_in (w : World) (p : Nat) (cb co len cap : Nat) (c i : Nat) (h : Int) (hc : Cur 105 w p (some ⟨cb, co, none⟩) len cap i h) (hcb : cb < p) (hi : i < len) (hl : len ≤ 1048576) (hc255 : c < 256)
  (hcell : w.cell? ⟨cb, co + i, none⟩ = some (.int .u8 (c : Int))) :
  Calls Tryz.prog 63 #[.pointer (some ⟨p, 0, none⟩)] w fun e w' => e = .returned (.int .i64 (bits .and .i64 (curX (curH h) + (c : Int)) 255)) ∧ Cur 105 w' p (some ⟨cb, co, none⟩) len cap (i + 1) (curH h) ∧ Mod w.heap.size p w w' := by
 have c0 := hc.c0
 have c1 := hc.c1
 have c2 := hc.c2
 have f1 := hc.free 1
 have f2 := hc.free 2
 have q1 : (i : Int) < (len : Int) := by omega
 have q2 : (len : Int) ≤ 1048576 := by omega
 go_enter Tryz.func63, Tryz.ntmps63
 go_wp2
 have eH : wrap64 (wrap64 (h * 6364136223846793005) + 1442695040888963407) = curH h := rfl
 rw [eH]
 have hc1 := hc.set2 (curH h)
 have hm1 : Mod w.heap.size p w (w.setCell ⟨p, 2, none⟩ (.int .i64 (curH h))) := (Mod.refl _ _ _).setCell _
 have hcell1 : (w.setCell ⟨p, 2, none⟩ (.int .i64 (curH h))).cell? ⟨cb, co + i, none⟩ = some (.int .u8 (c : Int)) := by
  rw [← hcell]
  exact World.cell?_of_block (w := w) (hm1.block cb (by have := hc.lt; omega) (by omega))
 generalize w.setCell ⟨p, 2, none⟩ (.int .i64 (curH h)) = w1 at *
 generalize hH : curH h = H at *
 have HH : Hid (curH h = H) := hH
 clear hH
 clear eH c0 c1 c2 f1 f2 hcell
 have c0 := hc1.c0
 have c1 := hc1.c1
 have c2 := hc1.c2
 have f1 := hc1.free 1
 have hx := curX_bd H
 obtain ⟨hx1, hx2⟩ := hx
 have eX : bits .and .i64 (bits .xor .i64 (H / 8589934592) (H / 35184372088832)) 255 = curX H := rfl
 go_quiet (fail)
 go_wp2
 go_quiet (fail)
 go_wp2
 go_quiet (fail)
 go_wp2
 go_ret
 have e1 : ((i : Int) + 1) = ((i + 1 : Nat) : Int) := by omega
 rw [HH.out, e1]
 exact ⟨rfl, (hc1.drewN _).set1 (i + 1), (hm1.drewN _).setCell _⟩
set_option maxHeartbeats 1000000 in
theorem byte_out (w : World) (p : Nat) (ao : Option Addr) (len cap : Nat) (i : Nat) (h : Int) (hc : Cur 105 w p ao len cap i h) (hi : len ≤ i) (hi2 : i ≤ 1048576) (hl : len ≤ 1048576) :
  Calls Tryz.prog 63 #[.pointer (some ⟨p, 0, none⟩)] w fun e w' => e = .returned (.int .i64 (curX (curH h))) ∧ Cur 105 w' p ao len cap i (curH h) ∧ Mod w.heap.size p w w' := by
 have c0 := hc.c0
 have c1 := hc.c1
 have c2 := hc.c2
 have f1 := hc.free 1
 have f2 := hc.free 2
 have q1 : (len : Int) ≤ (i : Int) := by omega
 have q2 : (len : Int) ≤ 1048576 := by omega
 have q3 : (i : Int) ≤ 1048576 := by omega
 go_enter Tryz.func63, Tryz.ntmps63
 go_wp2
 have eH : wrap64 (wrap64 (h * 6364136223846793005) + 1442695040888963407) = curH h := rfl
 rw [eH]
 have hc1 := hc.set2 (curH h)
 have hm1 : Mod w.heap.size p w (w.setCell ⟨p, 2, none⟩ (.int .i64 (curH h))) := (Mod.refl _ _ _).setCell _
 generalize w.setCell ⟨p, 2, none⟩ (.int .i64 (curH h)) = w1 at *
 generalize hH : curH h = H at *
 have HH : Hid (curH h = H) := hH
 clear hH
 clear eH c0 c1 c2 f1 f2
 have c0 := hc1.c0
 have c1 := hc1.c1
 have c2 := hc1.c2
 have f1 := hc1.free 1
 have hx := curX_bd H
 obtain ⟨hx1, hx2⟩ := hx
 have eX : bits .and .i64 (bits .xor .i64 (H / 8589934592) (H / 35184372088832)) 255 = curX H := rfl
 go_quiet (fail)
 go_wp2
 go_quiet (fail)
 go_wp2
 go_ret
 rw [HH.out]
 exact ⟨rfl, (hc1.drewN _).drewN _, (hm1.drewN _).drewN _⟩
def At (w : World) (p : Nat) (ao : Option Addr) (len cap : Nat) (cs : Nat → Nat) (s : Pos) : Prop := Cur 105 w p ao len cap s.i s.h ∧ CodeIs w p ao len cs ∧ len ≤ 1048576 ∧ s.i ≤ len
theorem At.lt {w : World} {p : Nat} {ao : Option Addr} {len cap : Nat} {cs : Nat → Nat} {s : Pos} (h : At w p ao len cap cs s) : p < w.heap.size := h.1.lt
theorem At.below {w w' : World} {B p : Nat} {ao : Option Addr} {len cap : Nat} {cs : Nat → Nat} {s : Pos} (h : At w p ao len cap cs s) (hb : Below B w w') (hp : p < B) : At w' p ao len cap cs s :=
 ⟨h.1.below hb hp, h.2.1.kept (Mod.of_below (p := p) hb) (by omega), h.2.2⟩
theorem byte_any (w : World) (p : Nat) (ao : Option Addr) (len cap : Nat) (cs : Nat → Nat) (s : Pos) (h : At w p ao len cap cs s) :
  Calls Tryz.prog 63 #[.pointer (some ⟨p, 0, none⟩)] w fun e w' => e = .returned (.int .i64 (byteV len cs s)) ∧ At w' p ao len cap cs (byteP len s) ∧ Mod w.heap.size p w w' := by
 have hlt := h.lt
 obtain ⟨h1, h2, h3, h4⟩ := h
 by_cases hi : s.i < len
 ·obtain ⟨cb, co, rfl, hcb, hc5, hcell⟩ := h2.at hi
  refine (byte_in w p cb co len cap (cs s.i) s.i s.h h1 hcb hi h3 hc5 hcell).mono ?_
  rintro e w' ⟨he, hc', hm⟩
  refine ⟨by rw [he, byteV, if_pos hi], ?_, hm⟩
  rw [byteP, if_pos hi]
  exact ⟨hc', h2.kept hm (by omega), h3, by show s.i + 1 ≤ len; omega⟩
 ·refine (byte_out w p ao len cap s.i s.h h1 (by omega) (by omega) h3).mono ?_
  rintro e w' ⟨he, hc', hm⟩
  refine ⟨by rw [he, byteV, if_neg hi], ?_, hm⟩
  rw [byteP, if_neg hi]
  exact ⟨hc', h2.kept hm (by omega), h3, h4⟩
def belowV (len : Nat) (cs : Nat → Nat) (n : Int) (s : Pos) : Int :=
 if n ≤ 0 then 0 else if n ≤ 256 then byteV len cs s % n
 else (byteV len cs s * 16777216 + byteV len cs (byteP len s) * 65536 + byteV len cs (byteP len (byteP len s)) * 256 + byteV len cs (byteP len (byteP len (byteP len s)))) % n
def belowP (len : Nat) (n : Int) (s : Pos) : Pos := if n ≤ 0 then s else if n ≤ 256 then byteP len s else byteP len (byteP len (byteP len (byteP len s)))
theorem belowV_bd (len : Nat) (cs : Nat → Nat) (n : Int) (s : Pos) : 0 ≤ belowV len cs n s ∧ (0 < n → belowV len cs n s < n) := by
 unfold belowV
 split
 ·exact ⟨by omega, fun h => by omega⟩
 ·split
  ·exact ⟨Int.emod_nonneg _ (by omega), fun h => Int.emod_lt_of_pos _ h⟩
  ·exact ⟨Int.emod_nonneg _ (by omega), fun h => Int.emod_lt_of_pos _ h⟩
set_option maxHeartbeats 1000000 in
theorem below_any (w : World) (p : Nat) (ao : Option Addr) (len cap : Nat) (cs : Nat → Nat) (s : Pos) (n : Int) (hn : n ≤ 9223372036854775807) (h : At w p ao len cap cs s) :
  Calls Tryz.prog 43 #[.pointer (some ⟨p, 0, none⟩), .int .i64 n] w fun e w' => e = .returned (.int .i64 (belowV len cs n s)) ∧ At w' p ao len cap cs (belowP len n s) ∧ Mod w.heap.size p w w' := by
 by_cases h0 : n ≤ 0
 ·have HV : Hid (belowV len cs n s = 0) := by show belowV len cs n s = 0; rw [belowV, if_pos h0]
  have HP : Hid (belowP len n s = s) := by show belowP len n s = s; rw [belowP, if_pos h0]
  have HA : Hid (At w p ao len cap cs s) := h
  clear h
  go_enter Tryz.func43, Tryz.ntmps43
  go_wp2_with fail
  go_ret
  rw [HV.out, HP.out]
  exact ⟨rfl, HA.out, Mod.refl _ _ _⟩
 ·by_cases h256 : n ≤ 256
  ·have HV : Hid (belowV len cs n s = byteV len cs s % n) := by show belowV len cs n s = _; rw [belowV, if_neg h0, if_pos h256]
   have HP : Hid (belowP len n s = byteP len s) := by show belowP len n s = _; rw [belowP, if_neg h0, if_pos h256]
   have HA : Hid (At w p ao len cap cs s) := h
   clear h
   have hb := byteV_bd len cs s
   obtain ⟨hb1, hb2⟩ := hb
   go_enter Tryz.func43, Tryz.ntmps43
   go_wp2_with fail
   refine (byte_any _ p ao len cap cs s HA.out).mono ?_
   rintro e w1 ⟨rfl, hA1, hm1⟩
   go_wp2_with fail
   go_ret
   rw [HV.out, HP.out]
   exact ⟨rfl, hA1, hm1⟩
  ·have HV : Hid (belowV len cs n s = (byteV len cs s * 16777216 + byteV len cs (byteP len s) * 65536 + byteV len cs (byteP len (byteP len s)) * 256 + byteV len cs (byteP len (byteP len (byteP len s)))) % n) := by
    show belowV len cs n s = _; rw [belowV, if_neg h0, if_neg h256]
   have HP : Hid (belowP len n s = byteP len (byteP len (byteP len (byteP len s)))) := by show belowP len n s = _; rw [belowP, if_neg h0, if_neg h256]
   have HA : Hid (At w p ao len cap cs s) := h
   clear h
   have hb := byteV_bd len cs s
   have hb' := byteV_bd len cs (byteP len s)
   have hb'' := byteV_bd len cs (byteP len (byteP len s))
   have hb3 := byteV_bd len cs (byteP len (byteP len (byteP len s)))
   obtain ⟨a1, a2⟩ := hb
   obtain ⟨a3, a4⟩ := hb'
   obtain ⟨a5, a6⟩ := hb''
   obtain ⟨a7, a8⟩ := hb3
   go_enter Tryz.func43, Tryz.ntmps43
   go_wp2_with fail
   refine (byte_any _ p ao len cap cs s HA.out).mono ?_
   rintro e w1 ⟨rfl, hA1, hm1⟩
   go_wp2_with fail
   refine (byte_any _ p ao len cap cs _ hA1).mono ?_
   rintro e w2 ⟨rfl, hA2, hm2⟩
   go_wp2_with fail
   refine (byte_any _ p ao len cap cs _ hA2).mono ?_
   rintro e w3 ⟨rfl, hA3, hm3⟩
   go_wp2_with fail
   refine (byte_any _ p ao len cap cs _ hA3).mono ?_
   rintro e w4 ⟨rfl, hA4, hm4⟩
   go_wp2_with fail
   go_ret
   rw [HV.out, HP.out]
   exact ⟨rfl, hA4, hm1.trans ((hm2.mono hm1.size).trans ((hm3.mono (Nat.le_trans hm1.size hm2.size)).trans (hm4.mono (Nat.le_trans hm1.size (Nat.le_trans hm2.size hm3.size)))))⟩
end Go.Proofs.YtgjilgecklhglaaGreat
namespace Go.Proofs.YtgjilgecklhglaaGreat
open Go.ChangeShapes Go.WideShapes Go.ChangeAt Go.RowKit Go.PlainAid
set_option linter.unusedVariables false
theorem and30 (x : Int) : 0 ≤ bits .and .i64 x 1073741823 ∧ bits .and .i64 x 1073741823 ≤ 1073741823 := by
 have e : bits .and .i64 x 1073741823 = IntKind.i64.wrap ((BitVec.ofInt 64 x &&& BitVec.ofInt 64 ((1073741823 : Nat) : Int)).toNat : Int) := rfl
 have m : ∀ y : Nat, y &&& 1073741823 = y % 1073741824 := fun y => Nat.and_two_pow_sub_one_eq_mod y 30
 rw [e, BitVec.toNat_and, ofInt_u64 1073741823 (by omega), m]
 have h : (BitVec.ofInt 64 x).toNat % 1073741824 < 1073741824 := Nat.mod_lt _ (by omega)
 rw [Lib.wrap_i64_small _ (by omega)]
 omega
def newH (len : Nat) (cs : Nat → Nat) : Nat → Int
 | 0 => 10101 + (len : Int)
 | k + 1 => bits .and .i64 (newH len cs k * 131 + (cs k : Int) + 7) 1073741823
theorem newH_bd (len : Nat) (cs : Nat → Nat) (hl : len ≤ 1048576) (k : Nat) : 0 ≤ newH len cs k ∧ newH len cs k ≤ 1073741823 := by
 cases k with
 | zero => simp only [newH]; omega
 | succ k => exact and30 _
def newP (len : Nat) (cs : Nat → Nat) : Pos := ⟨0, newH len cs (min len 4000)⟩
set_option maxHeartbeats 1000000 in
theorem new_some (w : World) (cb co len cap : Nat) (cs : Nat → Nat) (hl : len ≤ 1048576) (hc : ∀ j, j < len → cs j < 256 ∧ w.cell? ⟨cb, co + j, none⟩ = some (.int .u8 (cs j : Int))) :
  Calls Tryz.prog 36 #[.slice (some ⟨cb, co, none⟩) len cap] w fun e w' => e = .returned (.pointer (some ⟨w.heap.size, 0, none⟩)) ∧ w' = w.alloc (.cells #[.slice (some ⟨cb, co, none⟩) len cap, .int .i64 0, .int .i64 (newH len cs (min len 4000))] 105) := by
 have q1 : (len : Int) ≤ 1048576 := by omega
 have HC : Hid (∀ j, j < len → cs j < 256 ∧ w.cell? ⟨cb, co + j, none⟩ = some (.int .u8 (cs j : Int))) := hc
 clear hc
 go_enter Tryz.func36, Tryz.ntmps36
 go_wp2
 go_loop [3, 4] (fun v3 v4 => ∃ k : Nat, k ≤ len ∧ k ≤ 4000 ∧ v4 = .int .i64 k ∧ v3 = .int .i64 (newH len cs k)) (fun _ i => 4000 - (intOf i).toNat)
 case atStart => exact ⟨0, by omega, by omega, rfl, rfl⟩
 case round =>
  obtain ⟨k, hk, hk4, rfl, rfl⟩ := hrel
  have hb := newH_bd len cs hl k
  obtain ⟨hb1, hb2⟩ := hb
  by_cases hlt : (k : Int) < (len : Int)
  ·by_cases h4 : (k : Int) < 4000
   ·have hck := HC.out k (by omega)
    obtain ⟨hck1, hck2⟩ := hck
    go_wp2
    go_round
    case rel => exact ⟨k + 1, by omega, by omega, by go_num, rfl⟩
    case measure => simp [intOf]; omega
   ·have z : decide ((k : Int) < 4000) = false := by simp; omega
    have hkk : min len 4000 = k := by omega
    have HK : Hid (min len 4000 = k) := hkk
    clear hkk
    go_wp2
    go_ret
    exact ⟨rfl, by rw [HK.out]⟩
  ·have z : (len : Int) ≤ (k : Int) := by omega
   have hkk : min len 4000 = k := by omega
   have HK : Hid (min len 4000 = k) := hkk
   clear hkk
   go_wp2
   go_ret
   exact ⟨rfl, by rw [HK.out]⟩
set_option maxHeartbeats 1000000 in
theorem new_nil (w : World) (ao : Option Addr) (cap : Nat) (cs : Nat → Nat) :
  Calls Tryz.prog 36 #[.slice ao 0 cap] w fun e w' => e = .returned (.pointer (some ⟨w.heap.size, 0, none⟩)) ∧ w' = w.alloc (.cells #[.slice ao 0 cap, .int .i64 0, .int .i64 (newH 0 cs (min 0 4000))] 105) := by
 go_enter Tryz.func36, Tryz.ntmps36
 go_wp2
 refine wp_loop_rounds 1 ?_
 rw [rounds_succ]
 go_wp2
 go_ret
 exact ⟨rfl, rfl⟩
theorem new_any (w : World) (ao : Option Addr) (len cap : Nat) (cs : Nat → Nat) (hl : len ≤ 1048576) (h : CodeIs w w.heap.size ao len cs) :
  Calls Tryz.prog 36 #[.slice ao len cap] w fun e w' => e = .returned (.pointer (some ⟨w.heap.size, 0, none⟩)) ∧ At w' w.heap.size ao len cap cs (newP len cs) ∧ Below w.heap.size w w' := by
 have fin : ∀ (e : Ending) (w' : World), (e = .returned (.pointer (some ⟨w.heap.size, 0, none⟩)) ∧ w' = w.alloc (.cells #[.slice ao len cap, .int .i64 0, .int .i64 (newH len cs (min len 4000))] 105)) → e = .returned (.pointer (some ⟨w.heap.size, 0, none⟩)) ∧ At w' w.heap.size ao len cap cs (newP len cs) ∧ Below w.heap.size w w' := by
  rintro e w' ⟨he, rfl⟩
  have hb : Below w.heap.size w (w.alloc (.cells #[.slice ao len cap, .int .i64 0, .int .i64 (newH len cs (min len 4000))] 105)) := (Below.refl _ _).alloc (Nat.le_refl _) _
  refine ⟨he, ⟨heap_alloc_new w _, h.kept (Mod.of_below (p := w.heap.size) hb) (Nat.le_refl _), hl, Nat.zero_le _⟩, hb⟩
 have h' := h
 rcases h with rfl | ⟨cb, co, rfl, hcb, hj⟩
 ·exact (new_nil w ao cap cs).mono fin
 ·exact (new_some w cb co len cap cs hl hj).mono fin
end Go.Proofs.YtgjilgecklhglaaGreat
namespace Go.Proofs.YtgjilgecklhglaaGreat
open Go.ChangeShapes Go.WideShapes Go.ChangeAt Go.RowKit Go.PlainAid
set_option linter.unusedVariables false
set_option maxHeartbeats 400000 in
theorem once_any (w : World) (p : Nat) (ao : Option Addr) (len cap : Nat) (cs : Nat → Nat) (s : Pos) (n : Int) (hn : n ≤ 9223372036854775807) (h : At w p ao len cap cs s) :
  Calls Tryz.prog 71 #[.pointer (some ⟨p, 0, none⟩), .int .i64 n] w fun e w' => e = .returned (.bool (belowV len cs n s == 0)) ∧ At w' p ao len cap cs (belowP len n s) ∧ Mod w.heap.size p w w' := by
 have HA : Hid (At w p ao len cap cs s) := h
 clear h
 go_enter Tryz.func71, Tryz.ntmps71
 go_wp2_with fail
 refine (below_any _ p ao len cap cs s n hn HA.out).mono ?_
 rintro e w1 ⟨rfl, hA1, hm1⟩
 go_wp2_with fail
 go_ret
 exact ⟨rfl, hA1, hm1⟩
end Go.Proofs.YtgjilgecklhglaaGreat
namespace Go.Proofs.YtgjilgecklhglaaGreat
open Go.ChangeShapes Go.WideShapes Go.ChangeAt Go.RowKit Go.PlainAid
set_option linter.unusedVariables false
theorem Tryz.info5 : (Tryz.prog.info? 5).map (fun i => (i.zero, i.size, i.bytes)) = some (some (.int .u8 0), 1, 1) := by kernel_rfl
end Go.Proofs.YtgjilgecklhglaaGreat
namespace Go.Proofs.YtgjilgecklhglaaGreat
open Go.ChangeShapes Go.WideShapes Go.ChangeAt Go.RowKit Go.PlainAid
set_option linter.unusedVariables false
theorem Buf.mod {w w' : World} {B C p : Nat} {v : Value} {l : List UInt8} (h : Buf w B v l) (hm : Mod C p w w') (hp : p < B) (hC : w.heap.size ≤ C) : Buf w' B v l := by
 obtain ⟨h1, h2⟩ := h
 refine ⟨h1, ?_⟩
 rcases h2 with h2 | ⟨g, cap, cur, hv, hg, hh, r⟩
 ·exact .inl h2
 ·refine .inr ⟨g, cap, cur, hv, hg, ?_, r⟩
  rw [hm.block g (by have := lt_of_block hh; omega) (by omega), hh]
def posN (len : Nat) : Nat → Pos → Pos
 | 0, s => s
 | k + 1, s => byteP len (posN len k s)
def txB (style x : Int) : Int := if style = 1 then x % 2 else if style = 2 then 97 + x % 4 else x
def txL (len : Nat) (cs : Nat → Nat) (style : Int) (s : Pos) : Nat → List UInt8
 | 0 => []
 | k + 1 => txL len cs style s k ++ [byt (txB style (byteV len cs (posN len k s))).toNat]
theorem txL_length (len : Nat) (cs : Nat → Nat) (style : Int) (s : Pos) (k : Nat) : (txL len cs style s k).length = k := by
 induction k with
 | zero => rfl
 | succ k ih => simp [txL, ih]
def textV (len : Nat) (cs : Nat → Nat) (most : Int) (s : Pos) : List UInt8 := txL len cs (belowV len cs 4 s) (belowP len (most + 1) (belowP len 4 s)) (belowV len cs (most + 1) (belowP len 4 s)).toNat
def textP (len : Nat) (cs : Nat → Nat) (most : Int) (s : Pos) : Pos := posN len (belowV len cs (most + 1) (belowP len 4 s)).toNat (belowP len (most + 1) (belowP len 4 s))
theorem textV_length (len : Nat) (cs : Nat → Nat) (most : Int) (s : Pos) (h : 0 ≤ most) : ((textV len cs most s).length : Int) ≤ most := by
 unfold textV
 rw [txL_length]
 have hb := belowV_bd len cs (most + 1) (belowP len 4 s)
 have := hb.2 (by omega)
 omega
set_option maxHeartbeats 2000000 in
theorem text_any (w : World) (p : Nat) (ao : Option Addr) (len cap : Nat) (cs : Nat → Nat) (s : Pos) (most : Int) (hm0 : 0 ≤ most) (hm1 : most ≤ 1000) (h : At w p ao len cap cs s) :
  Calls Tryz.prog 37 #[.pointer (some ⟨p, 0, none⟩), .int .i64 most] w fun e w' => e = .returned (.string (txt (textV len cs most s))) ∧ At w' p ao len cap cs (textP len cs most s) ∧ Mod w.heap.size p w w' := by
 have HA : Hid (At w p ao len cap cs s) := h
 have hlt := h.lt
 clear h
 have hb := belowV_bd len cs (most + 1) (belowP len 4 s)
 have HV : Hid (textV len cs most s = txL len cs (belowV len cs 4 s) (belowP len (most + 1) (belowP len 4 s)) (belowV len cs (most + 1) (belowP len 4 s)).toNat) := rfl
 have HP : Hid (textP len cs most s = posN len (belowV len cs (most + 1) (belowP len 4 s)).toNat (belowP len (most + 1) (belowP len 4 s))) := rfl
 go_enter Tryz.func37, Tryz.ntmps37
 go_wp2_with fail
 have hal : Below w.heap.size w (w.alloc (.cells #[] 5)) := (Below.refl _ _).alloc (Nat.le_refl _) _
 refine (below_any _ p ao len cap cs s 4 (by omega) (HA.out.below hal hlt)).mono ?_
 rintro e w1 ⟨rfl, hA1, hmd1⟩
 have hbuf1 : Buf w1 w.heap.size (.slice (some ⟨w.heap.size, 0, none⟩) 0 0) [] := (Buf.made w w.heap.size 0 #[] (Nat.le_refl _) (by simp [maxLen]) rfl).mod hmd1 hlt (Nat.le_refl _)
 have hM1 : Mod w.heap.size p w w1 := (Mod.of_below hal).trans (hmd1.mono (by simp))
 clear hmd1 hal
 go_wp2_with fail
 refine (below_any _ p ao len cap cs _ (most + 1) (by omega) hA1).mono ?_
 rintro e w2 ⟨rfl, hA2, hmd2⟩
 have hbuf2 := hbuf1.mod hmd2 hlt (Nat.le_refl _)
 have hM2 : Mod w.heap.size p w w2 := hM1.trans (hmd2.mono hM1.size)
 clear hmd2 hM1 hbuf1 hA1
 generalize hS : belowV len cs 4 s = style at *
 generalize hQ : belowP len (most + 1) (belowP len 4 s) = s2 at *
 generalize hN : belowV len cs (most + 1) (belowP len 4 s) = NN at *
 obtain ⟨N, rfl⟩ := Int.eq_ofNat_of_zero_le hb.1
 have hN2 : (N : Int) ≤ 1000 := by have := hb.2 (by omega); omega
 clear hb hS hQ hN
 rw [Int.toNat_natCast] at HV HP
 go_wp2_with fail
 go_loopw [5, 7] (fun v5 v7 wr => ∃ k : Nat, k ≤ N ∧ v7 = .int .i64 ((N : Int) - (k : Int)) ∧ Buf wr w.heap.size v5 (txL len cs style s2 k) ∧ At wr p ao len cap cs (posN len k s2) ∧ Mod w.heap.size p w wr) (fun _ i _ => (intOf i).toNat)
 case atStart => exact ⟨0, by omega, by go_num, hbuf2, hA2, hM2⟩
 case round =>
  obtain ⟨k, hk, rfl, hbuf, hAt, hM⟩ := hrel
  have HAt : Hid (At wr p ao len cap cs (posN len k s2)) := hAt
  clear hAt hA2 hM2 hbuf2
  by_cases hkN : k < N
  ·obtain ⟨X, hX⟩ : ∃ X, byteV len cs (posN len k s2) = X := ⟨_, rfl⟩
   have hxb := byteV_bd len cs (posN len k s2)
   rw [hX] at hxb
   obtain ⟨x1, x2⟩ := hxb
   have HX : Hid (byteV len cs (posN len k s2) = X) := hX
   clear hX
   by_cases st1 : style = 1
   ·have st2 : ¬ style = 2 := by omega
    have z1 : (style == 1) = true := by simpa using st1
    have z2 : (style == 2) = false := by simpa using st2
    have HT : Hid (txB style X = X % 2) := by show txB style X = _; rw [txB, if_pos st1]
    have HC : Hid (#[Value.int .u8 (X % 2)] = byteCells [byt (txB style X).toNat]) := one_cell _ _ (by rw [HT.out]; omega) (by rw [HT.out]; omega)
    clear st1 st2
    go_wp2_with fail
    refine (byte_any _ p ao len cap cs _ HAt.out).mono ?_
    rintro e w3 ⟨rfl, hA3, hmd3⟩
    rw [HX.out]
    have hbuf3 := hbuf.mod hmd3 hlt (Nat.le_refl _)
    have hM3 : Mod w.heap.size p w w3 := hM.trans (hmd3.mono hM.size)
    have hsz := hM3.size
    clear hmd3 hbuf
    go_wp2_with (at_builtin; refine wpList_append_bytes rfl (.tmp 31) (.tmp 34) 22 rfl Tryz.underlying22 Tryz.info5 w.heap.size _ (txL len cs style s2 k) rfl hbuf3 _ [byt (txB style X).toNat] HC.out 1 1 rfl rfl (by rw [txL_length]; simp; omega) hsz ?_; intro v' w4 hbuf4 hb4)
    have hA4 := hA3.below hb4 hlt
    have hM4 : Mod w.heap.size p w w4 := hM3.trans (Mod.of_below hb4)
    go_roundw
    case rel => exact ⟨k + 1, by omega, by go_num, by rw [txL, HX.out]; exact hbuf4, hA4, hM4⟩
    case measure => simp [intOf]; omega
   ·by_cases st2 : style = 2
    ·have z1 : (style == 1) = false := by simpa using st1
     have z2 : (style == 2) = true := by simpa using st2
     have HT : Hid (txB style X = 97 + X % 4) := by show txB style X = _; rw [txB, if_neg st1, if_pos st2]
     have HC : Hid (#[Value.int .u8 (97 + X % 4)] = byteCells [byt (txB style X).toNat]) := one_cell _ _ (by rw [HT.out]; omega) (by rw [HT.out]; omega)
     clear st1 st2
     go_wp2_with fail
     refine (byte_any _ p ao len cap cs _ HAt.out).mono ?_
     rintro e w3 ⟨rfl, hA3, hmd3⟩
     rw [HX.out]
     have hbuf3 := hbuf.mod hmd3 hlt (Nat.le_refl _)
     have hM3 : Mod w.heap.size p w w3 := hM.trans (hmd3.mono hM.size)
     have hsz := hM3.size
     clear hmd3 hbuf
     go_wp2_with (at_builtin; refine wpList_append_bytes rfl (.tmp 31) (.tmp 34) 22 rfl Tryz.underlying22 Tryz.info5 w.heap.size _ (txL len cs style s2 k) rfl hbuf3 _ [byt (txB style X).toNat] HC.out 1 1 rfl rfl (by rw [txL_length]; simp; omega) hsz ?_; intro v' w4 hbuf4 hb4)
     have hA4 := hA3.below hb4 hlt
     have hM4 : Mod w.heap.size p w w4 := hM3.trans (Mod.of_below hb4)
     go_roundw
     case rel => exact ⟨k + 1, by omega, by go_num, by rw [txL, HX.out]; exact hbuf4, hA4, hM4⟩
     case measure => simp [intOf]; omega
    ·have z1 : (style == 1) = false := by simpa using st1
     have z2 : (style == 2) = false := by simpa using st2
     have HT : Hid (txB style X = X) := by show txB style X = _; rw [txB, if_neg st1, if_neg st2]
     have HC : Hid (#[Value.int .u8 (X)] = byteCells [byt (txB style X).toNat]) := one_cell _ _ (by rw [HT.out]; omega) (by rw [HT.out]; omega)
     clear st1 st2
     go_wp2_with fail
     refine (byte_any _ p ao len cap cs _ HAt.out).mono ?_
     rintro e w3 ⟨rfl, hA3, hmd3⟩
     rw [HX.out]
     have hbuf3 := hbuf.mod hmd3 hlt (Nat.le_refl _)
     have hM3 : Mod w.heap.size p w w3 := hM.trans (hmd3.mono hM.size)
     have hsz := hM3.size
     clear hmd3 hbuf
     go_wp2_with (at_builtin; refine wpList_append_bytes rfl (.tmp 31) (.tmp 34) 22 rfl Tryz.underlying22 Tryz.info5 w.heap.size _ (txL len cs style s2 k) rfl hbuf3 _ [byt (txB style X).toNat] HC.out 1 1 rfl rfl (by rw [txL_length]; simp; omega) hsz ?_; intro v' w4 hbuf4 hb4)
     have hA4 := hA3.below hb4 hlt
     have hM4 : Mod w.heap.size p w w4 := hM3.trans (Mod.of_below hb4)
     go_roundw
     case rel => exact ⟨k + 1, by omega, by go_num, by rw [txL, HX.out]; exact hbuf4, hA4, hM4⟩
     case measure => simp [intOf]; omega
  ·have hkk : k = N := by omega
   have HK : Hid (k = N) := hkk
   have z : (N : Int) - (k : Int) ≤ 0 := by omega
   clear hkk
   have hcv := hbuf.string (P := Tryz.prog) 22 9 Tryz.underlying22 Tryz.underlying5 Tryz.underlying9
   go_wp2_with fail
   go_ret
   rw [HV.out, HP.out, ← HK.out]
   exact ⟨rfl, HAt.out, hM⟩
end Go.Proofs.YtgjilgecklhglaaGreat
namespace Go.Proofs.YtgjilgecklhglaaGreat
open Go.ChangeShapes Go.WideShapes Go.ChangeAt Go.RowKit Go.PlainAid
set_option linter.unusedVariables false
theorem CodeIs.on {w w' : World} {ao : Option Addr} {len : Nat} {cs : Nat → Nat} (h : CodeIs w w.heap.size ao len cs) (hb : Below w.heap.size w w') : CodeIs w' w'.heap.size ao len cs := by
 rcases h with h | ⟨cb, co, rfl, hcb, hj⟩
 ·exact .inl h
 ·exact .inr ⟨cb, co, rfl, Nat.lt_of_lt_of_le hcb hb.size, fun j hj' => ⟨(hj j hj').1, by rw [← (hj j hj').2]; exact World.cell?_of_block (w := w) (hb.block cb hcb)⟩⟩
set_option maxHeartbeats 400000 in
theorem big_no (w : World) (ao : Option Addr) (len cap : Nat) (hl : len ≤ 1048576) : Calls Tryz.prog 6 #[.slice ao len cap] w fun e w' => e = .returned (.bool false) ∧ w = w' := by
 have q : (len : Int) ≤ 1048576 := by omega
 have q2 : decide ((1048576 : Int) < (len : Int)) = false := by simp; omega
 go_enter Tryz.func6, Tryz.ntmps6
 go_wp2
 go_ret
 exact ⟨rfl, rfl⟩
set_option maxHeartbeats 400000 in
theorem big_yes (w : World) (ao : Option Addr) (len cap : Nat) (hl : 1048576 < len) (h2 : len ≤ 9223372036854775807) : Calls Tryz.prog 6 #[.slice ao len cap] w fun e w' => e = .returned (.bool true) ∧ w = w' := by
 have q : (1048576 : Int) < (len : Int) := by omega
 go_enter Tryz.func6, Tryz.ntmps6
 go_wp2
 go_ret
 exact ⟨rfl, rfl⟩
set_option maxHeartbeats 1000000 in
theorem pick_any (w : World) (p : Nat) (ao : Option Addr) (len cap : Nat) (cs : Nat → Nat) (s : Pos) (g : Nat) (xs : List Int) (hn : 0 < xs.length) (hn2 : xs.length ≤ 1000) (h : At w p ao len cap cs s) (hgp : g ≠ p) (hg : g < w.heap.size)
  (hcell : ∀ j, j < xs.length → w.cell? ⟨g, j, none⟩ = some (.int .i64 (xs.getD j 0))) :
  Calls Tryz.prog 66 #[.pointer (some ⟨p, 0, none⟩), .slice (some ⟨g, 0, none⟩) xs.length xs.length] w fun e w' =>
   e = .returned (.int .i64 (xs.getD (belowV len cs (xs.length : Int) s).toNat 0)) ∧ At w' p ao len cap cs (belowP len (xs.length : Int) s) ∧ Mod w.heap.size p w w' := by
 have HA : Hid (At w p ao len cap cs s) := h
 clear h
 have HC : Hid (∀ j, j < xs.length → w.cell? ⟨g, j, none⟩ = some (.int .i64 (xs.getD j 0))) := hcell
 clear hcell
 have hb := belowV_bd len cs (xs.length : Int) s
 have q0 : (xs.length : Int) ≤ 1000 := by omega
 go_enter Tryz.func66, Tryz.ntmps66
 go_wp2_with fail
 refine (below_any _ p ao len cap cs s (xs.length : Int) (by omega) HA.out).mono ?_
 rintro e w1 ⟨rfl, hA1, hm1⟩
 obtain ⟨k, hk⟩ := Int.eq_ofNat_of_zero_le hb.1
 have hk2 : k < xs.length := by have := hb.2 (by omega); omega
 have HB : Hid (belowV len cs (xs.length : Int) s = (k : Int)) := hk
 rw [hk]
 clear hk hb
 have hc1 : w1.cell? ⟨g, k, none⟩ = some (.int .i64 (xs.getD k 0)) := by
  rw [← HC.out k hk2]
  exact World.cell?_of_block (w := w) (hm1.block g hg hgp)
 have q1 : (k : Int) < (xs.length : Int) := by omega
 go_wp2_with fail
 go_ret
 have ev : xs.getD ((k : Int)).toNat 0 = xs[k] := by simp [hk2]
 rw [HB.out, ev]
 exact ⟨rfl, hA1, hm1⟩
def AtS (w : World) (p : Nat) : Prop := ∃ ao len cap cs s, At w p ao len cap cs s
theorem AtS.lt {w : World} {p : Nat} (h : AtS w p) : p < w.heap.size := by obtain ⟨_, _, _, _, _, h⟩ := h; exact h.lt
theorem AtS.below {w w' : World} {B p : Nat} (h : AtS w p) (hb : Below B w w') (hp : p < B) : AtS w' p := by
 obtain ⟨ao, len, cap, cs, s, h⟩ := h
 exact ⟨ao, len, cap, cs, s, h.below hb hp⟩
theorem Blk.mod {w w' : World} {C p g : Nat} {cs : Array Value} {t : TypeId} (h : Blk w g cs t) (hm : Mod C p w w') (hg : g < C) (hp : g ≠ p) : Blk w' g cs t := by
 unfold Blk
 rw [hm.block g hg hp]
 exact h
theorem once_some (w : World) (p : Nat) (n : Int) (h1 : n ≤ 1000) (h : AtS w p) :
  Calls Tryz.prog 71 #[.pointer (some ⟨p, 0, none⟩), .int .i64 n] w fun e w' => ∃ b : Bool, e = .returned (.bool b) ∧ AtS w' p ∧ Mod w.heap.size p w w' := by
 obtain ⟨ao, len, cap, cs, s, h⟩ := h
 exact (once_any w p ao len cap cs s n (by omega) h).mono fun e w' k => ⟨_, k.1, ⟨_, _, _, _, _, k.2.1⟩, k.2.2⟩
theorem Nums.mod {w w' : World} {C p base : Nat} {v : Value} {l : List Int} (h : Nums w base v l) (hm : Mod C p w w') (hp : p < base) (hC : w.heap.size ≤ C) : Nums w' base v l :=
 h.kept fun g hg ho => hm.block g (Nat.lt_of_lt_of_le hg hC) (by have := (h.lt g ho).1; omega)
theorem belowS (w : World) (p : Nat) (n : Int) (h0 : 0 < n) (h1 : n ≤ 1000000) (h : AtS w p) :
  Calls Tryz.prog 43 #[.pointer (some ⟨p, 0, none⟩), .int .i64 n] w fun e w' => ∃ v : Int, e = .returned (.int .i64 v) ∧ (0 ≤ v ∧ v < n) ∧ AtS w' p ∧ Mod w.heap.size p w w' := by
 obtain ⟨ao, len, cap, cs, s, h⟩ := h
 have bd := belowV_bd len cs n s
 exact (below_any w p ao len cap cs s n (by omega) h).mono fun e w' k => ⟨_, k.1, ⟨bd.1, bd.2 h0⟩, ⟨_, _, _, _, _, k.2.1⟩, k.2.2⟩
theorem getD_all (xs : List Int) (P : Int → Prop) (h0 : P 0) (h : ∀ z ∈ xs, P z) (j : Nat) : P (xs.getD j 0) := by
 by_cases hj : j < xs.length
 ·refine h _ ?_
  simp [List.getD, hj]
 ·simpa [List.getD, hj] using h0
theorem pickS (w : World) (p g : Nat) (xs : List Int) (n : Nat) (hn : xs.length = n) (h0 : 0 < n) (h1 : n ≤ 1000) (P : Int → Prop) (hP0 : P 0) (hP : ∀ z ∈ xs, P z) (h : AtS w p) (hgp : g ≠ p) (hB : Blk w g (numCells xs).toArray 3) :
  Calls Tryz.prog 66 #[.pointer (some ⟨p, 0, none⟩), .slice (some ⟨g, 0, none⟩) n n] w fun e w' => ∃ v : Int, e = .returned (.int .i64 v) ∧ P v ∧ AtS w' p ∧ Mod w.heap.size p w w' := by
 obtain ⟨ao, len, cap, cs, s, h⟩ := h
 subst hn
 refine (pick_any w p ao len cap cs s g xs h0 h1 h hgp hB.lt ?_).mono fun e w' k => ⟨_, k.1, getD_all xs P hP0 hP _, ⟨_, _, _, _, _, k.2.1⟩, k.2.2⟩
 intro j hj
 refine hB.cell _ _ ?_
 simp [numCells, hj]
theorem Owns.mod {w w' : World} {C p base : Nat} {e : TypeId} {sz : Nat} {v : Value} {rows : List (List Value)} (h : Owns w base e sz v rows) (hm : Mod C p w w') (hp : p < base) (hC : w.heap.size ≤ C) : Owns w' base e sz v rows :=
 h.kept fun g hg ho => hm.block g (Nat.lt_of_lt_of_le hg hC) (by have := (h.lt g ho).1; omega)
set_option maxHeartbeats 400000 in
theorem size_any (w : World) (ao : Option Addr) (len cap : Nat) (most : Nat) (hl : len ≤ 1048576) (h1 : 2 ≤ most) (h2 : most ≤ 500) :
  Calls Tryz.prog 45 #[.slice ao len cap, .int .i64 (most : Int)] w fun e w' => (∃ v : Int, e = .returned (.int .i64 v) ∧ 1 ≤ v ∧ v ≤ 500) ∧ w = w' := by
 have q1 : (len : Int) ≤ 1048576 := by omega
 have q2 : (most : Int) ≤ 500 := by omega
 by_cases hc : (most : Int) < 2 + (len : Int) / 20
 ·go_enter Tryz.func45, Tryz.ntmps45
  go_wp2_with fail
  go_ret
  exact ⟨⟨_, rfl, by omega, by omega⟩, rfl⟩
 ·go_enter Tryz.func45, Tryz.ntmps45
  go_wp2_with fail
  go_ret
  exact ⟨⟨2 + (len : Int) / 20, by go_num, by omega, by omega⟩, rfl⟩
theorem text_some (w : World) (p : Nat) (n : Int) (h0 : 0 ≤ n) (h1 : n ≤ 1000) (h : AtS w p) :
  Calls Tryz.prog 37 #[.pointer (some ⟨p, 0, none⟩), .int .i64 n] w fun e w' => ∃ d : ByteArray, e = .returned (.string d) ∧ d.size ≤ 1000 ∧ AtS w' p ∧ Mod w.heap.size p w w' := by
 obtain ⟨ao, len, cap, cs, s, h⟩ := h
 have hl := textV_length len cs n s h0
 exact (text_any w p ao len cap cs s n h0 h1 h).mono fun e w' k => ⟨_, k.1, by rw [txt_size]; omega, ⟨_, _, _, _, _, k.2.1⟩, k.2.2⟩
end Go.Proofs.YtgjilgecklhglaaGreat
namespace Go.Proofs.YtgjilgecklhglaaGreat
open Go.ChangeShapes Go.WideShapes Go.ChangeAt Go.RowKit Go.PlainAid
set_option linter.unusedVariables false
structure BxD (w : World) (p g r : Nat) (T : TypeId) (wc : World) (Z cs : Array Value) : Prop where
 box : Blk wc g cs T
 res : Blk wc r Z T
 a : AtS wc p
 m : Mod w.heap.size p w wc
 hp : p < w.heap.size
 hg : w.heap.size ≤ g
 hr : w.heap.size ≤ r
 ne : g ≠ r
section
variable {w wc w' : World} {p g r : Nat} {T : TypeId} {Z cs : Array Value}
theorem BxD.draw (S : BxD w p g r T wc Z cs) (hA : AtS w' p) (hm : Mod wc.heap.size p wc w') : BxD w p g r T w' Z cs :=
 ⟨S.box.mod hm S.box.lt (by have := S.hp; have := S.hg; omega), S.res.mod hm S.res.lt (by have := S.hp; have := S.hr; omega), hA, S.m.trans (hm.mono S.m.size), S.hp, S.hg, S.hr, S.ne⟩
theorem BxD.below (S : BxD w p g r T wc Z cs) (hb : Below wc.heap.size wc w') : BxD w p g r T w' Z cs := S.draw (S.a.below hb S.a.lt) (Mod.of_below hb)
theorem BxD.alloc (S : BxD w p g r T wc Z cs) (o : Obj) : BxD w p g r T (wc.alloc o) Z cs := S.below ((Below.refl _ _).alloc (Nat.le_refl _) _)
theorem BxD.set (S : BxD w p g r T wc Z cs) (k : Nat) (v : Value) : BxD w p g r T (wc.setCell ⟨g, k, none⟩ v) Z (cs.setIfInBounds k v) := by
 have hb : Below g wc (wc.setCell ⟨g, k, none⟩ v) := (Below.refl g wc).setCell (Nat.le_refl _) v
 exact ⟨S.box.set k v, S.res.other (fun e => S.ne e.symm) k v, S.a.below hb (Nat.lt_of_lt_of_le S.hp S.hg), S.m.trans (Mod.of_below (hb.mono S.hg)), S.hp, S.hg, S.hr, S.ne⟩
theorem BxD.setR (S : BxD w p g r T wc Z cs) (k : Nat) (v : Value) : BxD w p g r T (wc.setCell ⟨r, k, none⟩ v) (Z.setIfInBounds k v) cs := by
 have hb : Below r wc (wc.setCell ⟨r, k, none⟩ v) := (Below.refl r wc).setCell (Nat.le_refl _) v
 exact ⟨S.box.other S.ne k v, S.res.set k v, S.a.below hb (Nat.lt_of_lt_of_le S.hp S.hr), S.m.trans (Mod.of_below (hb.mono S.hr)), S.hp, S.hg, S.hr, S.ne⟩
end
structure RsD (w : World) (p r : Nat) (T : TypeId) (wc : World) (Z : Array Value) : Prop where
 res : Blk wc r Z T
 a : AtS wc p
 m : Mod w.heap.size p w wc
 hp : p < w.heap.size
 hr : w.heap.size ≤ r
section
variable {w wc w' : World} {p r : Nat} {T : TypeId} {Z : Array Value}
theorem RsD.start (h : AtS w p) (Z : Array Value) (T : TypeId) : RsD w p w.heap.size T (w.alloc (.cells Z T)) Z := by
 have hal : Below w.heap.size w (w.alloc (.cells Z T)) := (Below.refl _ _).alloc (Nat.le_refl _) _
 exact ⟨Blk.new w _ _, h.below hal h.lt, Mod.of_below hal, h.lt, Nat.le_refl _⟩
theorem RsD.draw (S : RsD w p r T wc Z) (hA : AtS w' p) (hm : Mod wc.heap.size p wc w') : RsD w p r T w' Z :=
 ⟨S.res.mod hm S.res.lt (by have := S.hp; have := S.hr; omega), hA, S.m.trans (hm.mono S.m.size), S.hp, S.hr⟩
theorem RsD.below (S : RsD w p r T wc Z) (hb : Below wc.heap.size wc w') : RsD w p r T w' Z := S.draw (S.a.below hb S.a.lt) (Mod.of_below hb)
theorem RsD.alloc (S : RsD w p r T wc Z) (o : Obj) : RsD w p r T (wc.alloc o) Z := S.below ((Below.refl _ _).alloc (Nat.le_refl _) _)
theorem RsD.box (S : RsD w p r T wc Z) (cs : Array Value) : BxD w p wc.heap.size r T (wc.alloc (.cells cs T)) Z cs :=
 ⟨Blk.new wc _ _, S.res.alloc _, (S.alloc (.cells cs T)).a, (S.alloc (.cells cs T)).m, S.hp, S.m.size, S.hr, by have := S.res.lt; omega⟩
theorem RsD.setR (S : RsD w p r T wc Z) (k : Nat) (v : Value) : RsD w p r T (wc.setCell ⟨r, k, none⟩ v) (Z.setIfInBounds k v) := by
 have hb : Below r wc (wc.setCell ⟨r, k, none⟩ v) := (Below.refl r wc).setCell (Nat.le_refl _) v
 exact ⟨S.res.set k v, S.a.below hb (Nat.lt_of_lt_of_le S.hp S.hr), S.m.trans (Mod.of_below (hb.mono S.hr)), S.hp, S.hr⟩
end
end Go.Proofs.YtgjilgecklhglaaGreat
namespace Go.Proofs.YtgjilgecklhglaaGreat
open Go.ChangeShapes Go.WideShapes Go.ChangeAt Go.RowKit Go.PlainAid
set_option linter.unusedVariables false
theorem Hid.mkD {p : Prop} (h : p) : Hid p := h
def strCR (l : List ByteArray) : Array Value := (l.map Value.string).toArray
theorem strC_atR (l : List ByteArray) (j : Nat) (hj : j < l.length) : (strCR l)[j]? = some (.string (l.getD j ⟨#[]⟩)) := by
 simp [strCR, List.getD, hj]
theorem strC_memR (l : List ByteArray) (j : Nat) (hj : j < l.length) : l.getD j ⟨#[]⟩ ∈ l := by
 rw [List.getD_eq_getElem?_getD, List.getElem?_eq_getElem hj]
 exact List.getElem_mem hj
set_option maxHeartbeats 1000000 in
theorem pickTR (w : World) (p g : Nat) (xs : List ByteArray) (n : Nat) (hn : xs.length = n) (h0 : 0 < n) (h1 : n ≤ 1000) (h : AtS w p) (hgp : g ≠ p) (hB : Blk w g (strCR xs) 9) :
  Calls Tryz.prog 97 #[.pointer (some ⟨p, 0, none⟩), .slice (some ⟨g, 0, none⟩) n n] w fun e w' => ∃ x : ByteArray, e = .returned (.string x) ∧ x ∈ xs ∧ AtS w' p ∧ Mod w.heap.size p w w' := by
 have HA : Hid (AtS w p) := h
 have HB : Hid (Blk w g (strCR xs) 9) := hB
 have HN : Hid (xs.length = n) := hn
 have q0 : (n : Int) ≤ 1000 := by omega
 clear h hB hn
 go_enter Tryz.func97, Tryz.ntmps97
 go_wp2_with fail
 refine (belowS w p (n : Int) (by omega) (by omega) HA.out).mono ?_
 rintro e w1 ⟨v, rfl, ⟨v0, v1⟩, hA, hm⟩
 obtain ⟨k, rfl⟩ := Int.eq_ofNat_of_zero_le v0
 have B1 := Blk.mod HB.out hm HB.out.lt hgp
 have m1 := B1.cell k _ (strC_atR xs k (by rw [HN.out]; omega))
 have HM : Hid (xs.getD k ⟨#[]⟩ ∈ xs) := strC_memR xs k (by rw [HN.out]; omega)
 have A1 : Hid (AtS w1 p) := hA
 have M1 : Hid (Mod w.heap.size p w w1) := hm
 generalize xs.getD k ⟨#[]⟩ = x at *
 clear hA hm B1
 go_wp2_with fail
 go_ret
 exact ⟨_, rfl, HM.out, A1.out, M1.out⟩
theorem ownsC5n {w : World} {bs g sz : Nat} {e : TypeId} {u : Value} {r : List (List Value)} (h : Owns w bs e sz u r) (hn : u.ownBlock ≠ some g) (x0 x1 x2 x3 x4 : Value) : Owns (((((w.setCell ⟨g, 0, none⟩ x0).setCell ⟨g, 1, none⟩ x1).setCell ⟨g, 2, none⟩ x2).setCell ⟨g, 3, none⟩ x3).setCell ⟨g, 4, none⟩ x4) bs e sz u r := ((((h.other hn 0 x0).other hn 1 x1).other hn 2 x2).other hn 3 x3).other hn 4 x4
theorem BxD.all5 {w wc : World} {p g r : Nat} {T : TypeId} {Z : Array Value} {a0 a1 a2 a3 a4 : Value} (S : BxD w p g r T wc Z #[a0, a1, a2, a3, a4]) (x0 x1 x2 x3 x4 : Value) : BxD w p g r T (((((wc.setCell ⟨g, 0, none⟩ x0).setCell ⟨g, 1, none⟩ x1).setCell ⟨g, 2, none⟩ x2).setCell ⟨g, 3, none⟩ x3).setCell ⟨g, 4, none⟩ x4) Z #[x0, x1, x2, x3, x4] :=
 have F := ((((S.set 0 x0).set 1 x1).set 2 x2).set 3 x3).set 4 x4
 ⟨blkC5 S.box, F.res, F.a, F.m, S.hp, S.hg, S.hr, S.ne⟩
structure DkS (w : World) (p g r : Nat) (wc : World) (d : Dsk) (A1 : Option Addr) (n1 c1 : Nat) (A2 : Option Addr) (n2 c2 : Nat) (A3 : Option Addr) (n3 c3 : Nat) : Prop where
 bx : BxD w p g r 28 wc #[.int .i64 0, .int .i64 0, .slice none 0 0, .slice none 0 0, .slice none 0 0] #[.int .i64 d.room, .int .i64 d.next, .slice A1 n1 c1, .slice A2 n2 c2, .slice A3 n3 c3]
 o1 : Owns wc w.heap.size 47 3 (.slice A1 n1 c1) (nodR d.nods)
 o2 : Owns wc w.heap.size 49 2 (.slice A2 n2 c2) (lnkR d.dir)
 o3 : Owns wc w.heap.size 51 4 (.slice A3 n3 c3) (movR d.movs)
section
variable {w wc w' : World} {p g r : Nat} {d : Dsk} {A1 : Option Addr} {n1 c1 : Nat} {A2 : Option Addr} {n2 c2 : Nat} {A3 : Option Addr} {n3 c3 : Nat}
theorem DkS.draw (S : DkS w p g r wc d A1 n1 c1 A2 n2 c2 A3 n3 c3) (hA : AtS w' p) (hm : Mod wc.heap.size p wc w') : DkS w p g r w' d A1 n1 c1 A2 n2 c2 A3 n3 c3 :=
 ⟨S.bx.draw hA hm, S.o1.mod hm S.bx.hp (Nat.le_refl _), S.o2.mod hm S.bx.hp (Nat.le_refl _), S.o3.mod hm S.bx.hp (Nat.le_refl _)⟩
theorem DkS.below (S : DkS w p g r wc d A1 n1 c1 A2 n2 c2 A3 n3 c3) (hb : Below wc.heap.size wc w') : DkS w p g r w' d A1 n1 c1 A2 n2 c2 A3 n3 c3 := S.draw (S.bx.a.below hb S.bx.a.lt) (Mod.of_below hb)
theorem DkS.alloc (S : DkS w p g r wc d A1 n1 c1 A2 n2 c2 A3 n3 c3) (o : Obj) : DkS w p g r (wc.alloc o) d A1 n1 c1 A2 n2 c2 A3 n3 c3 := S.below ((Below.refl _ _).alloc (Nat.le_refl _) _)
theorem DkS.a (S : DkS w p g r wc d A1 n1 c1 A2 n2 c2 A3 n3 c3) : AtS wc p := S.bx.a
theorem DkS.v (S : DkS w p g r wc d A1 n1 c1 A2 n2 c2 A3 n3 c3) : DiskV wc wc.heap.size (.agg #[.int .i64 d.room, .int .i64 d.next, .slice A1 n1 c1, .slice A2 n2 c2, .slice A3 n3 c3]) d := ⟨_, _, _, rfl, S.o1.lies, S.o2.lies, S.o3.lies⟩
theorem DkS.swap (S : DkS w p g r wc d A1 n1 c1 A2 n2 c2 A3 n3 c3) {d2 : Dsk} {B1 : Option Addr} {m1 k1 : Nat} {B2 : Option Addr} {m2 k2 : Nat} {B3 : Option Addr} {m3 k3 : Nat} (h1 : Owns wc w.heap.size 47 3 (.slice B1 m1 k1) (nodR d2.nods)) (h2 : Owns wc w.heap.size 49 2 (.slice B2 m2 k2) (lnkR d2.dir)) (h3 : Owns wc w.heap.size 51 4 (.slice B3 m3 k3) (movR d2.movs)) :
  DkS w p g r (((((wc.setCell ⟨g, 0, none⟩ (.int .i64 d2.room)).setCell ⟨g, 1, none⟩ (.int .i64 d2.next)).setCell ⟨g, 2, none⟩ (.slice B1 m1 k1)).setCell ⟨g, 3, none⟩ (.slice B2 m2 k2)).setCell ⟨g, 4, none⟩ (.slice B3 m3 k3)) d2 B1 m1 k1 B2 m2 k2 B3 m3 k3 :=
 ⟨S.bx.all5 _ _ _ _ _, ownsC5n h1 (h1.notBlk S.bx.box (by decide)) _ _ _ _ _, ownsC5n h2 (h2.notBlk S.bx.box (by decide)) _ _ _ _ _, ownsC5n h3 (h3.notBlk S.bx.box (by decide)) _ _ _ _ _⟩
end
def DrawnD (w : World) (p : Nat) (e : Ending) (w' : World) : Prop := ∃ (d : Dsk) (v : Value), e = .returned v ∧ DiskO w' w.heap.size v d ∧ Small d ∧ AtS w' p ∧ Mod w.heap.size p w w'
def sixA : List ByteArray := [⟨#[]⟩, ⟨#[97, 32, 98]⟩, ⟨#[97, 98, 99, 100, 101, 102, 103, 104, 105, 106, 107, 108, 109]⟩, ⟨#[97, 98, 99, 100, 101, 102, 103, 104, 105, 106, 107, 108]⟩, ⟨#[65]⟩, ⟨#[97, 47, 98]⟩]
def sixB : List ByteArray := [⟨#[108, 111, 103]⟩, ⟨#[108, 111, 103, 46, 110, 101, 119]⟩, ⟨#[115, 110, 97, 112]⟩, ⟨#[97]⟩, ⟨#[98]⟩, ⟨#[99, 49]⟩]
theorem sixA_short : ∀ x ∈ sixA, x.size ≤ 13 := by
 intro x hx
 simp only [sixA, List.mem_cons, List.not_mem_nil, or_false] at hx
 rcases hx with rfl | rfl | rfl | rfl | rfl | rfl <;> decide
theorem sixB_short : ∀ x ∈ sixB, x.size ≤ 13 := by
 intro x hx
 simp only [sixB, List.mem_cons, List.not_mem_nil, or_false] at hx
 rcases hx with rfl | rfl | rfl | rfl | rfl | rfl <;> decide
set_option maxHeartbeats 2000000 in
theorem name4_any (w : World) (p : Nat) (h : AtS w p) : Calls Tryz.prog 67 #[.pointer (some ⟨p, 0, none⟩)] w fun e w' => ∃ x : ByteArray, e = .returned (.string x) ∧ x.size ≤ 13 ∧ AtS w' p ∧ Mod w.heap.size p w w' := by
 have HA := Hid.mkD h
 clear h
 go_enter Tryz.func67, Tryz.ntmps67
 go_wp2_with fail
 refine (once_some w p 30 (by omega) HA.out).mono ?_
 rintro e w1 ⟨o, rfl, hA, hm⟩
 have A1 := Hid.mkD hA
 have M1 := Hid.mkD hm
 have Z1 : Hid (w1.heap.size ≠ p) := by have := hA.lt; unfold Hid; omega
 clear hA hm HA
 cases o
 ·have A2 : Hid (AtS (w1.alloc (.cells #[.string ⟨#[108, 111, 103]⟩, .string ⟨#[108, 111, 103, 46, 110, 101, 119]⟩, .string ⟨#[115, 110, 97, 112]⟩, .string ⟨#[97]⟩, .string ⟨#[98]⟩, .string ⟨#[99, 49]⟩] 9)) p) := A1.out.below ((Below.refl _ _).alloc (Nat.le_refl _) _) A1.out.lt
  have M2 : Hid (Mod w.heap.size p w (w1.alloc (.cells #[.string ⟨#[108, 111, 103]⟩, .string ⟨#[108, 111, 103, 46, 110, 101, 119]⟩, .string ⟨#[115, 110, 97, 112]⟩, .string ⟨#[97]⟩, .string ⟨#[98]⟩, .string ⟨#[99, 49]⟩] 9))) := M1.out.alloc M1.out.size _
  have K2 : Hid (Blk (w1.alloc (.cells #[.string ⟨#[108, 111, 103]⟩, .string ⟨#[108, 111, 103, 46, 110, 101, 119]⟩, .string ⟨#[115, 110, 97, 112]⟩, .string ⟨#[97]⟩, .string ⟨#[98]⟩, .string ⟨#[99, 49]⟩] 9)) w1.heap.size (strCR sixB) 9) := Blk.new w1 _ _
  go_wp2_with fail
  generalize w1.alloc (.cells #[.string ⟨#[108, 111, 103]⟩, .string ⟨#[108, 111, 103, 46, 110, 101, 119]⟩, .string ⟨#[115, 110, 97, 112]⟩, .string ⟨#[97]⟩, .string ⟨#[98]⟩, .string ⟨#[99, 49]⟩] 9) = w2 at *
  refine (pickTR w2 p w1.heap.size sixB 6 rfl (by omega) (by omega) A2.out Z1.out K2.out).mono ?_
  rintro e w3 ⟨x, rfl, hx, hA, hm⟩
  have A3 := Hid.mkD hA
  have M3 : Hid (Mod w.heap.size p w w3) := M2.out.trans (hm.mono M2.out.size)
  have HX : Hid (x.size ≤ 13) := sixB_short x hx
  clear hA hm hx
  go_wp2_with fail
  go_ret
  exact ⟨_, rfl, HX.out, A3.out, M3.out⟩
 ·have A2 : Hid (AtS (w1.alloc (.cells #[.string ⟨#[]⟩, .string ⟨#[97, 32, 98]⟩, .string ⟨#[97, 98, 99, 100, 101, 102, 103, 104, 105, 106, 107, 108, 109]⟩, .string ⟨#[97, 98, 99, 100, 101, 102, 103, 104, 105, 106, 107, 108]⟩, .string ⟨#[65]⟩, .string ⟨#[97, 47, 98]⟩] 9)) p) := A1.out.below ((Below.refl _ _).alloc (Nat.le_refl _) _) A1.out.lt
  have M2 : Hid (Mod w.heap.size p w (w1.alloc (.cells #[.string ⟨#[]⟩, .string ⟨#[97, 32, 98]⟩, .string ⟨#[97, 98, 99, 100, 101, 102, 103, 104, 105, 106, 107, 108, 109]⟩, .string ⟨#[97, 98, 99, 100, 101, 102, 103, 104, 105, 106, 107, 108]⟩, .string ⟨#[65]⟩, .string ⟨#[97, 47, 98]⟩] 9))) := M1.out.alloc M1.out.size _
  have K2 : Hid (Blk (w1.alloc (.cells #[.string ⟨#[]⟩, .string ⟨#[97, 32, 98]⟩, .string ⟨#[97, 98, 99, 100, 101, 102, 103, 104, 105, 106, 107, 108, 109]⟩, .string ⟨#[97, 98, 99, 100, 101, 102, 103, 104, 105, 106, 107, 108]⟩, .string ⟨#[65]⟩, .string ⟨#[97, 47, 98]⟩] 9)) w1.heap.size (strCR sixA) 9) := Blk.new w1 _ _
  go_wp2_with fail
  generalize w1.alloc (.cells #[.string ⟨#[]⟩, .string ⟨#[97, 32, 98]⟩, .string ⟨#[97, 98, 99, 100, 101, 102, 103, 104, 105, 106, 107, 108, 109]⟩, .string ⟨#[97, 98, 99, 100, 101, 102, 103, 104, 105, 106, 107, 108]⟩, .string ⟨#[65]⟩, .string ⟨#[97, 47, 98]⟩] 9) = w2 at *
  refine (pickTR w2 p w1.heap.size sixA 6 rfl (by omega) (by omega) A2.out Z1.out K2.out).mono ?_
  rintro e w3 ⟨x, rfl, hx, hA, hm⟩
  have A3 := Hid.mkD hA
  have M3 : Hid (Mod w.heap.size p w w3) := M2.out.trans (hm.mono M2.out.size)
  have HX : Hid (x.size ≤ 13) := sixA_short x hx
  clear hA hm hx
  go_wp2_with fail
  go_ret
  exact ⟨_, rfl, HX.out, A3.out, M3.out⟩
end Go.Proofs.YtgjilgecklhglaaGreat
namespace Go.Proofs.YtgjilgecklhglaaGreat
open Go.RowKit Go.PlainAid
set_option linter.unusedVariables false
theorem Owns.first {w : World} {base : Nat} {e : TypeId} {sz : Nat} {A : Option Addr} {n c : Nat} {rows : List (List Value)} (h : Owns w base e sz (.slice A n c) rows) (k : Nat) (hk : k ≤ rows.length) : Owns w base e sz (.slice A k c) (rows.take k) := by
 obtain ⟨hs, hl, h⟩ := h
 have hkl : (rows.take k).length = k := by rw [List.length_take]; omega
 have hs' : ∀ r ∈ rows.take k, r.length = sz := fun r hr => hs r (List.mem_of_mem_take hr)
 have hft : (rows.take k).flatten = rows.flatten.take (k * sz) := by
  have h1 : rows.flatten = (rows.take k).flatten ++ (rows.drop k).flatten := by rw [← List.flatten_append, List.take_append_drop]
  have hl2 : (rows.take k).flatten.length = k * sz := by rw [flat_length sz _ hs', hkl]
  rw [h1]
  exact (List.take_left' hl2).symm
 refine ⟨hs', ?_, ?_⟩
 ·rw [flat_length sz _ hs']
 rcases h with ⟨e1, h0⟩ | ⟨g, cap, cur, e1, hb, hh, hn, hm, hz, ht⟩
 ·cases e1
  have : k = 0 := by omega
  subst this
  exact .inl ⟨rfl, by simp⟩
 ·cases e1
  refine .inr ⟨g, c, cur, by rw [hkl], hb, hh, by rw [hkl]; omega, hm, hz, ?_⟩
  rw [hkl, hft, ← ht, List.take_take]
  congr 1
  have : k * sz ≤ rows.length * sz := Nat.mul_le_mul_right sz hk
  omega
theorem Lies.behind {w : World} {B sz g off n c : Nat} {rows : List (List Value)} (h : Lies w B sz (.slice (some ⟨g, off, none⟩) n c) rows) (k : Nat) (hk : k ≤ rows.length) : Lies w B sz (.slice (some ⟨g, off + k * sz, none⟩) (n - k) (c - k)) (rows.drop k) := by
 obtain ⟨A', c', e, hz, hs, h⟩ := h
 cases e
 have hl : (rows.drop k).length = rows.length - k := List.length_drop
 refine ⟨_, c - k, by rw [hl], ⟨fun e => (by cases e), by rw [hl]; have := hz.2; omega⟩, fun r hr => hs r (List.mem_of_mem_drop hr), ?_⟩
 rw [hl]
 rcases h with h | ⟨g', off', e, hg, hc⟩
 ·exact .inl (by omega)
 ·cases e
  refine .inr ⟨g, off + k * sz, rfl, hg, fun j x hx => ?_⟩
  have hl2 : (rows.take k).flatten.length = k * sz := by rw [flat_length sz _ (fun r hr => hs r (List.mem_of_mem_take hr)), List.length_take, Nat.min_eq_left hk]
  have := hc (k * sz + j) x (by
   rw [← List.take_append_drop k rows, List.flatten_append, List.getElem?_append_right (by omega), hl2, Nat.add_sub_cancel_left]
   exact hx)
  rw [← Nat.add_assoc] at this
  exact this
def behAt (g k c sz : Nat) : Option Addr := if c = k + 1 then some ⟨g, 0, none⟩ else some ⟨g, (k + 1) * sz, none⟩
theorem run_cut {P : Program} (w : World) (t ty e : TypeId) (z : Value) (sz bytes : Nat)
  (ht : P.underlying t = some (.slice e)) (hinfo : (P.info? e).map (fun i => (i.zero, i.size, i.bytes)) = some (some z, sz, bytes)) (hzs : z.cells.size = sz) (hsz : 0 < sz)
  (base g n c k : Nat) (rows : List (List Value)) (hown : Owns w base e sz (.slice (some ⟨g, 0, none⟩) n c) rows) (h1 : ∀ r ∈ rows, ∀ u ∈ r, u.oneCell' = true) (hn : n = rows.length) (hc : n ≤ c) (hk : k < rows.length)
  (hlen : rows.length ≤ 1048576) (hby : bytes ≤ 1000) (hbase : base ≤ w.heap.size) :
  ∃ A m c' w', (Builtin.append_ #[t, t] ty #[.slice (some ⟨g, 0, none⟩) k c, .slice (behAt g k c sz) (n - (k + 1)) (c - (k + 1))]).run P w = .ok (.slice A m c') w' ∧ Owns w' base e sz (.slice A m c') (rows.take k ++ rows.drop (k + 1)) ∧ Below base w w' ∧ (∀ i, i < w.heap.size → (Value.slice (some ⟨g, 0, none⟩) n c).ownBlock ≠ some i → w'.heap[i]? = w.heap[i]?) := by
 obtain ⟨i0, hi, hz0, hz1, hz2⟩ := info_parts hinfo
 have hf := hown.first k (by omega)
 have hkl : (rows.take k).length = k := by rw [List.length_take]; omega
 have hdl : (rows.drop (k + 1)).length = n - (k + 1) := by rw [List.length_drop, hn]
 have hds : ∀ r ∈ rows.drop (k + 1), r.length = sz := fun r hr => hown.1 r (List.mem_of_mem_drop hr)
 have hb1 : ((rows.take k).length + (n - (k + 1))) * bytes ≤ 140737488355328 := Nat.le_trans (Nat.mul_le_mul (show (rows.take k).length + (n - (k + 1)) ≤ 1048576 by omega) hby) (by omega)
 have hone : ∀ u ∈ (rows.drop (k + 1)).flatten, u.oneCell' = true := fun u hu => by
  obtain ⟨r, hr, hur⟩ := List.mem_flatten.1 hu
  exact h1 r (List.mem_of_mem_drop hr) u hur
 obtain ⟨ad, hA, hnews⟩ : ∃ ad, behAt g k c sz = some ad ∧ ∀ j u, ((rows.drop (k + 1)).flatten)[j]? = some u → w.cell? (ad.add j) = some u := by
  unfold behAt
  by_cases hck : c = k + 1
  ·refine ⟨⟨g, 0, none⟩, if_pos hck, fun j u hj => ?_⟩
   rw [List.eq_nil_of_length_eq_zero (show (rows.drop (k + 1)).length = 0 by omega)] at hj
   simp at hj
  ·refine ⟨⟨g, (k + 1) * sz, none⟩, if_neg hck, fun j u hj => ?_⟩
   have hL := hown.lies.behind (k + 1) (by omega)
   obtain ⟨A', c9, e9, -, -, hm⟩ := hL
   rcases hm with h0 | ⟨g', off, e8, hg, hcc⟩
   ·rw [List.eq_nil_of_length_eq_zero h0] at hj
    simp at hj
   ·simp only [Value.slice.injEq] at e9
    rw [← e9.1] at e8
    cases e8
    have e1 : (⟨g, (k + 1) * sz, none⟩ : Addr).add j = ⟨g, 0 + (k + 1) * sz + j, none⟩ := by cases j <;> simp [Addr.add]
    rw [e1]
    exact hcc j u hj
 rw [hA]
 obtain ⟨v', w', hrun, h2, h3, _⟩ := run_append_own (P := P) w base t ty e i0 z sz bytes ht hi hz0 hz1 hz2 hzs hsz (.slice (some ⟨g, 0, none⟩) k c) (rows.take k).length (rows.take k).flatten hf.2 ad (n - (k + 1)) (c - (k + 1)) (rows.drop (k + 1)).flatten (by rw [flat_length sz _ hds, hdl]) hnews hone (by unfold maxLen; omega) hb1 hbase
 have hb0 : ∀ i, (Value.slice (some ⟨g, 0, none⟩) k c).ownBlock = some i → base ≤ i := fun i hi => (hf.lt i hi).1
 have hO : Owns w' base e sz v' (rows.take k ++ rows.drop (k + 1)) := by
  refine ⟨?_, ?_⟩
  ·intro y hy
   rcases List.mem_append.1 hy with hy | hy
   ·exact hown.1 y (List.mem_of_mem_take hy)
   ·exact hds y hy
  ·rw [List.length_append, List.flatten_append, hdl]
   exact h2
 obtain ⟨A, m, c', rfl⟩ := hO.shape
 exact ⟨A, m, c', w', hrun, hO, (Below.refl base w).grown h3 hbase hb0, fun i hi hne => h3.block i hi (fun e => hne e.symm)⟩
end Go.Proofs.YtgjilgecklhglaaGreat
