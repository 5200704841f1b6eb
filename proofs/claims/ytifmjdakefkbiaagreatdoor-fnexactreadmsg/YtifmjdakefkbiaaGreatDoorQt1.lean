/- Cursor CurNew CurOnce PtRow PtPut WkAid WkRow CurTx CurPW CurSpoX TxCur TrBox TxRs PtApp PtRun WbDraw TrEnts WkSz -/
import Derived.Test.YtifmjdakefkbiaaGreatDoorRows
import Derived.Test.YtifmjdakefkbiaaGreatDoorQt0
import Derived.WalkKit
import Derived.ProofKit
import Derived.OpenShut
import Derived.Below
import Derived.Handy
import Derived.WalkLawsBesides
import Derived.Outline
import Derived.BigQuiet
import Derived.Deep.QuietTactic
import Derived.Laws.OwnMore
import Derived.OwnWalk
import Derived.WalkSmall
import Derived.Deep.RegionHeld3
import Derived.Deep.RegionLaw
import Derived.Deep.RegionWith
namespace Go.Proofs.YtifmjdakefkbiaaGreatDoor
open Go.ChangeShapes Go.WideShapes Go.ChangeAt Go.RowKit Go.PlainAid
set_option linter.unusedVariables false
set_option maxHeartbeats 1000000 in
theorem byte_in (w : World) (p : Nat) (cb co len cap : Nat) (c i : Nat) (h : Int) (hc : Cur 108 w p (some ⟨cb, co, none⟩) len cap i h) (hcb : cb < p) (hi : i < len) (hl : len ≤ 1048576) (hc255 : c < 256)
  (hcell : w.cell? ⟨cb, co + i, none⟩ = some (.int .u8 (c : Int))) :
  Calls Tryz.prog 73 #[.pointer (some ⟨p, 0, none⟩)] w fun e w' => e = .returned (.int .i64 (bits .and .i64 (curX (curH h) + (c : Int)) 255)) ∧ Cur 108 w' p (some ⟨cb, co, none⟩) len cap (i + 1) (curH h) ∧ Mod w.heap.size p w w' := by
 have c0 := hc.c0
 have c1 := hc.c1
 have c2 := hc.c2
 have f1 := hc.free 1
 have f2 := hc.free 2
 have q1 : (i : Int) < (len : Int) := by omega
 have q2 : (len : Int) ≤ 1048576 := by omega
 go_enter Tryz.func73, Tryz.ntmps73
 go_wp2
 have eH : wrap64 (wrap64 (h * 6364136223846793005) + 1442695040888963407) = curH h := rfl
 rw [eH]
 have hc1 := hc.set2 (curH h)
 have hm1 : Mod w.heap.size p w (w.setCell ⟨p, 2, none⟩ (.int .i64 (curH h))) := (Mod.refl _ _ _).setCell _
 have hcell1 : (w.setCell ⟨p, 2, none⟩ (.int .i64 (curH h))).cell? ⟨cb, co + i, none⟩ = some (.int .u8 (c : Int)) := by
  rw [← hcell]
  exact World.cell?_of_block (w := w) (hm1.block cb (by have := hc.lt; omega) (by omega))
 generalize w.setCell ⟨p, 2, none⟩ (.int .i64 (curH h)) = w1 at *
 generalize hH : curH h = H at *
 have HH : Hid (curH h = H) := hH
 clear hH
 clear eH c0 c1 c2 f1 f2 hcell
 have c0 := hc1.c0
 have c1 := hc1.c1
 have c2 := hc1.c2
 have f1 := hc1.free 1
 have hx := curX_bd H
 obtain ⟨hx1, hx2⟩ := hx
 have eX : bits .and .i64 (bits .xor .i64 (H / 8589934592) (H / 35184372088832)) 255 = curX H := rfl
 go_quiet (fail)
 go_wp2
 go_quiet (fail)
 go_wp2
 go_quiet (fail)
 go_wp2
 go_ret
 have e1 : ((i : Int) + 1) = ((i + 1 : Nat) : Int) := by omega
 rw [HH.out, e1]
 exact ⟨rfl, (hc1.drewN _).set1 (i + 1), (hm1.drewN _).setCell _⟩
set_option maxHeartbeats 1000000 in
theorem byte_out (w : World) (p : Nat) (ao : Option Addr) (len cap : Nat) (i : Nat) (h : Int) (hc : Cur 108 w p ao len cap i h) (hi : len ≤ i) (hi2 : i ≤ 1048576) (hl : len ≤ 1048576) :
  Calls Tryz.prog 73 #[.pointer (some ⟨p, 0, none⟩)] w fun e w' => e = .returned (.int .i64 (curX (curH h))) ∧ Cur 108 w' p ao len cap i (curH h) ∧ Mod w.heap.size p w w' := by
 have c0 := hc.c0
 have c1 := hc.c1
 have c2 := hc.c2
 have f1 := hc.free 1
 have f2 := hc.free 2
 have q1 : (len : Int) ≤ (i : Int) := by omega
 have q2 : (len : Int) ≤ 1048576 := by omega
 have q3 : (i : Int) ≤ 1048576 := by omega
 go_enter Tryz.func73, Tryz.ntmps73
 go_wp2
 have eH : wrap64 (wrap64 (h * 6364136223846793005) + 1442695040888963407) = curH h := rfl
 rw [eH]
 have hc1 := hc.set2 (curH h)
 have hm1 : Mod w.heap.size p w (w.setCell ⟨p, 2, none⟩ (.int .i64 (curH h))) := (Mod.refl _ _ _).setCell _
 generalize w.setCell ⟨p, 2, none⟩ (.int .i64 (curH h)) = w1 at *
 generalize hH : curH h = H at *
 have HH : Hid (curH h = H) := hH
 clear hH
 clear eH c0 c1 c2 f1 f2
 have c0 := hc1.c0
 have c1 := hc1.c1
 have c2 := hc1.c2
 have f1 := hc1.free 1
 have hx := curX_bd H
 obtain ⟨hx1, hx2⟩ := hx
 have eX : bits .and .i64 (bits .xor .i64 (H / 8589934592) (H / 35184372088832)) 255 = curX H := rfl
 go_quiet (fail)
 go_wp2
 go_quiet (fail)
 go_wp2
 go_ret
 rw [HH.out]
 exact ⟨rfl, (hc1.drewN _).drewN _, (hm1.drewN _).drewN _⟩
def At (w : World) (p : Nat) (ao : Option Addr) (len cap : Nat) (cs : Nat → Nat) (s : Pos) : Prop := Cur 108 w p ao len cap s.i s.h ∧ CodeIs w p ao len cs ∧ len ≤ 1048576 ∧ s.i ≤ len
theorem At.lt {w : World} {p : Nat} {ao : Option Addr} {len cap : Nat} {cs : Nat → Nat} {s : Pos} (h : At w p ao len cap cs s) : p < w.heap.size := h.1.lt
theorem At.below {w w' : World} {B p : Nat} {ao : Option Addr} {len cap : Nat} {cs : Nat → Nat} {s : Pos} (h : At w p ao len cap cs s) (hb : Below B w w') (hp : p < B) : At w' p ao len cap cs s :=
 ⟨h.1.below hb hp, h.2.1.kept (Mod.of_below (p := p) hb) (by omega), h.2.2⟩
theorem byte_any (w : World) (p : Nat) (ao : Option Addr) (len cap : Nat) (cs : Nat → Nat) (s : Pos) (h : At w p ao len cap cs s) :
  Calls Tryz.prog 73 #[.pointer (some ⟨p, 0, none⟩)] w fun e w' => e = .returned (.int .i64 (byteV len cs s)) ∧ At w' p ao len cap cs (byteP len s) ∧ Mod w.heap.size p w w' := by
 have hlt := h.lt
 obtain ⟨h1, h2, h3, h4⟩ := h
 by_cases hi : s.i < len
 ·obtain ⟨cb, co, rfl, hcb, hc5, hcell⟩ := h2.at hi
  refine (byte_in w p cb co len cap (cs s.i) s.i s.h h1 hcb hi h3 hc5 hcell).mono ?_
  rintro e w' ⟨he, hc', hm⟩
  refine ⟨by rw [he, byteV, if_pos hi], ?_, hm⟩
  rw [byteP, if_pos hi]
  exact ⟨hc', h2.kept hm (by omega), h3, by show s.i + 1 ≤ len; omega⟩
 ·refine (byte_out w p ao len cap s.i s.h h1 (by omega) (by omega) h3).mono ?_
  rintro e w' ⟨he, hc', hm⟩
  refine ⟨by rw [he, byteV, if_neg hi], ?_, hm⟩
  rw [byteP, if_neg hi]
  exact ⟨hc', h2.kept hm (by omega), h3, h4⟩
def belowV (len : Nat) (cs : Nat → Nat) (n : Int) (s : Pos) : Int :=
 if n ≤ 0 then 0 else if n ≤ 256 then byteV len cs s % n
 else (byteV len cs s * 16777216 + byteV len cs (byteP len s) * 65536 + byteV len cs (byteP len (byteP len s)) * 256 + byteV len cs (byteP len (byteP len (byteP len s)))) % n
def belowP (len : Nat) (n : Int) (s : Pos) : Pos := if n ≤ 0 then s else if n ≤ 256 then byteP len s else byteP len (byteP len (byteP len (byteP len s)))
theorem belowV_bd (len : Nat) (cs : Nat → Nat) (n : Int) (s : Pos) : 0 ≤ belowV len cs n s ∧ (0 < n → belowV len cs n s < n) := by
 unfold belowV
 split
 ·exact ⟨by omega, fun h => by omega⟩
 ·split
  ·exact ⟨Int.emod_nonneg _ (by omega), fun h => Int.emod_lt_of_pos _ h⟩
  ·exact ⟨Int.emod_nonneg _ (by omega), fun h => Int.emod_lt_of_pos _ h⟩
set_option maxHeartbeats 1000000 in
theorem below_any (w : World) (p : Nat) (ao : Option Addr) (len cap : Nat) (cs : Nat → Nat) (s : Pos) (n : Int) (hn : n ≤ 9223372036854775807) (h : At w p ao len cap cs s) :
  Calls Tryz.prog 72 #[.pointer (some ⟨p, 0, none⟩), .int .i64 n] w fun e w' => e = .returned (.int .i64 (belowV len cs n s)) ∧ At w' p ao len cap cs (belowP len n s) ∧ Mod w.heap.size p w w' := by
 by_cases h0 : n ≤ 0
 ·have HV : Hid (belowV len cs n s = 0) := by show belowV len cs n s = 0; rw [belowV, if_pos h0]
  have HP : Hid (belowP len n s = s) := by show belowP len n s = s; rw [belowP, if_pos h0]
  have HA : Hid (At w p ao len cap cs s) := h
  clear h
  go_enter Tryz.func72, Tryz.ntmps72
  go_wp2_with fail
  go_ret
  rw [HV.out, HP.out]
  exact ⟨rfl, HA.out, Mod.refl _ _ _⟩
 ·by_cases h256 : n ≤ 256
  ·have HV : Hid (belowV len cs n s = byteV len cs s % n) := by show belowV len cs n s = _; rw [belowV, if_neg h0, if_pos h256]
   have HP : Hid (belowP len n s = byteP len s) := by show belowP len n s = _; rw [belowP, if_neg h0, if_pos h256]
   have HA : Hid (At w p ao len cap cs s) := h
   clear h
   have hb := byteV_bd len cs s
   obtain ⟨hb1, hb2⟩ := hb
   go_enter Tryz.func72, Tryz.ntmps72
   go_wp2_with fail
   refine (byte_any _ p ao len cap cs s HA.out).mono ?_
   rintro e w1 ⟨rfl, hA1, hm1⟩
   go_wp2_with fail
   go_ret
   rw [HV.out, HP.out]
   exact ⟨rfl, hA1, hm1⟩
  ·have HV : Hid (belowV len cs n s = (byteV len cs s * 16777216 + byteV len cs (byteP len s) * 65536 + byteV len cs (byteP len (byteP len s)) * 256 + byteV len cs (byteP len (byteP len (byteP len s)))) % n) := by
    show belowV len cs n s = _; rw [belowV, if_neg h0, if_neg h256]
   have HP : Hid (belowP len n s = byteP len (byteP len (byteP len (byteP len s)))) := by show belowP len n s = _; rw [belowP, if_neg h0, if_neg h256]
   have HA : Hid (At w p ao len cap cs s) := h
   clear h
   have hb := byteV_bd len cs s
   have hb' := byteV_bd len cs (byteP len s)
   have hb'' := byteV_bd len cs (byteP len (byteP len s))
   have hb3 := byteV_bd len cs (byteP len (byteP len (byteP len s)))
   obtain ⟨a1, a2⟩ := hb
   obtain ⟨a3, a4⟩ := hb'
   obtain ⟨a5, a6⟩ := hb''
   obtain ⟨a7, a8⟩ := hb3
   go_enter Tryz.func72, Tryz.ntmps72
   go_wp2_with fail
   refine (byte_any _ p ao len cap cs s HA.out).mono ?_
   rintro e w1 ⟨rfl, hA1, hm1⟩
   go_wp2_with fail
   refine (byte_any _ p ao len cap cs _ hA1).mono ?_
   rintro e w2 ⟨rfl, hA2, hm2⟩
   go_wp2_with fail
   refine (byte_any _ p ao len cap cs _ hA2).mono ?_
   rintro e w3 ⟨rfl, hA3, hm3⟩
   go_wp2_with fail
   refine (byte_any _ p ao len cap cs _ hA3).mono ?_
   rintro e w4 ⟨rfl, hA4, hm4⟩
   go_wp2_with fail
   go_ret
   rw [HV.out, HP.out]
   exact ⟨rfl, hA4, hm1.trans ((hm2.mono hm1.size).trans ((hm3.mono (Nat.le_trans hm1.size hm2.size)).trans (hm4.mono (Nat.le_trans hm1.size (Nat.le_trans hm2.size hm3.size)))))⟩
end Go.Proofs.YtifmjdakefkbiaaGreatDoor
namespace Go.Proofs.YtifmjdakefkbiaaGreatDoor
open Go.ChangeShapes Go.WideShapes Go.ChangeAt Go.RowKit Go.PlainAid
set_option linter.unusedVariables false
theorem and30 (x : Int) : 0 ≤ bits .and .i64 x 1073741823 ∧ bits .and .i64 x 1073741823 ≤ 1073741823 := by
 have e : bits .and .i64 x 1073741823 = IntKind.i64.wrap ((BitVec.ofInt 64 x &&& BitVec.ofInt 64 ((1073741823 : Nat) : Int)).toNat : Int) := rfl
 have m : ∀ y : Nat, y &&& 1073741823 = y % 1073741824 := fun y => Nat.and_two_pow_sub_one_eq_mod y 30
 rw [e, BitVec.toNat_and, ofInt_u64 1073741823 (by omega), m]
 have h : (BitVec.ofInt 64 x).toNat % 1073741824 < 1073741824 := Nat.mod_lt _ (by omega)
 rw [Lib.wrap_i64_small _ (by omega)]
 omega
def newH (len : Nat) (cs : Nat → Nat) : Nat → Int
 | 0 => 10101 + (len : Int)
 | k + 1 => bits .and .i64 (newH len cs k * 131 + (cs k : Int) + 7) 1073741823
theorem newH_bd (len : Nat) (cs : Nat → Nat) (hl : len ≤ 1048576) (k : Nat) : 0 ≤ newH len cs k ∧ newH len cs k ≤ 1073741823 := by
 cases k with
 | zero => simp only [newH]; omega
 | succ k => exact and30 _
def newP (len : Nat) (cs : Nat → Nat) : Pos := ⟨0, newH len cs (min len 4000)⟩
set_option maxHeartbeats 1000000 in
theorem new_some (w : World) (cb co len cap : Nat) (cs : Nat → Nat) (hl : len ≤ 1048576) (hc : ∀ j, j < len → cs j < 256 ∧ w.cell? ⟨cb, co + j, none⟩ = some (.int .u8 (cs j : Int))) :
  Calls Tryz.prog 30 #[.slice (some ⟨cb, co, none⟩) len cap] w fun e w' => e = .returned (.pointer (some ⟨w.heap.size, 0, none⟩)) ∧ w' = w.alloc (.cells #[.slice (some ⟨cb, co, none⟩) len cap, .int .i64 0, .int .i64 (newH len cs (min len 4000))] 108) := by
 have q1 : (len : Int) ≤ 1048576 := by omega
 have HC : Hid (∀ j, j < len → cs j < 256 ∧ w.cell? ⟨cb, co + j, none⟩ = some (.int .u8 (cs j : Int))) := hc
 clear hc
 go_enter Tryz.func30, Tryz.ntmps30
 go_wp2
 go_loop [3, 4] (fun v3 v4 => ∃ k : Nat, k ≤ len ∧ k ≤ 4000 ∧ v4 = .int .i64 k ∧ v3 = .int .i64 (newH len cs k)) (fun _ i => 4000 - (intOf i).toNat)
 case atStart => exact ⟨0, by omega, by omega, rfl, rfl⟩
 case round =>
  obtain ⟨k, hk, hk4, rfl, rfl⟩ := hrel
  have hb := newH_bd len cs hl k
  obtain ⟨hb1, hb2⟩ := hb
  by_cases hlt : (k : Int) < (len : Int)
  ·by_cases h4 : (k : Int) < 4000
   ·have hck := HC.out k (by omega)
    obtain ⟨hck1, hck2⟩ := hck
    go_wp2
    go_round
    case rel => exact ⟨k + 1, by omega, by omega, by go_num, rfl⟩
    case measure => simp [intOf]; omega
   ·have z : decide ((k : Int) < 4000) = false := by simp; omega
    have hkk : min len 4000 = k := by omega
    have HK : Hid (min len 4000 = k) := hkk
    clear hkk
    go_wp2
    go_ret
    exact ⟨rfl, by rw [HK.out]⟩
  ·have z : (len : Int) ≤ (k : Int) := by omega
   have hkk : min len 4000 = k := by omega
   have HK : Hid (min len 4000 = k) := hkk
   clear hkk
   go_wp2
   go_ret
   exact ⟨rfl, by rw [HK.out]⟩
set_option maxHeartbeats 1000000 in
theorem new_nil (w : World) (ao : Option Addr) (cap : Nat) (cs : Nat → Nat) :
  Calls Tryz.prog 30 #[.slice ao 0 cap] w fun e w' => e = .returned (.pointer (some ⟨w.heap.size, 0, none⟩)) ∧ w' = w.alloc (.cells #[.slice ao 0 cap, .int .i64 0, .int .i64 (newH 0 cs (min 0 4000))] 108) := by
 go_enter Tryz.func30, Tryz.ntmps30
 go_wp2
 refine wp_loop_rounds 1 ?_
 rw [rounds_succ]
 go_wp2
 go_ret
 exact ⟨rfl, rfl⟩
theorem new_any (w : World) (ao : Option Addr) (len cap : Nat) (cs : Nat → Nat) (hl : len ≤ 1048576) (h : CodeIs w w.heap.size ao len cs) :
  Calls Tryz.prog 30 #[.slice ao len cap] w fun e w' => e = .returned (.pointer (some ⟨w.heap.size, 0, none⟩)) ∧ At w' w.heap.size ao len cap cs (newP len cs) ∧ Below w.heap.size w w' := by
 have fin : ∀ (e : Ending) (w' : World), (e = .returned (.pointer (some ⟨w.heap.size, 0, none⟩)) ∧ w' = w.alloc (.cells #[.slice ao len cap, .int .i64 0, .int .i64 (newH len cs (min len 4000))] 108)) → e = .returned (.pointer (some ⟨w.heap.size, 0, none⟩)) ∧ At w' w.heap.size ao len cap cs (newP len cs) ∧ Below w.heap.size w w' := by
  rintro e w' ⟨he, rfl⟩
  have hb : Below w.heap.size w (w.alloc (.cells #[.slice ao len cap, .int .i64 0, .int .i64 (newH len cs (min len 4000))] 108)) := (Below.refl _ _).alloc (Nat.le_refl _) _
  refine ⟨he, ⟨heap_alloc_new w _, h.kept (Mod.of_below (p := w.heap.size) hb) (Nat.le_refl _), hl, Nat.zero_le _⟩, hb⟩
 have h' := h
 rcases h with rfl | ⟨cb, co, rfl, hcb, hj⟩
 ·exact (new_nil w ao cap cs).mono fin
 ·exact (new_some w cb co len cap cs hl hj).mono fin
end Go.Proofs.YtifmjdakefkbiaaGreatDoor
namespace Go.Proofs.YtifmjdakefkbiaaGreatDoor
open Go.ChangeShapes Go.WideShapes Go.ChangeAt Go.RowKit Go.PlainAid
set_option linter.unusedVariables false
set_option maxHeartbeats 400000 in
theorem once_any (w : World) (p : Nat) (ao : Option Addr) (len cap : Nat) (cs : Nat → Nat) (s : Pos) (n : Int) (hn : n ≤ 9223372036854775807) (h : At w p ao len cap cs s) :
  Calls Tryz.prog 62 #[.pointer (some ⟨p, 0, none⟩), .int .i64 n] w fun e w' => e = .returned (.bool (belowV len cs n s == 0)) ∧ At w' p ao len cap cs (belowP len n s) ∧ Mod w.heap.size p w w' := by
 have HA : Hid (At w p ao len cap cs s) := h
 clear h
 go_enter Tryz.func62, Tryz.ntmps62
 go_wp2_with fail
 refine (below_any _ p ao len cap cs s n hn HA.out).mono ?_
 rintro e w1 ⟨rfl, hA1, hm1⟩
 go_wp2_with fail
 go_ret
 exact ⟨rfl, hA1, hm1⟩
end Go.Proofs.YtifmjdakefkbiaaGreatDoor
namespace Go.Proofs.YtifmjdakefkbiaaGreatDoor
open Go.RowKit Go.PlainAid
structure Pnt where
 t : Int
 v : Int
instance : Inhabited Pnt := ⟨⟨0, 0⟩⟩
theorem Pnt.same {x y : Pnt} (h1 : x.t = y.t) (h2 : x.v = y.v) : x = y := by
 cases x
 cases y
 simp only at h1 h2
 subst h1
 subst h2
 rfl
def Lies (w : World) (B sz : Nat) (v : Value) (rows : List (List Value)) : Prop :=
 ∃ A cap, v = .slice A rows.length cap ∧ ((A = none → cap = 0) ∧ rows.length ≤ cap) ∧ (∀ r ∈ rows, r.length = sz) ∧ (rows.length = 0 ∨ ∃ g off, A = some ⟨g, off, none⟩ ∧ g < B ∧ ∀ k x, rows.flatten[k]? = some x → w.cell? ⟨g, off + k, none⟩ = some x)
theorem Lies.on {w w' : World} {B sz : Nat} {v : Value} {rows : List (List Value)} (h : Lies w B sz v rows) (hb : Below B w w') : Lies w' B sz v rows := by
 obtain ⟨A, cap, e, hz, hs, h⟩ := h
 refine ⟨A, cap, e, hz, hs, h.imp id ?_⟩
 rintro ⟨g, off, rfl, hg, hc⟩
 refine ⟨g, off, rfl, hg, fun k x hx => ?_⟩
 rw [← hc k x hx]
 exact World.cell?_of_block (w := w) (hb.block g hg)
theorem Lies.heap {w w' : World} {B sz : Nat} {v : Value} {rows : List (List Value)} (h : Lies w B sz v rows) (hh : w'.heap = w.heap) : Lies w' B sz v rows := by
 obtain ⟨A, cap, e, hz, hs, h⟩ := h
 refine ⟨A, cap, e, hz, hs, h.imp id ?_⟩
 rintro ⟨g, off, rfl, hg, hc⟩
 refine ⟨g, off, rfl, hg, fun k x hx => ?_⟩
 rw [← hc k x hx]
 exact World.cell?_of_block (w := w) (by rw [hh])
theorem Lies.mono {w : World} {B C sz : Nat} {v : Value} {rows : List (List Value)} (h : Lies w B sz v rows) (hB : B ≤ C) : Lies w C sz v rows := by
 obtain ⟨A, cap, e, hz, hs, h⟩ := h
 refine ⟨A, cap, e, hz, hs, h.imp id ?_⟩
 rintro ⟨g, off, rfl, hg, hc⟩
 exact ⟨g, off, rfl, by omega, hc⟩
theorem flat_at (sz : Nat) : ∀ (rows : List (List Value)), (∀ r ∈ rows, r.length = sz) → ∀ (j f : Nat) (hj : j < rows.length), f < sz → rows.flatten[j * sz + f]? = (rows[j])[f]?
 | [], _, j, f, hj, _ => by simp at hj
 | r :: rs, hs, 0, f, _, hf => by
  have := hs r (by simp)
  simp only [List.flatten_cons, Nat.zero_mul, Nat.zero_add, List.getElem_cons_zero]
  rw [List.getElem?_append_left (by omega)]
 | r :: rs, hs, j + 1, f, hj, hf => by
  have hr := hs r (by simp)
  have ih := flat_at sz rs (fun r hr => hs r (by simp [hr])) j f (by simp at hj; omega) hf
  simp only [List.flatten_cons, List.getElem_cons_succ]
  rw [List.getElem?_append_right (by rw [hr, Nat.succ_mul]; omega), ← ih, hr]
  congr 1
  rw [Nat.succ_mul]
  omega
theorem flat_length (sz : Nat) (rows : List (List Value)) (hs : ∀ r ∈ rows, r.length = sz) : rows.flatten.length = rows.length * sz := by
 induction rows with
 | nil => simp
 | cons r rs ih =>
  rw [List.flatten_cons, List.length_append, ih (fun r hr => hs r (by simp [hr])), hs r (by simp), List.length_cons, Nat.succ_mul]
  omega
theorem Lies.look {w : World} {B sz : Nat} {v : Value} {rows : List (List Value)} (h : Lies w B sz v rows) : ∃ A cap, v = .slice A rows.length cap ∧ ∀ j (hj : j < rows.length), ∃ g off, A = some ⟨g, off, none⟩ ∧ g < B ∧ ∀ f x, f < sz → (rows[j])[f]? = some x → w.cell? ⟨g, off + (j * sz + f), none⟩ = some x := by
 obtain ⟨A, cap, rfl, _, hs, h⟩ := h
 refine ⟨A, cap, rfl, fun j hj => ?_⟩
 rcases h with h | ⟨g, off, rfl, hg, hc⟩
 ·omega
 ·exact ⟨g, off, rfl, hg, fun f x hf hx => hc _ x (by rw [flat_at sz rows hs j f hj hf]; exact hx)⟩
theorem Lies.first {w : World} {B sz : Nat} {A : Option Addr} {n c : Nat} {rows : List (List Value)} (h : Lies w B sz (.slice A n c) rows) (k : Nat) (hk : k ≤ rows.length) : Lies w B sz (.slice A k c) (rows.take k) := by
 obtain ⟨A', c', e, hz, hs, h⟩ := h
 cases e
 have hl : (rows.take k).length = k := by rw [List.length_take]; omega
 refine ⟨A, c, by rw [hl], ⟨hz.1, by rw [hl]; exact Nat.le_trans hk hz.2⟩, fun r hr => hs r (List.mem_of_mem_take hr), ?_⟩
 rw [hl]
 rcases h with h | ⟨g, off, rfl, hg, hc⟩
 ·exact .inl (by omega)
 ·refine .inr ⟨g, off, rfl, hg, fun j x hx => hc j x ?_⟩
  rw [← List.take_append_drop k rows, List.flatten_append, List.getElem?_append_left ((List.getElem?_eq_some_iff.1 hx).1)]
  exact hx
def Owns (w : World) (base : Nat) (e : TypeId) (sz : Nat) (v : Value) (rows : List (List Value)) : Prop := (∀ r ∈ rows, r.length = sz) ∧ w.ownsRow base e sz v rows.length rows.flatten
theorem Owns.lt {w : World} {base : Nat} {e : TypeId} {sz : Nat} {v : Value} {rows : List (List Value)} (h : Owns w base e sz v rows) : ∀ k, v.ownBlock = some k → base ≤ k ∧ k < w.heap.size := World.ownsRow.lt h.2
theorem Owns.lies {w : World} {base : Nat} {e : TypeId} {sz : Nat} {v : Value} {rows : List (List Value)} (h : Owns w base e sz v rows) : Lies w w.heap.size sz v rows := by
 have hlt := h.lt
 have hc := fun g hg => World.ownsRow.cells h.2 (g := g) hg
 rcases h.2.2 with ⟨rfl, h0⟩ | ⟨g, cap, cur, rfl, _, _, hcap, _⟩
 ·exact ⟨none, 0, by rw [h0], ⟨fun _ => rfl, by omega⟩, h.1, .inl h0⟩
 ·refine ⟨_, cap, rfl, ⟨fun e => (by cases e), hcap⟩, h.1, .inr ⟨g, 0, rfl, (hlt g rfl).2, fun k x hx => ?_⟩⟩
  have e : (⟨g, 0, none⟩ : Addr).add k = ⟨g, 0 + k, none⟩ := by cases k <;> simp [Addr.add]
  rw [← e]
  exact hc g rfl k x hx
theorem Owns.kept {w w' : World} {base : Nat} {e : TypeId} {sz : Nat} {v : Value} {rows : List (List Value)} (h : Owns w base e sz v rows) (hk : ∀ g, g < w.heap.size → v.ownBlock = some g → w'.heap[g]? = w.heap[g]?) : Owns w' base e sz v rows := by
 have hl := h.lt
 refine ⟨h.1, h.2.1, h.2.2.imp id ?_⟩
 rintro ⟨g, cap, cur, rfl, hg, hh, r⟩
 refine ⟨g, cap, cur, rfl, hg, ?_, r⟩
 rw [hk g (hl g rfl).2 rfl]
 exact hh
theorem Owns.on {w w' : World} {base : Nat} {e : TypeId} {sz : Nat} {v : Value} {rows : List (List Value)} (h : Owns w base e sz v rows) (hb : Below w.heap.size w w') : Owns w' base e sz v rows := h.kept fun g hg _ => hb.block g hg
theorem Owns.heap {w w' : World} {base : Nat} {e : TypeId} {sz : Nat} {v : Value} {rows : List (List Value)} (h : Owns w base e sz v rows) (hh : w'.heap = w.heap) : Owns w' base e sz v rows := h.kept fun g _ _ => by rw [hh]
theorem Owns.mono {w : World} {base base' : Nat} {e : TypeId} {sz : Nat} {v : Value} {rows : List (List Value)} (h : Owns w base e sz v rows) (hb : base' ≤ base) : Owns w base' e sz v rows :=
 ⟨h.1, h.2.1, h.2.2.imp id fun ⟨g, cap, cur, e, hg, r⟩ => ⟨g, cap, cur, e, Nat.le_trans hb hg, r⟩⟩
theorem getD_mem {α : Type} [Inhabited α] (l : List α) (j : Nat) (h : j < l.length) : l.getD j default ∈ l := by
 rw [List.getD_eq_getElem?_getD, List.getElem?_eq_getElem h]
 exact List.getElem_mem h
theorem getD_at {α : Type} [Inhabited α] (l : List α) (j : Nat) (h : j < l.length) : l[j] = l.getD j default := by
 rw [List.getD_eq_getElem?_getD, List.getElem?_eq_getElem h]
 rfl
theorem take_getD {α : Type} [Inhabited α] (l : List α) (j : Nat) (h : j < l.length) : l.take (j + 1) = l.take j ++ [l.getD j default] := by
 rw [List.take_add_one, List.getElem?_eq_getElem h, ← getD_at l j h]
 rfl
def ptC (x : Pnt) : List Value := [.int .i64 x.t, .int .i64 x.v]
def ptR (l : List Pnt) : List (List Value) := l.map ptC
theorem ptR_length (l : List Pnt) : (ptR l).length = l.length := by simp [ptR]
theorem ptR_append (l m : List Pnt) : ptR (l ++ m) = ptR l ++ ptR m := by simp [ptR]
theorem pt_look {w : World} {B : Nat} {v : Value} {l : List Pnt} (h : Lies w B 2 v (ptR l)) : ∃ A cap, v = .slice A l.length cap ∧ ∀ j, j < l.length → ∃ g off, A = some ⟨g, off, none⟩ ∧ g < B ∧
  w.cell? ⟨g, off + j * 2, none⟩ = some (.int .i64 (l.getD j default).t) ∧ w.cell? ⟨g, off + j * 2 + 1, none⟩ = some (.int .i64 (l.getD j default).v) := by
 obtain ⟨A, cap, e, h⟩ := h.look
 refine ⟨A, cap, by rw [e]; simp [ptR], fun j hj => ?_⟩
 rw [← getD_at l j hj]
 obtain ⟨g, off, e, hg, hc⟩ := h j (by simpa [ptR] using hj)
 refine ⟨g, off, e, hg, ?_, ?_⟩
 ·have := hc 0 _ (by omega) (by simp [ptR, ptC]; rfl); simpa [Nat.add_assoc] using this
 ·have := hc 1 _ (by omega) (by simp [ptR, ptC]; rfl); simpa [Nat.add_assoc] using this
theorem Lies.behind {w : World} {B sz g off n c : Nat} {rows : List (List Value)} (h : Lies w B sz (.slice (some ⟨g, off, none⟩) n c) rows) (k : Nat) (hk : k ≤ rows.length) : Lies w B sz (.slice (some ⟨g, off + k * sz, none⟩) (n - k) (c - k)) (rows.drop k) := by
 obtain ⟨A', c', e, hz, hs, h⟩ := h
 cases e
 have hl : (rows.drop k).length = rows.length - k := List.length_drop
 refine ⟨_, c - k, by rw [hl], ⟨fun e => (by cases e), by rw [hl]; have := hz.2; omega⟩, fun r hr => hs r (List.mem_of_mem_drop hr), ?_⟩
 rw [hl]
 rcases h with h | ⟨g', off', e, hg, hc⟩
 ·exact .inl (by omega)
 ·cases e
  refine .inr ⟨g, off + k * sz, rfl, hg, fun j x hx => ?_⟩
  have hl2 : (rows.take k).flatten.length = k * sz := by rw [flat_length sz _ (fun r hr => hs r (List.mem_of_mem_take hr)), List.length_take, Nat.min_eq_left hk]
  have := hc (k * sz + j) x (by
   rw [← List.take_append_drop k rows, List.flatten_append, List.getElem?_append_right (by omega), hl2, Nat.add_sub_cancel_left]
   exact hx)
  rw [← Nat.add_assoc] at this
  exact this
end Go.Proofs.YtifmjdakefkbiaaGreatDoor
namespace Go.Proofs.YtifmjdakefkbiaaGreatDoor
open Go.RowKit Go.PlainAid
section
variable {w : World} {base : Nat} {e : TypeId} {sz g cap : Nat} {rows : List (List Value)}
theorem Owns.free (h : Owns w base e sz (.slice (some ⟨g, 0, none⟩) rows.length cap) rows) (j : Nat) : w.frozen? ⟨g, j, none⟩ = false := World.ownsRow.frozenAt h.2 j
end
section
variable {w : World} {base : Nat} {e : TypeId} {sz g cap n j : Nat} {R : List (List Value)} {r : List Value}
end
def Blk (w : World) (g : Nat) (cs : Array Value) (t : TypeId) : Prop := w.heap[g]? = some (.cells cs t (0, 0))
theorem Blk.lt {w : World} {g : Nat} {cs : Array Value} {t : TypeId} (h : Blk w g cs t) : g < w.heap.size := lt_of_block h
theorem Blk.cell {w : World} {g : Nat} {cs : Array Value} {t : TypeId} (h : Blk w g cs t) (i : Nat) (x : Value) (hx : cs[i]? = some x) : w.cell? ⟨g, i, none⟩ = some x := by
 rw [cell_of_row w g i cs t (0, 0) h]
 exact hx
theorem Blk.free {w : World} {g : Nat} {cs : Array Value} {t : TypeId} (h : Blk w g cs t) (i : Nat) : w.frozen? ⟨g, i, none⟩ = false := frozen_of_row w g i cs t h
theorem Blk.set {w : World} {g : Nat} {cs : Array Value} {t : TypeId} (h : Blk w g cs t) (i : Nat) (x : Value) : Blk (w.setCell ⟨g, i, none⟩ x) g (cs.setIfInBounds i x) t := heap_setCell_same w g i cs t x h
theorem Blk.other {w : World} {g g' : Nat} {cs : Array Value} {t : TypeId} (h : Blk w g cs t) (hne : g ≠ g') (i : Nat) (x : Value) : Blk (w.setCell ⟨g', i, none⟩ x) g cs t := by
 unfold Blk
 rw [Below.heap_setCell _ _ _ _ hne]
 exact h
theorem Blk.on {w w' : World} {B g : Nat} {cs : Array Value} {t : TypeId} (h : Blk w g cs t) (hb : Below B w w') (hg : g < B) : Blk w' g cs t := by
 unfold Blk
 rw [hb.block g hg]
 exact h
theorem Blk.new (w : World) (cs : Array Value) (t : TypeId) : Blk (w.alloc (.cells cs t)) w.heap.size cs t := heap_alloc_new w _
theorem Blk.alloc {w : World} {g : Nat} {cs : Array Value} {t : TypeId} (h : Blk w g cs t) (o : Obj) : Blk (w.alloc o) g cs t := by
 unfold Blk
 rw [Below.heap_alloc w o g h.lt]
 exact h
theorem Owns.other {w : World} {base : Nat} {e : TypeId} {sz : Nat} {v : Value} {rows : List (List Value)} (h : Owns w base e sz v rows) {g : Nat} (hne : v.ownBlock ≠ some g) (i : Nat) (x : Value) : Owns (w.setCell ⟨g, i, none⟩ x) base e sz v rows :=
 h.kept fun k _ hk => Below.heap_setCell _ _ _ _ (fun e => hne (by rw [hk]; exact congrArg some e))
theorem Owns.below {w : World} {base : Nat} {e : TypeId} {sz : Nat} {v : Value} {rows : List (List Value)} (h : Owns w base e sz v rows) {g : Nat} (hg : g < base) : v.ownBlock ≠ some g := fun e => by
 have := (h.lt g e).1
 omega
theorem Owns.shape {w : World} {base : Nat} {e : TypeId} {sz : Nat} {v : Value} {rows : List (List Value)} (h : Owns w base e sz v rows) : ∃ A m c, v = .slice A m c := by
 rcases h.2.2 with ⟨rfl, _⟩ | ⟨g, cap, cur, rfl, _⟩
 ·exact ⟨_, _, _, rfl⟩
 ·exact ⟨_, _, _, rfl⟩
end Go.Proofs.YtifmjdakefkbiaaGreatDoor
namespace Go.Proofs.YtifmjdakefkbiaaGreatDoor
open Go.RowKit Go.PlainAid
structure Ent where
 term : Int
 data : ByteArray
structure Rcd where
 kind : Int
 term : Int
 index : Int
 vote : Int
 data : ByteArray
structure Wl where
 term : Int
 vote : Int
 base : Int
 bterm : Int
 ents : List Ent
instance : Inhabited Ent := ⟨⟨0, ByteArray.empty⟩⟩
instance : Inhabited Rcd := ⟨⟨0, 0, 0, 0, ByteArray.empty⟩⟩
def inIt (x lo hi : Int) : Bool := decide (lo ≤ x) && decide (x ≤ hi)
def based (index term : Int) : Bool := if index = 0 then decide (term = 0) else inIt index 1 100000 && inIt term 1 100000
def recOk (r : Rcd) : Bool :=
 if r.kind = 1 then inIt r.term 0 100000 && inIt r.vote (-1) 4 && decide (r.index = 0) && decide (r.data = ByteArray.empty)
 else if r.kind = 2 then inIt r.term 1 100000 && inIt r.index 1 100000 && decide (r.vote = 0) && decide (r.data.size ≤ 900)
 else if r.kind = 3 then decide (r.term = 0) && inIt r.index 1 100000 && decide (r.vote = 0) && decide (r.data = ByteArray.empty)
 else if r.kind = 4 then based r.index r.term && decide (r.vote = 0) && decide (r.data = ByteArray.empty)
 else false
def entsOk (top : Int) : Int → List Ent → Bool
 | _, [] => true
 | last, e :: r => decide (1 ≤ e.term) && decide (last ≤ e.term) && decide (e.term ≤ top) && decide (e.data.size ≤ 900) && entsOk top e.term r
def walOk (w : Wl) : Bool :=
 inIt w.term 0 100000 && inIt w.vote (-1) 4 && based w.base w.bterm && decide (w.bterm ≤ w.term) && decide (w.ents.length ≤ 60) && decide (w.base + w.ents.length ≤ 100000) && entsOk w.term w.bterm w.ents
end Go.Proofs.YtifmjdakefkbiaaGreatDoor
namespace Go.Proofs.YtifmjdakefkbiaaGreatDoor
open Go.RowKit Go.PlainAid
def entC (x : Ent) : List Value := [.int .i64 x.term, .string x.data]
def entR (l : List Ent) : List (List Value) := l.map entC
theorem entR_snoc (l : List Ent) (k : Nat) (h : k < l.length) : entR (l.take (k + 1)) = entR (l.take k) ++ [entC (l.getD k default)] := by
 unfold entR
 rw [take_getD l k h, List.map_append]
 rfl
theorem entR_length (l : List Ent) : (entR l).length = l.length := by simp [entR]
theorem entR_append (l m : List Ent) : entR (l ++ m) = entR l ++ entR m := by simp [entR]
theorem ent_look {w : World} {B : Nat} {v : Value} {l : List Ent} (h : Lies w B 2 v (entR l)) : ∃ A cap, v = .slice A l.length cap ∧ ∀ j, j < l.length → ∃ g off, A = some ⟨g, off, none⟩ ∧ g < B ∧
  w.cell? ⟨g, off + j * 2, none⟩ = some (.int .i64 (l.getD j default).term) ∧ w.cell? ⟨g, off + j * 2 + 1, none⟩ = some (.string (l.getD j default).data) := by
 obtain ⟨A, cap, e, h⟩ := h.look
 refine ⟨A, cap, by rw [e]; simp [entR], fun j hj => ?_⟩
 rw [← getD_at l j hj]
 obtain ⟨g, off, e, hg, hc⟩ := h j (by simpa [entR] using hj)
 refine ⟨g, off, e, hg, ?_, ?_⟩
 ·have := hc 0 _ (by omega) (by simp [entR, entC]; rfl); simpa [Nat.add_assoc] using this
 ·have := hc 1 _ (by omega) (by simp [entR, entC]; rfl); simpa [Nat.add_assoc] using this
def WalV (w : World) (B : Nat) (v : Value) (x : Wl) : Prop := ∃ u, v = .agg #[.int .i64 x.term, .int .i64 x.vote, .int .i64 x.base, .int .i64 x.bterm, u] ∧ Lies w B 2 u (entR x.ents)
theorem WalV.on {w w' : World} {B : Nat} {v : Value} {x : Wl} (h : WalV w B v x) (hb : Below B w w') : WalV w' B v x := by
 obtain ⟨u, e, h⟩ := h
 exact ⟨u, e, h.on hb⟩
theorem WalV.mono {w : World} {B C : Nat} {v : Value} {x : Wl} (h : WalV w B v x) (hB : B ≤ C) : WalV w C v x := by
 obtain ⟨u, e, h⟩ := h
 exact ⟨u, e, h.mono hB⟩
def WalO (w : World) (base : Nat) (v : Value) (x : Wl) : Prop := ∃ u, v = .agg #[.int .i64 x.term, .int .i64 x.vote, .int .i64 x.base, .int .i64 x.bterm, u] ∧ Owns w base 75 2 u (entR x.ents)
theorem WalO.lies {w : World} {base : Nat} {v : Value} {x : Wl} (h : WalO w base v x) : WalV w w.heap.size v x := by
 obtain ⟨u, e, h⟩ := h
 exact ⟨u, e, h.lies⟩
theorem WalO.on {w w' : World} {base : Nat} {v : Value} {x : Wl} (h : WalO w base v x) (hb : Below w.heap.size w w') : WalO w' base v x := by
 obtain ⟨u, e, h⟩ := h
 exact ⟨u, e, h.on hb⟩
theorem WalO.mono {w : World} {base base' : Nat} {v : Value} {x : Wl} (h : WalO w base v x) (hb : base' ≤ base) : WalO w base' v x := by
 obtain ⟨u, e, h⟩ := h
 exact ⟨u, e, h.mono hb⟩
structure FitsW (x : Wl) : Prop where
 n : x.ents.length ≤ maxLen
 d : ∀ e ∈ x.ents, e.data.size ≤ maxLen
end Go.Proofs.YtifmjdakefkbiaaGreatDoor
namespace Go.Proofs.YtifmjdakefkbiaaGreatDoor
open Go.ChangeShapes Go.WideShapes Go.ChangeAt Go.RowKit Go.PlainAid
set_option linter.unusedVariables false
theorem Buf.mod {w w' : World} {B C p : Nat} {v : Value} {l : List UInt8} (h : Buf w B v l) (hm : Mod C p w w') (hp : p < B) (hC : w.heap.size ≤ C) : Buf w' B v l := by
 obtain ⟨h1, h2⟩ := h
 refine ⟨h1, ?_⟩
 rcases h2 with h2 | ⟨g, cap, cur, hv, hg, hh, r⟩
 ·exact .inl h2
 ·refine .inr ⟨g, cap, cur, hv, hg, ?_, r⟩
  rw [hm.block g (by have := lt_of_block hh; omega) (by omega), hh]
def posN (len : Nat) : Nat → Pos → Pos
 | 0, s => s
 | k + 1, s => byteP len (posN len k s)
def txB (style x : Int) : Int := if style = 1 then x % 2 else if style = 2 then 97 + x % 4 else x
def txL (len : Nat) (cs : Nat → Nat) (style : Int) (s : Pos) : Nat → List UInt8
 | 0 => []
 | k + 1 => txL len cs style s k ++ [byt (txB style (byteV len cs (posN len k s))).toNat]
theorem txL_length (len : Nat) (cs : Nat → Nat) (style : Int) (s : Pos) (k : Nat) : (txL len cs style s k).length = k := by
 induction k with
 | zero => rfl
 | succ k ih => simp [txL, ih]
def textV (len : Nat) (cs : Nat → Nat) (most : Int) (s : Pos) : List UInt8 := txL len cs (belowV len cs 4 s) (belowP len (most + 1) (belowP len 4 s)) (belowV len cs (most + 1) (belowP len 4 s)).toNat
def textP (len : Nat) (cs : Nat → Nat) (most : Int) (s : Pos) : Pos := posN len (belowV len cs (most + 1) (belowP len 4 s)).toNat (belowP len (most + 1) (belowP len 4 s))
theorem textV_length (len : Nat) (cs : Nat → Nat) (most : Int) (s : Pos) (h : 0 ≤ most) : ((textV len cs most s).length : Int) ≤ most := by
 unfold textV
 rw [txL_length]
 have hb := belowV_bd len cs (most + 1) (belowP len 4 s)
 have := hb.2 (by omega)
 omega
set_option maxHeartbeats 2000000 in
theorem text_any (w : World) (p : Nat) (ao : Option Addr) (len cap : Nat) (cs : Nat → Nat) (s : Pos) (most : Int) (hm0 : 0 ≤ most) (hm1 : most ≤ 1000) (h : At w p ao len cap cs s) :
  Calls Tryz.prog 31 #[.pointer (some ⟨p, 0, none⟩), .int .i64 most] w fun e w' => e = .returned (.string (txt (textV len cs most s))) ∧ At w' p ao len cap cs (textP len cs most s) ∧ Mod w.heap.size p w w' := by
 have HA : Hid (At w p ao len cap cs s) := h
 have hlt := h.lt
 clear h
 have hb := belowV_bd len cs (most + 1) (belowP len 4 s)
 have HV : Hid (textV len cs most s = txL len cs (belowV len cs 4 s) (belowP len (most + 1) (belowP len 4 s)) (belowV len cs (most + 1) (belowP len 4 s)).toNat) := rfl
 have HP : Hid (textP len cs most s = posN len (belowV len cs (most + 1) (belowP len 4 s)).toNat (belowP len (most + 1) (belowP len 4 s))) := rfl
 go_enter Tryz.func31, Tryz.ntmps31
 go_wp2_with fail
 have hal : Below w.heap.size w (w.alloc (.cells #[] 5)) := (Below.refl _ _).alloc (Nat.le_refl _) _
 refine (below_any _ p ao len cap cs s 4 (by omega) (HA.out.below hal hlt)).mono ?_
 rintro e w1 ⟨rfl, hA1, hmd1⟩
 have hbuf1 : Buf w1 w.heap.size (.slice (some ⟨w.heap.size, 0, none⟩) 0 0) [] := (Buf.made w w.heap.size 0 #[] (Nat.le_refl _) (by simp [maxLen]) rfl).mod hmd1 hlt (Nat.le_refl _)
 have hM1 : Mod w.heap.size p w w1 := (Mod.of_below hal).trans (hmd1.mono (by simp))
 clear hmd1 hal
 go_wp2_with fail
 refine (below_any _ p ao len cap cs _ (most + 1) (by omega) hA1).mono ?_
 rintro e w2 ⟨rfl, hA2, hmd2⟩
 have hbuf2 := hbuf1.mod hmd2 hlt (Nat.le_refl _)
 have hM2 : Mod w.heap.size p w w2 := hM1.trans (hmd2.mono hM1.size)
 clear hmd2 hM1 hbuf1 hA1
 generalize hS : belowV len cs 4 s = style at *
 generalize hQ : belowP len (most + 1) (belowP len 4 s) = s2 at *
 generalize hN : belowV len cs (most + 1) (belowP len 4 s) = NN at *
 obtain ⟨N, rfl⟩ := Int.eq_ofNat_of_zero_le hb.1
 have hN2 : (N : Int) ≤ 1000 := by have := hb.2 (by omega); omega
 clear hb hS hQ hN
 rw [Int.toNat_natCast] at HV HP
 go_wp2_with fail
 go_loopw [5, 7] (fun v5 v7 wr => ∃ k : Nat, k ≤ N ∧ v7 = .int .i64 ((N : Int) - (k : Int)) ∧ Buf wr w.heap.size v5 (txL len cs style s2 k) ∧ At wr p ao len cap cs (posN len k s2) ∧ Mod w.heap.size p w wr) (fun _ i _ => (intOf i).toNat)
 case atStart => exact ⟨0, by omega, by go_num, hbuf2, hA2, hM2⟩
 case round =>
  obtain ⟨k, hk, rfl, hbuf, hAt, hM⟩ := hrel
  have HAt : Hid (At wr p ao len cap cs (posN len k s2)) := hAt
  clear hAt hA2 hM2 hbuf2
  by_cases hkN : k < N
  ·obtain ⟨X, hX⟩ : ∃ X, byteV len cs (posN len k s2) = X := ⟨_, rfl⟩
   have hxb := byteV_bd len cs (posN len k s2)
   rw [hX] at hxb
   obtain ⟨x1, x2⟩ := hxb
   have HX : Hid (byteV len cs (posN len k s2) = X) := hX
   clear hX
   by_cases st1 : style = 1
   ·have st2 : ¬ style = 2 := by omega
    have z1 : (style == 1) = true := by simpa using st1
    have z2 : (style == 2) = false := by simpa using st2
    have HT : Hid (txB style X = X % 2) := by show txB style X = _; rw [txB, if_pos st1]
    have HC : Hid (#[Value.int .u8 (X % 2)] = byteCells [byt (txB style X).toNat]) := one_cell _ _ (by rw [HT.out]; omega) (by rw [HT.out]; omega)
    clear st1 st2
    go_wp2_with fail
    refine (byte_any _ p ao len cap cs _ HAt.out).mono ?_
    rintro e w3 ⟨rfl, hA3, hmd3⟩
    rw [HX.out]
    have hbuf3 := hbuf.mod hmd3 hlt (Nat.le_refl _)
    have hM3 : Mod w.heap.size p w w3 := hM.trans (hmd3.mono hM.size)
    have hsz := hM3.size
    clear hmd3 hbuf
    go_wp2_with (at_builtin; refine wpList_append_bytes rfl (.tmp 31) (.tmp 34) 22 rfl Tryz.underlying22 Tryz.info5 w.heap.size _ (txL len cs style s2 k) rfl hbuf3 _ [byt (txB style X).toNat] HC.out 1 1 rfl rfl (by rw [txL_length]; simp; omega) hsz ?_; intro v' w4 hbuf4 hb4)
    have hA4 := hA3.below hb4 hlt
    have hM4 : Mod w.heap.size p w w4 := hM3.trans (Mod.of_below hb4)
    go_roundw
    case rel => exact ⟨k + 1, by omega, by go_num, by rw [txL, HX.out]; exact hbuf4, hA4, hM4⟩
    case measure => simp [intOf]; omega
   ·by_cases st2 : style = 2
    ·have z1 : (style == 1) = false := by simpa using st1
     have z2 : (style == 2) = true := by simpa using st2
     have HT : Hid (txB style X = 97 + X % 4) := by show txB style X = _; rw [txB, if_neg st1, if_pos st2]
     have HC : Hid (#[Value.int .u8 (97 + X % 4)] = byteCells [byt (txB style X).toNat]) := one_cell _ _ (by rw [HT.out]; omega) (by rw [HT.out]; omega)
     clear st1 st2
     go_wp2_with fail
     refine (byte_any _ p ao len cap cs _ HAt.out).mono ?_
     rintro e w3 ⟨rfl, hA3, hmd3⟩
     rw [HX.out]
     have hbuf3 := hbuf.mod hmd3 hlt (Nat.le_refl _)
     have hM3 : Mod w.heap.size p w w3 := hM.trans (hmd3.mono hM.size)
     have hsz := hM3.size
     clear hmd3 hbuf
     go_wp2_with (at_builtin; refine wpList_append_bytes rfl (.tmp 31) (.tmp 34) 22 rfl Tryz.underlying22 Tryz.info5 w.heap.size _ (txL len cs style s2 k) rfl hbuf3 _ [byt (txB style X).toNat] HC.out 1 1 rfl rfl (by rw [txL_length]; simp; omega) hsz ?_; intro v' w4 hbuf4 hb4)
     have hA4 := hA3.below hb4 hlt
     have hM4 : Mod w.heap.size p w w4 := hM3.trans (Mod.of_below hb4)
     go_roundw
     case rel => exact ⟨k + 1, by omega, by go_num, by rw [txL, HX.out]; exact hbuf4, hA4, hM4⟩
     case measure => simp [intOf]; omega
    ·have z1 : (style == 1) = false := by simpa using st1
     have z2 : (style == 2) = false := by simpa using st2
     have HT : Hid (txB style X = X) := by show txB style X = _; rw [txB, if_neg st1, if_neg st2]
     have HC : Hid (#[Value.int .u8 (X)] = byteCells [byt (txB style X).toNat]) := one_cell _ _ (by rw [HT.out]; omega) (by rw [HT.out]; omega)
     clear st1 st2
     go_wp2_with fail
     refine (byte_any _ p ao len cap cs _ HAt.out).mono ?_
     rintro e w3 ⟨rfl, hA3, hmd3⟩
     rw [HX.out]
     have hbuf3 := hbuf.mod hmd3 hlt (Nat.le_refl _)
     have hM3 : Mod w.heap.size p w w3 := hM.trans (hmd3.mono hM.size)
     have hsz := hM3.size
     clear hmd3 hbuf
     go_wp2_with (at_builtin; refine wpList_append_bytes rfl (.tmp 31) (.tmp 34) 22 rfl Tryz.underlying22 Tryz.info5 w.heap.size _ (txL len cs style s2 k) rfl hbuf3 _ [byt (txB style X).toNat] HC.out 1 1 rfl rfl (by rw [txL_length]; simp; omega) hsz ?_; intro v' w4 hbuf4 hb4)
     have hA4 := hA3.below hb4 hlt
     have hM4 : Mod w.heap.size p w w4 := hM3.trans (Mod.of_below hb4)
     go_roundw
     case rel => exact ⟨k + 1, by omega, by go_num, by rw [txL, HX.out]; exact hbuf4, hA4, hM4⟩
     case measure => simp [intOf]; omega
  ·have hkk : k = N := by omega
   have HK : Hid (k = N) := hkk
   have z : (N : Int) - (k : Int) ≤ 0 := by omega
   clear hkk
   have hcv := hbuf.string (P := Tryz.prog) 22 9 Tryz.underlying22 Tryz.underlying5 Tryz.underlying9
   go_wp2_with fail
   go_ret
   rw [HV.out, HP.out, ← HK.out]
   exact ⟨rfl, HAt.out, hM⟩
end Go.Proofs.YtifmjdakefkbiaaGreatDoor
namespace Go.Proofs.YtifmjdakefkbiaaGreatDoor
open Go.ChangeShapes Go.WideShapes Go.ChangeAt Go.RowKit Go.PlainAid
set_option linter.unusedVariables false
theorem CodeIs.on {w w' : World} {ao : Option Addr} {len : Nat} {cs : Nat → Nat} (h : CodeIs w w.heap.size ao len cs) (hb : Below w.heap.size w w') : CodeIs w' w'.heap.size ao len cs := by
 rcases h with h | ⟨cb, co, rfl, hcb, hj⟩
 ·exact .inl h
 ·exact .inr ⟨cb, co, rfl, Nat.lt_of_lt_of_le hcb hb.size, fun j hj' => ⟨(hj j hj').1, by rw [← (hj j hj').2]; exact World.cell?_of_block (w := w) (hb.block cb hcb)⟩⟩
set_option maxHeartbeats 400000 in
theorem big_no (w : World) (ao : Option Addr) (len cap : Nat) (hl : len ≤ 1048576) : Calls Tryz.prog 6 #[.slice ao len cap] w fun e w' => e = .returned (.bool false) ∧ w = w' := by
 have q : (len : Int) ≤ 1048576 := by omega
 have q2 : decide ((1048576 : Int) < (len : Int)) = false := by simp; omega
 go_enter Tryz.func6, Tryz.ntmps6
 go_wp2
 go_ret
 exact ⟨rfl, rfl⟩
set_option maxHeartbeats 400000 in
theorem big_yes (w : World) (ao : Option Addr) (len cap : Nat) (hl : 1048576 < len) (h2 : len ≤ 9223372036854775807) : Calls Tryz.prog 6 #[.slice ao len cap] w fun e w' => e = .returned (.bool true) ∧ w = w' := by
 have q : (1048576 : Int) < (len : Int) := by omega
 go_enter Tryz.func6, Tryz.ntmps6
 go_wp2
 go_ret
 exact ⟨rfl, rfl⟩
set_option maxHeartbeats 1000000 in
theorem pick_any (w : World) (p : Nat) (ao : Option Addr) (len cap : Nat) (cs : Nat → Nat) (s : Pos) (g : Nat) (xs : List Int) (hn : 0 < xs.length) (hn2 : xs.length ≤ 1000) (h : At w p ao len cap cs s) (hgp : g ≠ p) (hg : g < w.heap.size)
  (hcell : ∀ j, j < xs.length → w.cell? ⟨g, j, none⟩ = some (.int .i64 (xs.getD j 0))) :
  Calls Tryz.prog 79 #[.pointer (some ⟨p, 0, none⟩), .slice (some ⟨g, 0, none⟩) xs.length xs.length] w fun e w' =>
   e = .returned (.int .i64 (xs.getD (belowV len cs (xs.length : Int) s).toNat 0)) ∧ At w' p ao len cap cs (belowP len (xs.length : Int) s) ∧ Mod w.heap.size p w w' := by
 have HA : Hid (At w p ao len cap cs s) := h
 clear h
 have HC : Hid (∀ j, j < xs.length → w.cell? ⟨g, j, none⟩ = some (.int .i64 (xs.getD j 0))) := hcell
 clear hcell
 have hb := belowV_bd len cs (xs.length : Int) s
 have q0 : (xs.length : Int) ≤ 1000 := by omega
 go_enter Tryz.func79, Tryz.ntmps79
 go_wp2_with fail
 refine (below_any _ p ao len cap cs s (xs.length : Int) (by omega) HA.out).mono ?_
 rintro e w1 ⟨rfl, hA1, hm1⟩
 obtain ⟨k, hk⟩ := Int.eq_ofNat_of_zero_le hb.1
 have hk2 : k < xs.length := by have := hb.2 (by omega); omega
 have HB : Hid (belowV len cs (xs.length : Int) s = (k : Int)) := hk
 rw [hk]
 clear hk hb
 have hc1 : w1.cell? ⟨g, k, none⟩ = some (.int .i64 (xs.getD k 0)) := by
  rw [← HC.out k hk2]
  exact World.cell?_of_block (w := w) (hm1.block g hg hgp)
 have q1 : (k : Int) < (xs.length : Int) := by omega
 go_wp2_with fail
 go_ret
 have ev : xs.getD ((k : Int)).toNat 0 = xs[k] := by simp [hk2]
 rw [HB.out, ev]
 exact ⟨rfl, hA1, hm1⟩
def AtS (w : World) (p : Nat) : Prop := ∃ ao len cap cs s, At w p ao len cap cs s
theorem AtS.lt {w : World} {p : Nat} (h : AtS w p) : p < w.heap.size := by obtain ⟨_, _, _, _, _, h⟩ := h; exact h.lt
theorem AtS.below {w w' : World} {B p : Nat} (h : AtS w p) (hb : Below B w w') (hp : p < B) : AtS w' p := by
 obtain ⟨ao, len, cap, cs, s, h⟩ := h
 exact ⟨ao, len, cap, cs, s, h.below hb hp⟩
theorem Blk.mod {w w' : World} {C p g : Nat} {cs : Array Value} {t : TypeId} (h : Blk w g cs t) (hm : Mod C p w w') (hg : g < C) (hp : g ≠ p) : Blk w' g cs t := by
 unfold Blk
 rw [hm.block g hg hp]
 exact h
theorem once_some (w : World) (p : Nat) (n : Int) (h1 : n ≤ 1000) (h : AtS w p) :
  Calls Tryz.prog 62 #[.pointer (some ⟨p, 0, none⟩), .int .i64 n] w fun e w' => ∃ b : Bool, e = .returned (.bool b) ∧ AtS w' p ∧ Mod w.heap.size p w w' := by
 obtain ⟨ao, len, cap, cs, s, h⟩ := h
 exact (once_any w p ao len cap cs s n (by omega) h).mono fun e w' k => ⟨_, k.1, ⟨_, _, _, _, _, k.2.1⟩, k.2.2⟩
theorem Nums.mod {w w' : World} {C p base : Nat} {v : Value} {l : List Int} (h : Nums w base v l) (hm : Mod C p w w') (hp : p < base) (hC : w.heap.size ≤ C) : Nums w' base v l :=
 h.kept fun g hg ho => hm.block g (Nat.lt_of_lt_of_le hg hC) (by have := (h.lt g ho).1; omega)
theorem belowS (w : World) (p : Nat) (n : Int) (h0 : 0 < n) (h1 : n ≤ 1000000) (h : AtS w p) :
  Calls Tryz.prog 72 #[.pointer (some ⟨p, 0, none⟩), .int .i64 n] w fun e w' => ∃ v : Int, e = .returned (.int .i64 v) ∧ (0 ≤ v ∧ v < n) ∧ AtS w' p ∧ Mod w.heap.size p w w' := by
 obtain ⟨ao, len, cap, cs, s, h⟩ := h
 have bd := belowV_bd len cs n s
 exact (below_any w p ao len cap cs s n (by omega) h).mono fun e w' k => ⟨_, k.1, ⟨bd.1, bd.2 h0⟩, ⟨_, _, _, _, _, k.2.1⟩, k.2.2⟩
theorem getD_all (xs : List Int) (P : Int → Prop) (h0 : P 0) (h : ∀ z ∈ xs, P z) (j : Nat) : P (xs.getD j 0) := by
 by_cases hj : j < xs.length
 ·refine h _ ?_
  simp [List.getD, hj]
 ·simpa [List.getD, hj] using h0
theorem pickS (w : World) (p g : Nat) (xs : List Int) (n : Nat) (hn : xs.length = n) (h0 : 0 < n) (h1 : n ≤ 1000) (P : Int → Prop) (hP0 : P 0) (hP : ∀ z ∈ xs, P z) (h : AtS w p) (hgp : g ≠ p) (hB : Blk w g (numCells xs).toArray 3) :
  Calls Tryz.prog 79 #[.pointer (some ⟨p, 0, none⟩), .slice (some ⟨g, 0, none⟩) n n] w fun e w' => ∃ v : Int, e = .returned (.int .i64 v) ∧ P v ∧ AtS w' p ∧ Mod w.heap.size p w w' := by
 obtain ⟨ao, len, cap, cs, s, h⟩ := h
 subst hn
 refine (pick_any w p ao len cap cs s g xs h0 h1 h hgp hB.lt ?_).mono fun e w' k => ⟨_, k.1, getD_all xs P hP0 hP _, ⟨_, _, _, _, _, k.2.1⟩, k.2.2⟩
 intro j hj
 refine hB.cell _ _ ?_
 simp [numCells, hj]
theorem Owns.mod {w w' : World} {C p base : Nat} {e : TypeId} {sz : Nat} {v : Value} {rows : List (List Value)} (h : Owns w base e sz v rows) (hm : Mod C p w w') (hp : p < base) (hC : w.heap.size ≤ C) : Owns w' base e sz v rows :=
 h.kept fun g hg ho => hm.block g (Nat.lt_of_lt_of_le hg hC) (by have := (h.lt g ho).1; omega)
theorem text_some (w : World) (p : Nat) (n : Int) (h0 : 0 ≤ n) (h1 : n ≤ 1000) (h : AtS w p) :
  Calls Tryz.prog 31 #[.pointer (some ⟨p, 0, none⟩), .int .i64 n] w fun e w' => ∃ d : ByteArray, e = .returned (.string d) ∧ d.size ≤ 1000 ∧ AtS w' p ∧ Mod w.heap.size p w w' := by
 obtain ⟨ao, len, cap, cs, s, h⟩ := h
 have hl := textV_length len cs n s h0
 exact (text_any w p ao len cap cs s n h0 h1 h).mono fun e w' k => ⟨_, k.1, by rw [txt_size]; omega, ⟨_, _, _, _, _, k.2.1⟩, k.2.2⟩
end Go.Proofs.YtifmjdakefkbiaaGreatDoor
namespace Go.Proofs.YtifmjdakefkbiaaGreatDoor
open Go.ChangeShapes Go.WideShapes Go.ChangeAt Go.RowKit Go.PlainAid
set_option linter.unusedVariables false
theorem run_byte_cell {P : Program} (w : World) (src dst e : TypeId) (hs : P.underlying src = some (.slice e)) (he : P.underlying e = some (.int .u8)) (hd : P.underlying dst = some .string) (z : Int) (h0 : 0 ≤ z) (h1 : z ≤ 255) (cap : Nat) :
  (convert src dst (.slice (some ⟨w.heap.size, 0, none⟩) 1 cap)).run P (w.alloc (.cells #[.int .u8 z] e)) = .ok (.string (txt [byt z.toNat])) (w.alloc (.cells #[.int .u8 z] e)) := by
 have := run_one_byte (P := P) w src dst e hs he hd z.toNat cap
 rw [Nat.mod_eq_of_lt (show z.toNat < 256 by omega), show ((z.toNat : Nat) : Int) = z by omega] at this
 exact this
theorem extract_size (s : ByteArray) (a b : Nat) (h : a ≤ b) (hb : b ≤ s.size) : (s.extract a b).size = b - a := by
 rw [ByteArray.size_extract]
 omega
def spK (len : Nat) (cs : Nat → Nat) (t : ByteArray) (s : Pos) : Nat := (belowV len cs (t.size : Int) s).toNat
def sp1 (len : Nat) (t : ByteArray) (s : Pos) : Pos := belowP len (t.size : Int) s
def spM (len : Nat) (cs : Nat → Nat) (t : ByteArray) (s : Pos) : Int := belowV len cs 4 (sp1 len t s)
def sp2 (len : Nat) (t : ByteArray) (s : Pos) : Pos := belowP len 4 (sp1 len t s)
def spT (len : Nat) (cs : Nat → Nat) (t : ByteArray) (s : Pos) : ByteArray :=
 if spM len cs t s = 0 then t.extract 0 (spK len cs t s) ++ t.extract (spK len cs t s + 1) t.size
 else if spM len cs t s = 1 then t.extract 0 (spK len cs t s) ++ txt [byt (byteV len cs (sp2 len t s)).toNat] ++ t.extract (spK len cs t s) t.size
 else if spM len cs t s = 2 then t.extract 0 (spK len cs t s)
 else t.extract 0 (spK len cs t s) ++ txt [byt (bits .xor .i64 (bn t (spK len cs t s) : Int) (1 + belowV len cs 255 (sp2 len t s)) % 256).toNat] ++ t.extract (spK len cs t s + 1) t.size
def spP (len : Nat) (cs : Nat → Nat) (t : ByteArray) (s : Pos) : Pos :=
 if spM len cs t s = 0 then sp2 len t s else if spM len cs t s = 1 then byteP len (sp2 len t s) else if spM len cs t s = 2 then sp2 len t s else belowP len 255 (sp2 len t s)
theorem spK_lt (len : Nat) (cs : Nat → Nat) (t : ByteArray) (s : Pos) (h : 1 ≤ t.size) : spK len cs t s < t.size := by
 have hb := belowV_bd len cs (t.size : Int) s
 have := hb.2 (by omega)
 unfold spK
 omega
theorem spT_size (len : Nat) (cs : Nat → Nat) (t : ByteArray) (s : Pos) (h : 1 ≤ t.size) : (spT len cs t s).size ≤ t.size + 1 := by
 have hk := spK_lt len cs t s h
 unfold spT
 split
 ·rw [ByteArray.size_append, extract_size _ _ _ (by omega) (by omega), extract_size _ _ _ (by omega) (by omega)]
  omega
 ·split
  ·rw [ByteArray.size_append, ByteArray.size_append, extract_size _ _ _ (by omega) (by omega), extract_size _ _ _ (by omega) (by omega), txt_size]
   simp
   omega
  ·split
   ·rw [extract_size _ _ _ (by omega) (by omega)]
    omega
   ·rw [ByteArray.size_append, ByteArray.size_append, extract_size _ _ _ (by omega) (by omega), extract_size _ _ _ (by omega) (by omega), txt_size]
    simp
    omega
set_option maxHeartbeats 2000000 in
theorem spoil_some (w : World) (p : Nat) (ao : Option Addr) (len cap : Nat) (cs : Nat → Nat) (s : Pos) (t : ByteArray) (ht1 : 1 ≤ t.size) (ht2 : t.size ≤ 100000) (h : At w p ao len cap cs s) :
  Calls Tryz.prog 63 #[.pointer (some ⟨p, 0, none⟩), .string t] w fun e w' => e = .returned (.string (spT len cs t s)) ∧ At w' p ao len cap cs (spP len cs t s) ∧ Mod w.heap.size p w w' := by
 have HA : Hid (At w p ao len cap cs s) := h
 clear h
 have hbt := get_bn t
 have q1 : (t.size : Int) ≤ 100000 := by omega
 have q0 : (1 : Int) ≤ (t.size : Int) := by omega
 have z0 : ((t.size : Int) == 0) = false := beq_eq_false_iff_ne.2 (by omega)
 have hb := belowV_bd len cs (t.size : Int) s
 have hkk := spK_lt len cs t s ht1
 go_enter Tryz.func63, Tryz.ntmps63
 go_wp2_with fail
 refine (below_any _ p ao len cap cs s (t.size : Int) (by omega) HA.out).mono ?_
 rintro e w1 ⟨rfl, hA1, hm1⟩
 have ek : belowV len cs (t.size : Int) s = ((spK len cs t s : Nat) : Int) := by unfold spK; have := hb.1; omega
 rw [ek]
 clear ek hb
 go_wp2_with fail
 refine (below_any _ p ao len cap cs _ 4 (by omega) hA1).mono ?_
 rintro e w2 ⟨rfl, hA2, hm2⟩
 have hM2 : Mod w.heap.size p w w2 := hm1.trans (hm2.mono hm1.size)
 clear hm1 hm2 hA1
 have hA2' : At w2 p ao len cap cs (sp2 len t s) := hA2
 clear hA2
 have eM : belowV len cs 4 (belowP len (t.size : Int) s) = spM len cs t s := rfl
 rw [eM]
 clear eM
 generalize hK : spK len cs t s = k at *
 have HK : Hid (spK len cs t s = k) := hK
 clear hK
 have e1 := extract_size t 0 k (by omega) (by omega)
 have e2 := extract_size t (k + 1) t.size (by omega) (by omega)
 have e3 := extract_size t k t.size (by omega) (by omega)
 have s1 : ¬ (9223372036854775807 < (t.extract 0 k).size + (t.extract (k + 1) t.size).size) := by rw [e1, e2]; omega
 have r1 : (k : Int) < (t.size : Int) := by omega
 have HA2 : Hid (At w2 p ao len cap cs (sp2 len t s)) := hA2'
 clear hA2'
 clear e1 e2 e3
 by_cases c0 : spM len cs t s = 0
 ·have y0 : (spM len cs t s == 0) = true := by rw [c0]; rfl
  have HT : Hid (spT len cs t s = t.extract 0 k ++ t.extract (k + 1) t.size) := by show spT len cs t s = _; rw [spT, if_pos c0, HK.out]
  have HP : Hid (spP len cs t s = sp2 len t s) := by show spP len cs t s = _; rw [spP, if_pos c0]
  clear c0
  go_wp2_with fail
  go_quiet (fail)
  go_wp2_with fail
  go_ret
  rw [HT.out, HP.out]
  exact ⟨rfl, HA2.out.below (below_drewN (Below.refl (p + 1) _) _) (by omega), hM2.drewN _⟩
 ·have y0 : (spM len cs t s == 0) = false := beq_eq_false_iff_ne.2 c0
  by_cases c1 : spM len cs t s = 1
  ·have y1 : (spM len cs t s == 1) = true := by rw [c1]; rfl
   have HT : Hid (spT len cs t s = t.extract 0 k ++ txt [byt (byteV len cs (sp2 len t s)).toNat] ++ t.extract k t.size) := by show spT len cs t s = _; rw [spT, if_neg c0, if_pos c1, HK.out]
   have HP : Hid (spP len cs t s = byteP len (sp2 len t s)) := by show spP len cs t s = _; rw [spP, if_neg c0, if_pos c1]
   clear c0 c1
   obtain ⟨X, hX⟩ : ∃ X, byteV len cs (sp2 len t s) = X := ⟨_, rfl⟩
   have hxb := byteV_bd len cs (sp2 len t s)
   rw [hX] at hxb
   have HX : Hid (byteV len cs (sp2 len t s) = X) := hX
   clear hX
   obtain ⟨x1, x2⟩ := hxb
   have hcv := fun wx => run_byte_cell (P := Tryz.prog) wx 22 9 5 Tryz.underlying22 Tryz.underlying5 Tryz.underlying9 X x1 x2 1
   have ew : IntKind.u8.wrap X = X := by rw [IntKind.wrap_u8']; omega
   have eb : (txt [byt X.toNat]).size ≤ 1 := Nat.le_refl _
   go_wp2_with fail
   have r2 : (k : Int) ≤ (t.size : Int) := by omega
   have r3 : (0 : Int) ≤ (k : Int) := by omega
   go_region_with (go_at_call 73; refine (byte_any _ p ao len cap cs _ (by exact HA2.out)).mono ?_; rintro e w3 ⟨rfl, hA3, hm3⟩; rw [HX.out])
   all_goals
    go_wp2_with fail
    go_ret
    rw [HT.out, HP.out, HX.out]
    have hal : Below w3.heap.size w3 (w3.alloc (.cells #[.int .u8 X] 5)) := (Below.refl _ _).alloc (Nat.le_refl _) _
    have hM3 : Mod w.heap.size p w w3 := hM2.drew.trans (hm3.mono hM2.size)
    exact ⟨rfl, hA3.below hal hA3.lt, hM3.trans (Mod.of_below (hal.mono hM3.size))⟩
  ·have y1 : (spM len cs t s == 1) = false := beq_eq_false_iff_ne.2 c1
   by_cases c2 : spM len cs t s = 2
   ·have y2 : (spM len cs t s == 2) = true := by rw [c2]; rfl
    have HT : Hid (spT len cs t s = t.extract 0 k) := by show spT len cs t s = _; rw [spT, if_neg c0, if_neg c1, if_pos c2, HK.out]
    have HP : Hid (spP len cs t s = sp2 len t s) := by show spP len cs t s = _; rw [spP, if_neg c0, if_neg c1, if_pos c2]
    clear c0 c1 c2
    have r2 : (k : Int) ≤ (t.size : Int) := by omega
    go_wp2_with fail
    go_ret
    rw [HT.out, HP.out]
    exact ⟨rfl, HA2.out, hM2⟩
   ·have y2 : (spM len cs t s == 2) = false := beq_eq_false_iff_ne.2 c2
    have HT : Hid (spT len cs t s = t.extract 0 k ++ txt [byt (bits .xor .i64 (bn t k : Int) (1 + belowV len cs 255 (sp2 len t s)) % 256).toNat] ++ t.extract (k + 1) t.size) := by show spT len cs t s = _; rw [spT, if_neg c0, if_neg c1, if_neg c2, HK.out]
    have HP : Hid (spP len cs t s = belowP len 255 (sp2 len t s)) := by show spP len cs t s = _; rw [spP, if_neg c0, if_neg c1, if_neg c2]
    clear c0 c1 c2
    obtain ⟨X, hX⟩ : ∃ X, belowV len cs 255 (sp2 len t s) = X := ⟨_, rfl⟩
    have hxb := belowV_bd len cs 255 (sp2 len t s)
    rw [hX] at hxb
    have HX : Hid (belowV len cs 255 (sp2 len t s) = X) := hX
    clear hX
    have x1 := hxb.1
    have x2 := hxb.2 (by omega)
    clear hxb
    obtain ⟨Z, hZ⟩ : ∃ Z, bits .xor .i64 (bn t k : Int) (1 + X) % 256 = Z := ⟨_, rfl⟩
    have z1 : 0 ≤ Z := by rw [← hZ]; exact Int.emod_nonneg _ (by omega)
    have z2 : Z ≤ 255 := by have := Int.emod_lt_of_pos (bits .xor .i64 (bn t k : Int) (1 + X)) (show (0 : Int) < 256 by omega); omega
    have HZ : Hid (bits .xor .i64 (bn t k : Int) (1 + X) % 256 = Z) := hZ
    have wz : IntKind.u8.wrap (bits .xor .i64 (bn t k : Int) (1 + X)) = Z := by rw [IntKind.wrap_u8']; exact hZ
    have hcv := fun wx => run_byte_cell (P := Tryz.prog) wx 22 9 5 Tryz.underlying22 Tryz.underlying5 Tryz.underlying9 Z z1 z2 1
    have eb : (txt [byt Z.toNat]).size ≤ 1 := Nat.le_refl _
    have hbk := bn_lt t k
    have f1 : IntKind.i64.wrap (bn t k : Int) = (bn t k : Int) := Lib.wrap_i64_small _ (by omega)
    have f2 : IntKind.i64.wrap (1 + X) = 1 + X := by
     obtain ⟨n, rfl⟩ := Int.eq_ofNat_of_zero_le x1
     rw [show (1 + (n : Int)) = ((1 + n : Nat) : Int) by omega]
     exact Lib.wrap_i64_small _ (by omega)
    have f3 : IntKind.i64.wrap ((k : Int) + 1) = (k : Int) + 1 := by
     rw [show ((k : Int) + 1) = ((k + 1 : Nat) : Int) by omega]
     exact Lib.wrap_i64_small _ (by omega)
    have r2 : (k : Int) ≤ (t.size : Int) := by omega
    have r3 : (0 : Int) ≤ (k : Int) := by omega
    have r4 : (k : Int) + 1 ≤ (t.size : Int) := by omega
    go_wp2_with fail
    go_region_with (go_at_call 72; refine (below_any _ p ao len cap cs _ 255 (by omega) (by exact HA2.out)).mono ?_; rintro e w3 ⟨rfl, hA3, hm3⟩; rw [HX.out])
    all_goals
     go_wp2_with fail
     go_ret
     rw [HT.out, HP.out, HX.out, HZ.out]
     have hal : Below w3.heap.size w3 (w3.alloc (.cells #[.int .u8 Z] 5)) := (Below.refl _ _).alloc (Nat.le_refl _) _
     have hM3 : Mod w.heap.size p w w3 := hM2.drew.trans (hm3.mono hM2.size)
     exact ⟨rfl, hA3.below hal hA3.lt, hM3.trans (Mod.of_below (hal.mono hM3.size))⟩
end Go.Proofs.YtifmjdakefkbiaaGreatDoor
namespace Go.Proofs.YtifmjdakefkbiaaGreatDoor
open Go.ChangeShapes Go.WideShapes Go.ChangeAt Go.RowKit Go.PlainAid
set_option linter.unusedVariables false
theorem spoilS (w : World) (p : Nat) (t : ByteArray) (ht : t.size ≤ 100000) (h : AtS w p) :
  Calls Tryz.prog 63 #[.pointer (some ⟨p, 0, none⟩), .string t] w fun e w' => ∃ d : ByteArray, e = .returned (.string d) ∧ d.size ≤ t.size + 1000 ∧ AtS w' p ∧ Mod w.heap.size p w w' := by
 by_cases h0 : t.size = 0
 ·have HA : Hid (AtS w p) := h
  clear h
  have z0 : ((t.size : Int) == 0) = true := beq_iff_eq.2 (by omega)
  clear h0
  go_enter Tryz.func63, Tryz.ntmps63
  go_wp2_with fail
  refine (text_some _ p 3 (by omega) (by omega) HA.out).mono ?_
  rintro e w1 ⟨d, rfl, hd, hA1, hm1⟩
  go_wp2_with fail
  go_ret
  exact ⟨d, rfl, by omega, hA1, hm1⟩
 ·obtain ⟨ao, len, cap, cs, s, h⟩ := h
  refine (spoil_some w p ao len cap cs s t (by omega) ht h).mono ?_
  rintro e w' ⟨he, hA, hm⟩
  have := spT_size len cs t s (by omega)
  exact ⟨_, he, by omega, ⟨_, _, _, _, _, hA⟩, hm⟩
def atV (len : Nat) (cs : Nat → Nat) (i : Nat) : Nat := if i < len then cs i else (i * 37 + len * 11) % 256
theorem atV_lt {w : World} {p : Nat} {ao : Option Addr} {len : Nat} {cs : Nat → Nat} (h : CodeIs w p ao len cs) (i : Nat) : atV len cs i < 256 := by
 unfold atV
 split
 ·rename_i hi
  obtain ⟨_, _, _, _, h, _⟩ := h.at hi
  exact h
 ·omega
set_option maxHeartbeats 400000 in
theorem at_any (w : World) (ao : Option Addr) (len cap : Nat) (cs : Nat → Nat) (i : Nat) (hl : len ≤ 1048576) (hi : i ≤ 100000) (h : CodeIs w w.heap.size ao len cs) :
  Calls Tryz.prog 9 #[.slice ao len cap, .int .i64 (i : Int)] w fun e w' => e = .returned (.int .i64 (atV len cs i : Int)) ∧ w = w' := by
 have q : (len : Int) ≤ 1048576 := by omega
 have q2 : (i : Int) ≤ 100000 := by omega
 by_cases hlt : i < len
 ·obtain ⟨cb, co, rfl, _, hb, hc⟩ := h.at hlt
  have q3 : (i : Int) < (len : Int) := by omega
  have EV : Hid (atV len cs i = cs i) := by unfold Hid; rw [atV, if_pos hlt]
  have w1 : IntKind.i64.wrap (cs i : Int) = (cs i : Int) := by rw [IntKind.wrap_i64]; omega
  generalize cs i = x at *
  clear h
  go_enter Tryz.func9, Tryz.ntmps9
  go_wp2
  go_ret
  exact ⟨by rw [EV.out]; rfl, rfl⟩
 ·have q3 : (len : Int) ≤ (i : Int) := by omega
  have EV : Hid ((atV len cs i : Int) = ((i : Int) * 37 + (len : Int) * 11) % 256) := by unfold Hid; rw [atV, if_neg hlt]; omega
  clear h
  go_enter Tryz.func9, Tryz.ntmps9
  go_wp2
  go_ret
  exact ⟨by rw [EV.out]; rfl, rfl⟩
theorem drawHex (w : World) (ao : Option Addr) (len cap : Nat) (cs : Nat → Nat) (hl : len ≤ 1048576) (h : CodeIs w w.heap.size ao len cs) :
  Calls Tryz.prog 8 #[.slice ao len cap] w fun e w' => e = .returned (.string (txt (textV len cs 40 (newP len cs)))) ∧ Below w.heap.size w w' := by
 have HC : Hid (CodeIs w w.heap.size ao len cs) := h
 clear h
 go_enter Tryz.func8, Tryz.ntmps8
 go_wp2_with fail
 refine (new_any _ ao len cap cs hl HC.out).mono ?_
 rintro e w1 ⟨rfl, hA1, hb1⟩
 go_wp2_with fail
 refine (text_any _ _ ao len cap cs _ 40 (by omega) (by omega) hA1).mono ?_
 rintro e w2 ⟨rfl, hA2, hm2⟩
 go_wp2_with fail
 go_ret
 exact ⟨rfl, hb1.trans ((hm2.mono hb1.size).below (Nat.le_refl _))⟩
end Go.Proofs.YtifmjdakefkbiaaGreatDoor
namespace Go.Proofs.YtifmjdakefkbiaaGreatDoor
open Go.ChangeShapes Go.WideShapes Go.ChangeAt Go.RowKit Go.PlainAid
set_option linter.unusedVariables false
structure BxD (w : World) (p g r : Nat) (T : TypeId) (wc : World) (Z cs : Array Value) : Prop where
 box : Blk wc g cs T
 res : Blk wc r Z T
 a : AtS wc p
 m : Mod w.heap.size p w wc
 hp : p < w.heap.size
 hg : w.heap.size ≤ g
 hr : w.heap.size ≤ r
 ne : g ≠ r
section
variable {w wc w' : World} {p g r : Nat} {T : TypeId} {Z cs : Array Value}
theorem BxD.draw (S : BxD w p g r T wc Z cs) (hA : AtS w' p) (hm : Mod wc.heap.size p wc w') : BxD w p g r T w' Z cs :=
 ⟨S.box.mod hm S.box.lt (by have := S.hp; have := S.hg; omega), S.res.mod hm S.res.lt (by have := S.hp; have := S.hr; omega), hA, S.m.trans (hm.mono S.m.size), S.hp, S.hg, S.hr, S.ne⟩
theorem BxD.below (S : BxD w p g r T wc Z cs) (hb : Below wc.heap.size wc w') : BxD w p g r T w' Z cs := S.draw (S.a.below hb S.a.lt) (Mod.of_below hb)
theorem BxD.alloc (S : BxD w p g r T wc Z cs) (o : Obj) : BxD w p g r T (wc.alloc o) Z cs := S.below ((Below.refl _ _).alloc (Nat.le_refl _) _)
theorem BxD.set (S : BxD w p g r T wc Z cs) (k : Nat) (v : Value) : BxD w p g r T (wc.setCell ⟨g, k, none⟩ v) Z (cs.setIfInBounds k v) := by
 have hb : Below g wc (wc.setCell ⟨g, k, none⟩ v) := (Below.refl g wc).setCell (Nat.le_refl _) v
 exact ⟨S.box.set k v, S.res.other (fun e => S.ne e.symm) k v, S.a.below hb (Nat.lt_of_lt_of_le S.hp S.hg), S.m.trans (Mod.of_below (hb.mono S.hg)), S.hp, S.hg, S.hr, S.ne⟩
theorem BxD.setR (S : BxD w p g r T wc Z cs) (k : Nat) (v : Value) : BxD w p g r T (wc.setCell ⟨r, k, none⟩ v) (Z.setIfInBounds k v) cs := by
 have hb : Below r wc (wc.setCell ⟨r, k, none⟩ v) := (Below.refl r wc).setCell (Nat.le_refl _) v
 exact ⟨S.box.other S.ne k v, S.res.set k v, S.a.below hb (Nat.lt_of_lt_of_le S.hp S.hr), S.m.trans (Mod.of_below (hb.mono S.hr)), S.hp, S.hg, S.hr, S.ne⟩
end
end Go.Proofs.YtifmjdakefkbiaaGreatDoor
namespace Go.Proofs.YtifmjdakefkbiaaGreatDoor
open Go.ChangeShapes Go.WideShapes Go.ChangeAt Go.RowKit Go.PlainAid
set_option linter.unusedVariables false
structure RsD (w : World) (p r : Nat) (T : TypeId) (wc : World) (Z : Array Value) : Prop where
 res : Blk wc r Z T
 a : AtS wc p
 m : Mod w.heap.size p w wc
 hp : p < w.heap.size
 hr : w.heap.size ≤ r
section
variable {w wc w' : World} {p r : Nat} {T : TypeId} {Z : Array Value}
theorem RsD.start (h : AtS w p) (Z : Array Value) (T : TypeId) : RsD w p w.heap.size T (w.alloc (.cells Z T)) Z := by
 have hal : Below w.heap.size w (w.alloc (.cells Z T)) := (Below.refl _ _).alloc (Nat.le_refl _) _
 exact ⟨Blk.new w _ _, h.below hal h.lt, Mod.of_below hal, h.lt, Nat.le_refl _⟩
theorem RsD.draw (S : RsD w p r T wc Z) (hA : AtS w' p) (hm : Mod wc.heap.size p wc w') : RsD w p r T w' Z :=
 ⟨S.res.mod hm S.res.lt (by have := S.hp; have := S.hr; omega), hA, S.m.trans (hm.mono S.m.size), S.hp, S.hr⟩
theorem RsD.below (S : RsD w p r T wc Z) (hb : Below wc.heap.size wc w') : RsD w p r T w' Z := S.draw (S.a.below hb S.a.lt) (Mod.of_below hb)
theorem RsD.alloc (S : RsD w p r T wc Z) (o : Obj) : RsD w p r T (wc.alloc o) Z := S.below ((Below.refl _ _).alloc (Nat.le_refl _) _)
theorem RsD.setR (S : RsD w p r T wc Z) (k : Nat) (v : Value) : RsD w p r T (wc.setCell ⟨r, k, none⟩ v) (Z.setIfInBounds k v) := by
 have hb : Below r wc (wc.setCell ⟨r, k, none⟩ v) := (Below.refl r wc).setCell (Nat.le_refl _) v
 exact ⟨S.res.set k v, S.a.below hb (Nat.lt_of_lt_of_le S.hp S.hr), S.m.trans (Mod.of_below (hb.mono S.hr)), S.hp, S.hr⟩
theorem RsD.box (S : RsD w p r T wc Z) (cs : Array Value) : BxD w p wc.heap.size r T (wc.alloc (.cells cs T)) Z cs :=
 ⟨Blk.new wc _ _, S.res.alloc _, (S.alloc (.cells cs T)).a, (S.alloc (.cells cs T)).m, S.hp, S.m.size, S.hr, by have := S.res.lt; omega⟩
end
end Go.Proofs.YtifmjdakefkbiaaGreatDoor
namespace Go.Proofs.YtifmjdakefkbiaaGreatDoor
open Go.RowKit Go.PlainAid
theorem Owns.empty (w : World) (base : Nat) (e : TypeId) (sz : Nat) (hb : base ≤ w.heap.size) : Owns (w.alloc (.cells #[] e)) base e sz (.slice (some ⟨w.heap.size, 0, none⟩) 0 0) [] :=
 ⟨fun r hr => by simp at hr, World.ownsRow_lit w #[] 0 hb (by unfold maxLen; omega) (by simp)⟩
theorem Owns.nil (w : World) (base : Nat) (e : TypeId) (sz : Nat) : Owns w base e sz (.slice none 0 0) [] := ⟨fun r hr => by simp at hr, World.ownsRow_nil w base e sz⟩
theorem Owns.alloc {w : World} {base : Nat} {e : TypeId} {sz : Nat} {v : Value} {rows : List (List Value)} (h : Owns w base e sz v rows) (o : Obj) : Owns (w.alloc o) base e sz v rows := ⟨h.1, World.ownsRow.alloc h.2 o⟩
theorem run_append_where {P : Program} (w : World) (base : Nat) (t ty e : TypeId) (i : TypeInfo) (z : Value) (size bytes : Nat) (ht : P.underlying t = some (.slice e)) (hi : P.info? e = some i) (hz : i.zero = some z)
  (hsize : i.size = size) (hby : i.bytes = bytes)
  (v : Value) (n : Nat) (xs : List Value) (hown : w.ownsRow base e size v n xs)
  (a : Addr) (m c : Nat) (news : List Value) (hl : news.length = m * size) (hnews : ∀ j u, news[j]? = some u → w.cell? (a.add j) = some u) (h1 : ∀ u ∈ news, u.oneCell' = true)
  (h63 : n + m ≤ maxLen) (hbytes : (n + m) * bytes ≤ 140737488355328) (v' : Value) (w' : World)
  (h : (Builtin.append_ #[t, t] ty #[v, .slice (some a) m c]).run P w = .ok v' w') : v'.ownBlock = v.ownBlock ∨ v'.ownBlock = some w.heap.size := by
 subst hsize
 subst hby
 have hsmall : n + m ≤ 9223372036854775807 := by simp only [maxLen] at h63; omega
 rcases hown.2 with ⟨rfl, rfl⟩ | ⟨g, cap, cur, rfl, hbg, hg, hnc, hcm, hcs, htake⟩
 ·by_cases hm : m = 0
  ·subst hm
   have hn : news = [] := List.eq_nil_of_length_eq_zero (by simpa using hl)
   subst hn
   have hr : (Builtin.append_ #[t, t] ty #[.slice none 0 0, .slice (some a) 0 c]).run P w = .ok (.slice none 0 0) w := by
    simp [Builtin.append_, run_underlying ht, sizeOf, typeInfo, hi, Builtin.lenOf, Builtin.firstCells, loadCells, loadCellsFrom]
   rw [hr] at h
   cases h
   exact .inl rfl
  ·have hr := run_append_nil (P := P) w t ty e i z ht hi hz a m c news hl hnews (by omega) (by omega) (by have hb := hbytes; simp only [Nat.zero_add] at hb; omega)
   rw [hr] at h
   cases h
   exact .inr rfl
 ·by_cases hroom : n + m ≤ cap
  ·have hfit : n * i.size + news.length ≤ cur.size := by rw [hl, hcs, ← Nat.add_mul]; exact Nat.mul_le_mul_right _ hroom
   have hr := run_append_room (P := P) w t ty e i ht hi g n cap cur hg a m c news hl hnews h1 hroom hfit
   rw [hr] at h
   cases h
   exact .inl rfl
  ·have holds : ∀ j u, xs[j]? = some u → w.cell? ((⟨g, 0, none⟩ : Addr).add j) = some u := hown.cells (g := g) rfl
   have hr := run_append_grow (P := P) w t ty e i z ht hi hz ⟨g, 0, none⟩ n cap xs hown.1 holds a m c news hl hnews (by omega) (by omega) (growslice_fits (by omega) hbytes)
   rw [hr] at h
   cases h
   exact .inr rfl
theorem wpList_append_own2 {P : Program} {w : World} {ops : Array Oper} {rest : List Oper} {o : Oper} {a : Act} {Q : Exit → Act → World → Prop} (hgd : o.guard = none) (s x : Operand) (t : TypeId)
  (ho : o.op = .call { callee := .builtin .append, args := #[s, x], argTypes := #[t, t] })
  (base : Nat) (e : TypeId) (i : TypeInfo) (z : Value) (size bytes : Nat) (ht : P.underlying t = some (.slice e)) (hi : P.info? e = some i) (hz : i.zero = some z)
  (hsize : i.size = size) (hby : i.bytes = bytes) (hzs : z.cells.size = size) (hsz : 0 < size)
  (v : Value) (n : Nat) (xs : List Value) (hs : a.eval s = v) (hown : w.ownsRow base e size v n xs)
  (ad : Addr) (m c : Nat) (news : List Value) (hx : a.eval x = .slice (some ad) m c) (hl : news.length = m * size) (hnews : ∀ j u, news[j]? = some u → w.cell? (ad.add j) = some u) (h1 : ∀ u ∈ news, u.oneCell' = true)
  (h63 : n + m ≤ maxLen) (hbytes : (n + m) * bytes ≤ 140737488355328) (hbase : base ≤ w.heap.size)
  (h : ∀ v' w', w'.ownsRow base e size v' (n + m) (xs ++ news) → w.grownBy w' v.ownBlock → (v'.ownBlock = v.ownBlock ∨ v'.ownBlock = some w.heap.size) → wpList P ops Q rest (a.put o.dst v') w') : wpList P ops Q (o :: rest) a w := by
 obtain ⟨v', w', hr, h2, h3, _⟩ := run_append_own (P := P) w base t o.type e i z size bytes ht hi hz hsize hby hzs hsz v n xs hown ad m c news hl hnews h1 h63 hbytes hbase
 have h5 := run_append_where (P := P) w base t o.type e i z size bytes ht hi hz hsize hby v n xs hown ad m c news hl hnews h1 h63 hbytes v' w' hr
 refine wpList_plain hgd fun K hK => ?_
 unfold Oper.wp execOp
 simp only [ho, resolve, invoke, builtin, Sem.run_bind, Sem.run_pure, Result.andThen_ok, List.map_toArray, List.map_cons, List.map_nil, hs, hx, hr]
 exact hK _ _ (h v' w' h2 h3 h5)
theorem wpList_append_row {P : Program} {w : World} {ops : Array Oper} {rest : List Oper} {o : Oper} {a : Act} {Q : Exit → Act → World → Prop} (hgd : o.guard = none) (s x : Operand) (t e : TypeId) (z : Value) (sz bytes : Nat)
  (ho : o.op = .call { callee := .builtin .append, args := #[s, x], argTypes := #[t, t] })
  (ht : P.underlying t = some (.slice e)) (hinfo : (P.info? e).map (fun i => (i.zero, i.size, i.bytes)) = some (some z, sz, bytes)) (hzs : z.cells.size = sz) (hsz : 0 < sz)
  (base : Nat) (v : Value) (rows : List (List Value)) (hs : a.eval s = v) (hown : Owns w base e sz v rows) (r : List Value) (hr : r.length = sz) (h1 : ∀ u ∈ r, u.oneCell' = true)
  (hx : a.eval x = .slice (some ⟨w.heap.size, 0, none⟩) 1 1) (hlen : rows.length ≤ 2097152) (hby : bytes ≤ 1000) (hbase : base ≤ w.heap.size)
  (h : ∀ v' w', Owns w' base e sz v' (rows ++ [r]) → Below base w w' → (∀ g, g < w.heap.size → v.ownBlock ≠ some g → w'.heap[g]? = w.heap[g]?) → (v'.ownBlock = v.ownBlock ∨ ∀ g, v'.ownBlock = some g → w.heap.size ≤ g) → wpList P ops Q rest (a.put o.dst v') w') : wpList P ops Q (o :: rest) a (w.alloc (.cells r.toArray e)) := by
 obtain ⟨i0, hi, hz0, hz1, hz2⟩ := info_parts hinfo
 have hb1 : (rows.length + 1) * bytes ≤ 140737488355328 := Nat.le_trans (Nat.mul_le_mul (show rows.length + 1 ≤ 2097153 by omega) hby) (by omega)
 refine wpList_append_own2 (w := w.alloc (.cells r.toArray e)) hgd s x t ho base e i0 z sz bytes ht hi hz0 hz1 hz2 hzs hsz v rows.length rows.flatten hs (World.ownsRow.alloc hown.2 _) ⟨w.heap.size, 0, none⟩ 1 1 r hx (by rw [hr]; omega) ?_ h1 (by unfold maxLen; omega) hb1 (by simp; omega) ?_
 ·intro j u hj
  have e1 : (⟨w.heap.size, 0, none⟩ : Addr).add j = ⟨w.heap.size, j, none⟩ := by cases j <;> simp [Addr.add]
  rw [e1, World.cell?_alloc_mark]
  simpa using hj
 ·intro v' w' h2 h3 h5
  have hb0 : ∀ k, v.ownBlock = some k → base ≤ k := fun k hk => (hown.lt k hk).1
  refine h v' w' ⟨?_, ?_⟩ ?_ ?_ (h5.imp id fun e g hg => by rw [e] at hg; cases hg; simp)
  ·intro y hy
   rcases List.mem_append.1 hy with hy | hy
   ·exact hown.1 y hy
   ·rw [List.mem_singleton.1 hy]; exact hr
  ·rw [List.length_append, List.flatten_append]
   simpa using h2
  ·exact ((Below.refl base w).alloc hbase _).grown h3 (by simp; omega) hb0
  ·intro g hg hne
   rw [h3.block g (by simp; omega) (fun e => hne e.symm)]
   exact Below.heap_alloc w _ g hg
theorem Owns.first {w : World} {base : Nat} {e : TypeId} {sz : Nat} {A : Option Addr} {n c : Nat} {rows : List (List Value)} (h : Owns w base e sz (.slice A n c) rows) (k : Nat) (hk : k ≤ rows.length) : Owns w base e sz (.slice A k c) (rows.take k) := by
 obtain ⟨hs, hl, h⟩ := h
 have hkl : (rows.take k).length = k := by rw [List.length_take]; omega
 have hs' : ∀ r ∈ rows.take k, r.length = sz := fun r hr => hs r (List.mem_of_mem_take hr)
 have hft : (rows.take k).flatten = rows.flatten.take (k * sz) := by
  have h1 : rows.flatten = (rows.take k).flatten ++ (rows.drop k).flatten := by rw [← List.flatten_append, List.take_append_drop]
  have hl2 : (rows.take k).flatten.length = k * sz := by rw [flat_length sz _ hs', hkl]
  rw [h1]
  exact (List.take_left' hl2).symm
 refine ⟨hs', ?_, ?_⟩
 ·rw [flat_length sz _ hs']
 rcases h with ⟨e1, h0⟩ | ⟨g, cap, cur, e1, hb, hh, hn, hm, hz, ht⟩
 ·cases e1
  have : k = 0 := by omega
  subst this
  exact .inl ⟨rfl, by simp⟩
 ·cases e1
  refine .inr ⟨g, c, cur, by rw [hkl], hb, hh, by rw [hkl]; omega, hm, hz, ?_⟩
  rw [hkl, hft, ← ht, List.take_take]
  congr 1
  have : k * sz ≤ rows.length * sz := Nat.mul_le_mul_right sz hk
  omega
end Go.Proofs.YtifmjdakefkbiaaGreatDoor
namespace Go.Proofs.YtifmjdakefkbiaaGreatDoor
open Go.RowKit Go.PlainAid
theorem run_append_row {P : Program} (w : World) (t ty e : TypeId) (z : Value) (sz bytes : Nat)
  (ht : P.underlying t = some (.slice e)) (hinfo : (P.info? e).map (fun i => (i.zero, i.size, i.bytes)) = some (some z, sz, bytes)) (hzs : z.cells.size = sz) (hsz : 0 < sz)
  (base : Nat) (v : Value) (rows : List (List Value)) (hown : Owns w base e sz v rows) (r : List Value) (hr : r.length = sz) (h1 : ∀ u ∈ r, u.oneCell' = true)
  (hlen : rows.length ≤ 2097152) (hby : bytes ≤ 1000) (hbase : base ≤ w.heap.size) :
  ∃ A m c w', (Builtin.append_ #[t, t] ty #[v, .slice (some ⟨w.heap.size, 0, none⟩) 1 1]).run P (w.alloc (.cells r.toArray e)) = .ok (.slice A m c) w' ∧ Owns w' base e sz (.slice A m c) (rows ++ [r]) ∧ Below base w w' ∧ (∀ g, g < w.heap.size → v.ownBlock ≠ some g → w'.heap[g]? = w.heap[g]?) ∧ ((Value.slice A m c).ownBlock = v.ownBlock ∨ ∀ g, (Value.slice A m c).ownBlock = some g → w.heap.size ≤ g) := by
 obtain ⟨i0, hi, hz0, hz1, hz2⟩ := info_parts hinfo
 have hb1 : (rows.length + 1) * bytes ≤ 140737488355328 := Nat.le_trans (Nat.mul_le_mul (show rows.length + 1 ≤ 2097153 by omega) hby) (by omega)
 have hnews : ∀ j u, r[j]? = some u → (w.alloc (.cells r.toArray e)).cell? ((⟨w.heap.size, 0, none⟩ : Addr).add j) = some u := by
  intro j u hj
  have e1 : (⟨w.heap.size, 0, none⟩ : Addr).add j = ⟨w.heap.size, j, none⟩ := by cases j <;> simp [Addr.add]
  rw [e1, World.cell?_alloc_mark]
  simpa using hj
 obtain ⟨v', w', hrun, h2, h3, _⟩ := run_append_own (P := P) (w.alloc (.cells r.toArray e)) base t ty e i0 z sz bytes ht hi hz0 hz1 hz2 hzs hsz v rows.length rows.flatten (World.ownsRow.alloc hown.2 _) ⟨w.heap.size, 0, none⟩ 1 1 r (by rw [hr]; omega) hnews h1 (by unfold maxLen; omega) hb1 (by simp; omega)
 have h5 := run_append_where (P := P) (w.alloc (.cells r.toArray e)) base t ty e i0 z sz bytes ht hi hz0 hz1 hz2 v rows.length rows.flatten (World.ownsRow.alloc hown.2 _) ⟨w.heap.size, 0, none⟩ 1 1 r (by rw [hr]; omega) hnews h1 (by unfold maxLen; omega) hb1 v' w' hrun
 have hb0 : ∀ k, v.ownBlock = some k → base ≤ k := fun k hk => (hown.lt k hk).1
 have hO : Owns w' base e sz v' (rows ++ [r]) := by
  refine ⟨?_, ?_⟩
  ·intro y hy
   rcases List.mem_append.1 hy with hy | hy
   ·exact hown.1 y hy
   ·rw [List.mem_singleton.1 hy]; exact hr
  ·rw [List.length_append, List.flatten_append]
   simpa using h2
 obtain ⟨A, m, c, rfl⟩ := hO.shape
 refine ⟨A, m, c, w', hrun, hO, ((Below.refl base w).alloc hbase _).grown h3 (by simp; omega) hb0, ?_, h5.imp id fun e g hg => by rw [e] at hg; cases hg; simp⟩
 intro g hg hne
 rw [h3.block g (by simp; omega) (fun e => hne e.symm)]
 exact Below.heap_alloc w _ g hg
theorem step_append_run {P : Program} {ops : Array Oper} {o : Oper} {a : Act} {w : World} {K : Act → World → Prop} {Q : Exit → Act → World → Prop} {E : Prop}
  (hg : o.guard = none) (s x : Operand) (t : TypeId) (hop : o.op = Op.call { callee := Callee.builtin Builtin.append, args := #[s, x], argTypes := #[t, t] })
  (v y r : Value) (w' : World) (hs : a.eval s = v) (hx : a.eval x = y) (hrun : (Builtin.append_ #[t, t] o.type #[v, y]).run P w = .ok r w') (hK : K (a.put o.dst r) w') :
  if Region.wanted o (yielded ops a.tmps) = true then Oper.wp P o a w K Q else E := by
 have hw : Region.wanted o (yielded ops a.tmps) = true := by simp [Region.wanted, hg]
 rw [if_pos hw]
 unfold Oper.wp
 simp [execOp, hop, resolve, invoke, builtin, hs, hx, hrun, Result.andThen]
 exact hK
end Go.Proofs.YtifmjdakefkbiaaGreatDoor
namespace Go.Proofs.YtifmjdakefkbiaaGreatDoor
open Go.ChangeShapes Go.WideShapes Go.ChangeAt Go.RowKit Go.PlainAid
set_option linter.unusedVariables false
theorem Tryz.infoEntB : (Tryz.prog.info? 75).map (fun i => (i.zero, i.size, i.bytes)) = some (some (.agg #[.int .i64 0, .string ⟨#[]⟩]), 2, 24) := by kernel_rfl
def DrawnEs (w : World) (p : Nat) (e : Ending) (w' : World) : Prop := ∃ u es, e = .returned u ∧ Owns w' w.heap.size 75 2 u (entR es) ∧ es.length ≤ 7 ∧ (∀ x ∈ es, x.data.size ≤ 1000) ∧ AtS w' p ∧ Mod w.heap.size p w w'
end Go.Proofs.YtifmjdakefkbiaaGreatDoor
namespace Go.Proofs.YtifmjdakefkbiaaGreatDoor
open Go.ChangeShapes Go.WideShapes Go.ChangeAt Go.RowKit Go.PlainAid
set_option linter.unusedVariables false
set_option maxHeartbeats 4000000 in
theorem entries_any4 (w : World) (p : Nat) (term top : Int) (h0 : -1000 ≤ term ∧ term ≤ 1000) (h1 : -1000 ≤ top ∧ top ≤ 1000) (h : AtS w p) : Calls Tryz.prog 113 #[.pointer (some ⟨p, 0, none⟩), .int .i64 4, .int .i64 term, .int .i64 top] w (DrawnEs w p) := by
 have HP : Hid (p < w.heap.size) := h.lt
 have hal : Below w.heap.size w (w.alloc (.cells #[] 75)) := (Below.refl _ _).alloc (Nat.le_refl _) _
 have N0 : Hid (Owns (w.alloc (.cells #[] 75)) w.heap.size 75 2 (.slice (some ⟨w.heap.size, 0, none⟩) 0 0) (entR [])) := Owns.empty w w.heap.size _ _ (Nat.le_refl _)
 have A0 : Hid (AtS (w.alloc (.cells #[] 75)) p) := h.below hal h.lt
 have M0 : Hid (Mod w.heap.size p w (w.alloc (.cells #[] 75))) := Mod.of_below hal
 clear hal h
 go_enter Tryz.func113, Tryz.ntmps113
 go_wp2_with fail
 generalize w.alloc (.cells #[] 75) = w0 at *
 refine (belowS w0 p 5 (by omega) (by omega) A0.out).mono ?_
 rintro e w1 ⟨v1, rfl, ⟨v10, v11⟩, hA, hm⟩
 have A1 : Hid (AtS w1 p) := hA
 have M1 : Hid (Mod w.heap.size p w w1) := M0.out.trans (hm.mono M0.out.size)
 have N1 : Hid (Owns w1 w.heap.size 75 2 (.slice (some ⟨w.heap.size, 0, none⟩) 0 0) (entR [])) := N0.out.mod hm HP.out (Nat.le_refl _)
 obtain ⟨n1, rfl⟩ : ∃ n : Nat, v1 = (n : Int) := ⟨v1.toNat, by omega⟩
 clear hA hm A0 M0 N0
 go_wp2_with fail
 go_loopw [2, 9, 10] (fun v2 v9 v10 wr => ∃ (k : Nat) (t : Int) (es : List Ent), es.length + k ≤ 7 ∧ (-1000 ≤ t ∧ t + k ≤ 1010) ∧ k ≤ 7 ∧ v10 = .int .i64 (k : Int) ∧ v2 = .int .i64 t ∧ Owns wr w.heap.size 75 2 v9 (entR es) ∧ (∀ x ∈ es, x.data.size ≤ 1000) ∧ AtS wr p ∧ Mod w.heap.size p w wr) (fun _ _ i _ => (intOf i).toNat)
 case atStart => exact ⟨n1, term, [], by simp; omega, by omega, by omega, rfl, rfl, N1.out, fun x hx => (by cases hx), A1.out, M1.out⟩
 case round =>
  obtain ⟨k, t, es, hk, ht, hk7, rfl, rfl, hN, hD, hA, hM⟩ := hrel
  have HN : Hid (Owns wr w.heap.size 75 2 _ (entR es)) := hN
  obtain ⟨A, m, c, rfl⟩ := hN.shape
  have HD : Hid (∀ x ∈ es, x.data.size ≤ 1000) := hD
  have AR : Hid (AtS wr p) := hA
  have MR : Hid (Mod w.heap.size p w wr) := hM
  have HK : Hid (es.length + k ≤ 7) := hk
  clear hN hA hM hk hD
  by_cases hlt : 0 < k
  ·have q2 : (0 : Int) < (k : Int) := by omega
   have g1 : IntKind.i64.wrap (t + 1) = t + 1 := by rw [IntKind.wrap_i64]; omega
   by_cases ht1 : t < 1
   ·have d1 : decide (t < 1) = true := decide_eq_true ht1
    by_cases htop : top < t + 1
    ·have dtop : decide (top < t + 1) = true := decide_eq_true htop
     go_wp2_with fail
     go_ret
     exact ⟨_, es, rfl, HN.out, by have := HK.out; omega, HD.out, AR.out, MR.out⟩
    ·have dtop : decide (top < t + 1) = false := decide_eq_false htop
     go_wp2_with fail
     refine (text_some wr p 8 (by omega) (by omega) AR.out).mono ?_
     rintro e w6 ⟨d, rfl, hd, hA, hm⟩
     have A6 : Hid (AtS w6 p) := hA
     have M6 : Hid (Mod w.heap.size p w w6) := MR.out.trans (hm.mono MR.out.size)
     have N6 : Hid (Owns w6 w.heap.size 75 2 (.slice A m c) (entR es)) := HN.out.mod hm HP.out (Nat.le_refl _)
     have hzz : w.heap.size ≤ w6.heap.size := M6.out.size
     clear hA hm
     have l6 : (entR es).length ≤ 2097152 := by rw [entR_length]; have := HK.out; omega
     have HL6 : Hid ((entR es).length ≤ 2097152) := l6
     clear l6
     go_wp2_with (at_builtin; refine Shut.out ?_)
     unfold Shut
     refine wpList_append_row (w := w6) rfl (.tmp 37) (.tmp 42) 29 75 (.agg #[.int .i64 0, .string ⟨#[]⟩]) 2 24 rfl Tryz.underlying29 Tryz.infoEntB rfl (by omega) w.heap.size (.slice A m c) (entR es) rfl N6.out [.int .i64 (t + 1), .string d] rfl (by intro y hy; simp at hy; rcases hy with rfl | rfl <;> rfl) rfl HL6.out (by omega) hzz ?_
     intro v' w7 hO7 hb7 hk7 _
     have A7 : Hid (AtS w7 p) := A6.out.below hb7 HP.out
     have M7 : Hid (Mod w.heap.size p w w7) := M6.out.trans (Mod.of_below hb7)
     have N7 : Hid (Owns w7 w.heap.size 75 2 v' (entR (es ++ [⟨t + 1, d⟩]))) := by unfold Hid entR; rw [List.map_append]; exact hO7
     have D7 : Hid (∀ x ∈ es ++ [(⟨t + 1, d⟩ : Ent)], x.data.size ≤ 1000) := fun x hx => by
      rcases List.mem_append.1 hx with hx | hx
      ·exact HD.out x hx
      ·rw [List.mem_singleton.1 hx]; exact hd
     obtain ⟨A', m', c', rfl⟩ := N7.out.shape
     clear hO7 hb7 hk7
     go_wp2_with fail
     go_roundw
     case rel => exact ⟨k - 1, t + 1, es ++ [⟨t + 1, d⟩], by have := HK.out; simp; omega, by omega, by omega, by go_num, rfl, N7.out, D7.out, A7.out, M7.out⟩
     case measure => simp [intOf]; omega
   ·have d1 : decide (t < 1) = false := decide_eq_false ht1
    by_cases ht2 : t < top
    ·have d2 : decide (t < top) = true := decide_eq_true ht2
     go_wp2_with fail
     refine (once_some wr p 3 (by omega) AR.out).mono ?_
     rintro e w5 ⟨b5, rfl, hA, hm⟩
     have A5 : Hid (AtS w5 p) := hA
     have M5 : Hid (Mod w.heap.size p w w5) := MR.out.trans (hm.mono MR.out.size)
     have N5 : Hid (Owns w5 w.heap.size 75 2 (.slice A m c) (entR es)) := HN.out.mod hm HP.out (Nat.le_refl _)
     clear hA hm
     cases b5
     ·by_cases htop : top < t
      ·have dtop : decide (top < t) = true := decide_eq_true htop
       go_wp2_with fail
       go_ret
       exact ⟨_, es, rfl, N5.out, by have := HK.out; omega, HD.out, A5.out, M5.out⟩
      ·have dtop : decide (top < t) = false := decide_eq_false htop
       go_wp2_with fail
       refine (text_some w5 p 8 (by omega) (by omega) A5.out).mono ?_
       rintro e w6 ⟨d, rfl, hd, hA, hm⟩
       have A6 : Hid (AtS w6 p) := hA
       have M6 : Hid (Mod w.heap.size p w w6) := M5.out.trans (hm.mono M5.out.size)
       have N6 : Hid (Owns w6 w.heap.size 75 2 (.slice A m c) (entR es)) := N5.out.mod hm HP.out (Nat.le_refl _)
       have hzz : w.heap.size ≤ w6.heap.size := M6.out.size
       clear hA hm
       have l6 : (entR es).length ≤ 2097152 := by rw [entR_length]; have := HK.out; omega
       have HL6 : Hid ((entR es).length ≤ 2097152) := l6
       clear l6
       go_wp2_with (at_builtin; refine Shut.out ?_)
       unfold Shut
       refine wpList_append_row (w := w6) rfl (.tmp 37) (.tmp 42) 29 75 (.agg #[.int .i64 0, .string ⟨#[]⟩]) 2 24 rfl Tryz.underlying29 Tryz.infoEntB rfl (by omega) w.heap.size (.slice A m c) (entR es) rfl N6.out [.int .i64 (t), .string d] rfl (by intro y hy; simp at hy; rcases hy with rfl | rfl <;> rfl) rfl HL6.out (by omega) hzz ?_
       intro v' w7 hO7 hb7 hk7 _
       have A7 : Hid (AtS w7 p) := A6.out.below hb7 HP.out
       have M7 : Hid (Mod w.heap.size p w w7) := M6.out.trans (Mod.of_below hb7)
       have N7 : Hid (Owns w7 w.heap.size 75 2 v' (entR (es ++ [⟨t, d⟩]))) := by unfold Hid entR; rw [List.map_append]; exact hO7
       have D7 : Hid (∀ x ∈ es ++ [(⟨t, d⟩ : Ent)], x.data.size ≤ 1000) := fun x hx => by
        rcases List.mem_append.1 hx with hx | hx
        ·exact HD.out x hx
        ·rw [List.mem_singleton.1 hx]; exact hd
       obtain ⟨A', m', c', rfl⟩ := N7.out.shape
       clear hO7 hb7 hk7
       go_wp2_with fail
       go_roundw
       case rel => exact ⟨k - 1, t, es ++ [⟨t, d⟩], by have := HK.out; simp; omega, by omega, by omega, by go_num, rfl, N7.out, D7.out, A7.out, M7.out⟩
       case measure => simp [intOf]; omega
     ·by_cases htop : top < t + 1
      ·have dtop : decide (top < t + 1) = true := decide_eq_true htop
       go_wp2_with fail
       go_ret
       exact ⟨_, es, rfl, N5.out, by have := HK.out; omega, HD.out, A5.out, M5.out⟩
      ·have dtop : decide (top < t + 1) = false := decide_eq_false htop
       go_wp2_with fail
       refine (text_some w5 p 8 (by omega) (by omega) A5.out).mono ?_
       rintro e w6 ⟨d, rfl, hd, hA, hm⟩
       have A6 : Hid (AtS w6 p) := hA
       have M6 : Hid (Mod w.heap.size p w w6) := M5.out.trans (hm.mono M5.out.size)
       have N6 : Hid (Owns w6 w.heap.size 75 2 (.slice A m c) (entR es)) := N5.out.mod hm HP.out (Nat.le_refl _)
       have hzz : w.heap.size ≤ w6.heap.size := M6.out.size
       clear hA hm
       have l6 : (entR es).length ≤ 2097152 := by rw [entR_length]; have := HK.out; omega
       have HL6 : Hid ((entR es).length ≤ 2097152) := l6
       clear l6
       go_wp2_with (at_builtin; refine Shut.out ?_)
       unfold Shut
       refine wpList_append_row (w := w6) rfl (.tmp 37) (.tmp 42) 29 75 (.agg #[.int .i64 0, .string ⟨#[]⟩]) 2 24 rfl Tryz.underlying29 Tryz.infoEntB rfl (by omega) w.heap.size (.slice A m c) (entR es) rfl N6.out [.int .i64 (t + 1), .string d] rfl (by intro y hy; simp at hy; rcases hy with rfl | rfl <;> rfl) rfl HL6.out (by omega) hzz ?_
       intro v' w7 hO7 hb7 hk7 _
       have A7 : Hid (AtS w7 p) := A6.out.below hb7 HP.out
       have M7 : Hid (Mod w.heap.size p w w7) := M6.out.trans (Mod.of_below hb7)
       have N7 : Hid (Owns w7 w.heap.size 75 2 v' (entR (es ++ [⟨t + 1, d⟩]))) := by unfold Hid entR; rw [List.map_append]; exact hO7
       have D7 : Hid (∀ x ∈ es ++ [(⟨t + 1, d⟩ : Ent)], x.data.size ≤ 1000) := fun x hx => by
        rcases List.mem_append.1 hx with hx | hx
        ·exact HD.out x hx
        ·rw [List.mem_singleton.1 hx]; exact hd
       obtain ⟨A', m', c', rfl⟩ := N7.out.shape
       clear hO7 hb7 hk7
       go_wp2_with fail
       go_roundw
       case rel => exact ⟨k - 1, t + 1, es ++ [⟨t + 1, d⟩], by have := HK.out; simp; omega, by omega, by omega, by go_num, rfl, N7.out, D7.out, A7.out, M7.out⟩
       case measure => simp [intOf]; omega
    ·have d2 : decide (t < top) = false := decide_eq_false ht2
     by_cases htop : top < t
     ·have dtop : decide (top < t) = true := decide_eq_true htop
      go_wp2_with fail
      go_ret
      exact ⟨_, es, rfl, HN.out, by have := HK.out; omega, HD.out, AR.out, MR.out⟩
     ·have dtop : decide (top < t) = false := decide_eq_false htop
      go_wp2_with fail
      refine (text_some wr p 8 (by omega) (by omega) AR.out).mono ?_
      rintro e w6 ⟨d, rfl, hd, hA, hm⟩
      have A6 : Hid (AtS w6 p) := hA
      have M6 : Hid (Mod w.heap.size p w w6) := MR.out.trans (hm.mono MR.out.size)
      have N6 : Hid (Owns w6 w.heap.size 75 2 (.slice A m c) (entR es)) := HN.out.mod hm HP.out (Nat.le_refl _)
      have hzz : w.heap.size ≤ w6.heap.size := M6.out.size
      clear hA hm
      have l6 : (entR es).length ≤ 2097152 := by rw [entR_length]; have := HK.out; omega
      have HL6 : Hid ((entR es).length ≤ 2097152) := l6
      clear l6
      go_wp2_with (at_builtin; refine Shut.out ?_)
      unfold Shut
      refine wpList_append_row (w := w6) rfl (.tmp 37) (.tmp 42) 29 75 (.agg #[.int .i64 0, .string ⟨#[]⟩]) 2 24 rfl Tryz.underlying29 Tryz.infoEntB rfl (by omega) w.heap.size (.slice A m c) (entR es) rfl N6.out [.int .i64 (t), .string d] rfl (by intro y hy; simp at hy; rcases hy with rfl | rfl <;> rfl) rfl HL6.out (by omega) hzz ?_
      intro v' w7 hO7 hb7 hk7 _
      have A7 : Hid (AtS w7 p) := A6.out.below hb7 HP.out
      have M7 : Hid (Mod w.heap.size p w w7) := M6.out.trans (Mod.of_below hb7)
      have N7 : Hid (Owns w7 w.heap.size 75 2 v' (entR (es ++ [⟨t, d⟩]))) := by unfold Hid entR; rw [List.map_append]; exact hO7
      have D7 : Hid (∀ x ∈ es ++ [(⟨t, d⟩ : Ent)], x.data.size ≤ 1000) := fun x hx => by
       rcases List.mem_append.1 hx with hx | hx
       ·exact HD.out x hx
       ·rw [List.mem_singleton.1 hx]; exact hd
      obtain ⟨A', m', c', rfl⟩ := N7.out.shape
      clear hO7 hb7 hk7
      go_wp2_with fail
      go_roundw
      case rel => exact ⟨k - 1, t, es ++ [⟨t, d⟩], by have := HK.out; simp; omega, by omega, by omega, by go_num, rfl, N7.out, D7.out, A7.out, M7.out⟩
      case measure => simp [intOf]; omega
  ·obtain rfl : k = 0 := by omega
   go_wp2_with fail
   go_ret
   exact ⟨_, es, rfl, HN.out, by have := HK.out; omega, HD.out, AR.out, MR.out⟩
end Go.Proofs.YtifmjdakefkbiaaGreatDoor
namespace Go.Proofs.YtifmjdakefkbiaaGreatDoor
open Go.ChangeShapes Go.WideShapes Go.ChangeAt Go.RowKit Go.PlainAid
set_option linter.unusedVariables false
def wtE1 (x : Ent) : Nat := x.data.size
def wtE : List Ent → Nat
 | [] => 0
 | x :: r => wtE1 x + wtE r
theorem wtE_snoc (l : List Ent) (k : Nat) (h : k < l.length) : wtE (l.take (k + 1)) = wtE (l.take k) + wtE1 (l.getD k default) := by
 rw [← getD_at l k h]
 induction l generalizing k with
 | nil => simp at h
 | cons x r ih =>
  cases k with
  | zero => simp [wtE]
  | succ k => simp only [List.take_succ_cons, wtE, List.getElem_cons_succ]; rw [ih k (by simpa using h)]; omega
def vRcd (x : Rcd) : Value := .agg #[.int .i64 x.kind, .int .i64 x.term, .int .i64 x.index, .int .i64 x.vote, .string x.data]
end Go.Proofs.YtifmjdakefkbiaaGreatDoor
