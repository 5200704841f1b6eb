/-
  Contracts of the cursor's functions of the specification (l1New, l1Byte, l1Below, l1Once): what each returns and leaves, as functions of the code's bytes.
-/
import Derived.Test.YtfkgaoegdnkfcaaRows
import Derived.Test.YtfkgaoegdnkfcaaCurAid
import Derived.WalkKit
import Derived.ProofKit
import Derived.OpenShut
import Derived.Below
import Derived.Handy
import Derived.WalkLawsBesides
import Derived.Outline
import Derived.BigQuiet
import Derived.Deep.QuietTactic
namespace Go.Proofs.Ytfkgaoegdnkfcaa
open Go.ChangeShapes Go.WideShapes Go.ChangeAt Go.RowKit Go.PlainAid
set_option linter.unusedVariables false

set_option maxHeartbeats 1000000 in
theorem byte_in (w : World) (p : Nat) (cb co len cap : Nat) (c i : Nat) (h : Int) (hc : Cur 70 w p (some ⟨cb, co, none⟩) len cap i h) (hcb : cb < p) (hi : i < len) (hl : len ≤ 1048576) (hc255 : c < 256)
    (hcell : w.cell? ⟨cb, co + i, none⟩ = some (.int .u8 (c : Int))) :
    Calls Try.prog 46 #[.pointer (some ⟨p, 0, none⟩)] w fun e w' => e = .returned (.int .i64 (bits .and .i64 (curX (curH h) + (c : Int)) 255)) ∧ Cur 70 w' p (some ⟨cb, co, none⟩) len cap (i + 1) (curH h) ∧ Mod w.heap.size p w w' := by
  have c0 := hc.c0
  have c1 := hc.c1
  have c2 := hc.c2
  have f1 := hc.free 1
  have f2 := hc.free 2
  have q1 : (i : Int) < (len : Int) := by omega
  have q2 : (len : Int) ≤ 1048576 := by omega
  go_enter Try.func46, Try.ntmps46
  go_wp2
  have eH : wrap64 (wrap64 (h * 6364136223846793005) + 1442695040888963407) = curH h := rfl
  rw [eH]
  have hc1 := hc.set2 (curH h)
  have hm1 : Mod w.heap.size p w (w.setCell ⟨p, 2, none⟩ (.int .i64 (curH h))) := (Mod.refl _ _ _).setCell _
  have hcell1 : (w.setCell ⟨p, 2, none⟩ (.int .i64 (curH h))).cell? ⟨cb, co + i, none⟩ = some (.int .u8 (c : Int)) := by
    rw [← hcell]
    exact World.cell?_of_block (w := w) (hm1.block cb (by have := hc.lt; omega) (by omega))
  generalize w.setCell ⟨p, 2, none⟩ (.int .i64 (curH h)) = w1 at *
  generalize hH : curH h = H at *
  have HH : Hid (curH h = H) := hH
  clear hH
  clear eH c0 c1 c2 f1 f2 hcell
  have c0 := hc1.c0
  have c1 := hc1.c1
  have c2 := hc1.c2
  have f1 := hc1.free 1
  have hx := curX_bd H
  obtain ⟨hx1, hx2⟩ := hx
  have eX : bits .and .i64 (bits .xor .i64 (H / 8589934592) (H / 35184372088832)) 255 = curX H := rfl
  go_quiet (fail)
  go_wp2
  go_quiet (fail)
  go_wp2
  go_quiet (fail)
  go_wp2
  go_ret
  have e1 : ((i : Int) + 1) = ((i + 1 : Nat) : Int) := by omega
  rw [HH.out, e1]
  exact ⟨rfl, (hc1.drewN _).set1 (i + 1), (hm1.drewN _).setCell _⟩

set_option maxHeartbeats 1000000 in
theorem byte_out (w : World) (p : Nat) (ao : Option Addr) (len cap : Nat) (i : Nat) (h : Int) (hc : Cur 70 w p ao len cap i h) (hi : len ≤ i) (hi2 : i ≤ 1048576) (hl : len ≤ 1048576) :
    Calls Try.prog 46 #[.pointer (some ⟨p, 0, none⟩)] w fun e w' => e = .returned (.int .i64 (curX (curH h))) ∧ Cur 70 w' p ao len cap i (curH h) ∧ Mod w.heap.size p w w' := by
  have c0 := hc.c0
  have c1 := hc.c1
  have c2 := hc.c2
  have f1 := hc.free 1
  have f2 := hc.free 2
  have q1 : (len : Int) ≤ (i : Int) := by omega
  have q2 : (len : Int) ≤ 1048576 := by omega
  have q3 : (i : Int) ≤ 1048576 := by omega
  go_enter Try.func46, Try.ntmps46
  go_wp2
  have eH : wrap64 (wrap64 (h * 6364136223846793005) + 1442695040888963407) = curH h := rfl
  rw [eH]
  have hc1 := hc.set2 (curH h)
  have hm1 : Mod w.heap.size p w (w.setCell ⟨p, 2, none⟩ (.int .i64 (curH h))) := (Mod.refl _ _ _).setCell _
  generalize w.setCell ⟨p, 2, none⟩ (.int .i64 (curH h)) = w1 at *
  generalize hH : curH h = H at *
  have HH : Hid (curH h = H) := hH
  clear hH
  clear eH c0 c1 c2 f1 f2
  have c0 := hc1.c0
  have c1 := hc1.c1
  have c2 := hc1.c2
  have f1 := hc1.free 1
  have hx := curX_bd H
  obtain ⟨hx1, hx2⟩ := hx
  have eX : bits .and .i64 (bits .xor .i64 (H / 8589934592) (H / 35184372088832)) 255 = curX H := rfl
  go_quiet (fail)
  go_wp2
  go_quiet (fail)
  go_wp2
  go_ret
  rw [HH.out]
  exact ⟨rfl, (hc1.drewN _).drewN _, (hm1.drewN _).drewN _⟩

/-- A cursor that stands at s, over the code's bytes cs. -/
def At (w : World) (p : Nat) (ao : Option Addr) (len cap : Nat) (cs : Nat → Nat) (s : Pos) : Prop := Cur 70 w p ao len cap s.i s.h ∧ CodeIs w p ao len cs ∧ len ≤ 1048576 ∧ s.i ≤ len
theorem At.lt {w : World} {p : Nat} {ao : Option Addr} {len cap : Nat} {cs : Nat → Nat} {s : Pos} (h : At w p ao len cap cs s) : p < w.heap.size := h.1.lt
theorem At.below {w w' : World} {B p : Nat} {ao : Option Addr} {len cap : Nat} {cs : Nat → Nat} {s : Pos} (h : At w p ao len cap cs s) (hb : Below B w w') (hp : p < B) : At w' p ao len cap cs s :=
  ⟨h.1.below hb hp, h.2.1.kept (Mod.of_below (p := p) hb) (by omega), h.2.2⟩

theorem byte_any (w : World) (p : Nat) (ao : Option Addr) (len cap : Nat) (cs : Nat → Nat) (s : Pos) (h : At w p ao len cap cs s) :
    Calls Try.prog 46 #[.pointer (some ⟨p, 0, none⟩)] w fun e w' => e = .returned (.int .i64 (byteV len cs s)) ∧ At w' p ao len cap cs (byteP len s) ∧ Mod w.heap.size p w w' := by
  have hlt := h.lt
  obtain ⟨h1, h2, h3, h4⟩ := h
  by_cases hi : s.i < len
  · obtain ⟨cb, co, rfl, hcb, hc5, hcell⟩ := h2.at hi
    refine (byte_in w p cb co len cap (cs s.i) s.i s.h h1 hcb hi h3 hc5 hcell).mono ?_
    rintro e w' ⟨he, hc', hm⟩
    refine ⟨by rw [he, byteV, if_pos hi], ?_, hm⟩
    rw [byteP, if_pos hi]
    exact ⟨hc', h2.kept hm (by omega), h3, by show s.i + 1 ≤ len; omega⟩
  · refine (byte_out w p ao len cap s.i s.h h1 (by omega) (by omega) h3).mono ?_
    rintro e w' ⟨he, hc', hm⟩
    refine ⟨by rw [he, byteV, if_neg hi], ?_, hm⟩
    rw [byteP, if_neg hi]
    exact ⟨hc', h2.kept hm (by omega), h3, h4⟩

/-- What l1Below answers, and where the cursor stands then. -/
def belowV (len : Nat) (cs : Nat → Nat) (n : Int) (s : Pos) : Int :=
  if n ≤ 0 then 0 else if n ≤ 256 then byteV len cs s % n
  else (byteV len cs s * 16777216 + byteV len cs (byteP len s) * 65536 + byteV len cs (byteP len (byteP len s)) * 256 + byteV len cs (byteP len (byteP len (byteP len s)))) % n
def belowP (len : Nat) (n : Int) (s : Pos) : Pos := if n ≤ 0 then s else if n ≤ 256 then byteP len s else byteP len (byteP len (byteP len (byteP len s)))
theorem belowV_bd (len : Nat) (cs : Nat → Nat) (n : Int) (s : Pos) : 0 ≤ belowV len cs n s ∧ (0 < n → belowV len cs n s < n) := by
  unfold belowV
  split
  · exact ⟨by omega, fun h => by omega⟩
  · split
    · exact ⟨Int.emod_nonneg _ (by omega), fun h => Int.emod_lt_of_pos _ h⟩
    · exact ⟨Int.emod_nonneg _ (by omega), fun h => Int.emod_lt_of_pos _ h⟩

set_option maxHeartbeats 1000000 in
theorem below_any (w : World) (p : Nat) (ao : Option Addr) (len cap : Nat) (cs : Nat → Nat) (s : Pos) (n : Int) (hn : n ≤ 9223372036854775807) (h : At w p ao len cap cs s) :
    Calls Try.prog 35 #[.pointer (some ⟨p, 0, none⟩), .int .i64 n] w fun e w' => e = .returned (.int .i64 (belowV len cs n s)) ∧ At w' p ao len cap cs (belowP len n s) ∧ Mod w.heap.size p w w' := by
  by_cases h0 : n ≤ 0
  · have HV : Hid (belowV len cs n s = 0) := by show belowV len cs n s = 0; rw [belowV, if_pos h0]
    have HP : Hid (belowP len n s = s) := by show belowP len n s = s; rw [belowP, if_pos h0]
    have HA : Hid (At w p ao len cap cs s) := h
    clear h
    go_enter Try.func35, Try.ntmps35
    go_wp2_with fail
    go_ret
    rw [HV.out, HP.out]
    exact ⟨rfl, HA.out, Mod.refl _ _ _⟩
  · by_cases h256 : n ≤ 256
    · have HV : Hid (belowV len cs n s = byteV len cs s % n) := by show belowV len cs n s = _; rw [belowV, if_neg h0, if_pos h256]
      have HP : Hid (belowP len n s = byteP len s) := by show belowP len n s = _; rw [belowP, if_neg h0, if_pos h256]
      have HA : Hid (At w p ao len cap cs s) := h
      clear h
      have hb := byteV_bd len cs s
      obtain ⟨hb1, hb2⟩ := hb
      go_enter Try.func35, Try.ntmps35
      go_wp2_with fail
      refine (byte_any _ p ao len cap cs s HA.out).mono ?_
      rintro e w1 ⟨rfl, hA1, hm1⟩
      go_wp2_with fail
      go_ret
      rw [HV.out, HP.out]
      exact ⟨rfl, hA1, hm1⟩
    · have HV : Hid (belowV len cs n s = (byteV len cs s * 16777216 + byteV len cs (byteP len s) * 65536 + byteV len cs (byteP len (byteP len s)) * 256 + byteV len cs (byteP len (byteP len (byteP len s)))) % n) := by
        show belowV len cs n s = _; rw [belowV, if_neg h0, if_neg h256]
      have HP : Hid (belowP len n s = byteP len (byteP len (byteP len (byteP len s)))) := by show belowP len n s = _; rw [belowP, if_neg h0, if_neg h256]
      have HA : Hid (At w p ao len cap cs s) := h
      clear h
      have hb := byteV_bd len cs s
      have hb' := byteV_bd len cs (byteP len s)
      have hb'' := byteV_bd len cs (byteP len (byteP len s))
      have hb3 := byteV_bd len cs (byteP len (byteP len (byteP len s)))
      obtain ⟨a1, a2⟩ := hb
      obtain ⟨a3, a4⟩ := hb'
      obtain ⟨a5, a6⟩ := hb''
      obtain ⟨a7, a8⟩ := hb3
      go_enter Try.func35, Try.ntmps35
      go_wp2_with fail
      refine (byte_any _ p ao len cap cs s HA.out).mono ?_
      rintro e w1 ⟨rfl, hA1, hm1⟩
      go_wp2_with fail
      refine (byte_any _ p ao len cap cs _ hA1).mono ?_
      rintro e w2 ⟨rfl, hA2, hm2⟩
      go_wp2_with fail
      refine (byte_any _ p ao len cap cs _ hA2).mono ?_
      rintro e w3 ⟨rfl, hA3, hm3⟩
      go_wp2_with fail
      refine (byte_any _ p ao len cap cs _ hA3).mono ?_
      rintro e w4 ⟨rfl, hA4, hm4⟩
      go_wp2_with fail
      go_ret
      rw [HV.out, HP.out]
      exact ⟨rfl, hA4, hm1.trans ((hm2.mono hm1.size).trans ((hm3.mono (Nat.le_trans hm1.size hm2.size)).trans (hm4.mono (Nat.le_trans hm1.size (Nat.le_trans hm2.size hm3.size)))))⟩

end Go.Proofs.Ytfkgaoegdnkfcaa
