/- StFitsI WkTo StCopyI -/
import Derived.Test.YtdimaoloapbeoaaGreatDoorRows
import Derived.Test.YtdimaoloapbeoaaGreatDoorQv16
import Derived.Handy
import Derived.Deep.RegionHeld3
import Derived.Test.YtdimaoloapbeoaaGreatDoorQv2
import Derived.Test.YtdimaoloapbeoaaGreatDoorQv11
import Derived.Test.YtdimaoloapbeoaaGreatDoorQv1
import Derived.Test.YtdimaoloapbeoaaGreatDoorQv10
import Derived.Test.YtdimaoloapbeoaaGreatDoorQv9
import Derived.Test.YtdimaoloapbeoaaGreatDoorQv15
import Derived.Deep.RegionLaw
import Derived.Test.YtdimaoloapbeoaaGreatDoorQv12
namespace Go.Proofs.YtdimaoloapbeoaaGreatDoor
open Go.ChangeShapes Go.WideShapes Go.ChangeAt Go.RowKit Go.PlainAid
set_option linter.unusedVariables false
set_option maxHeartbeats 2000000 in
theorem hardFits (t i v : Int) (d : ByteArray) (x : Wl) (wv : Value) (w : World) (B : Nat) (hv : WalV w B wv x) (hn : x.ents.length ≤ 60) (hb1 : 0 ≤ x.base) (hb2 : x.base ≤ 100000) (hB : B ≤ w.heap.size) : Calls Tryz.prog 100 #[.agg #[.int .i64 t, .int .i64 v], wv] w fun e w' => e = .returned (.bool (recFits x ⟨1, t, i, v, d⟩)) ∧ Below w.heap.size w w' := by
 obtain ⟨u, rfl, hl⟩ := hv
 obtain ⟨A, cap, rfl, hlk⟩ := ent_look hl
 obtain ⟨xt, xv, xb, xbt, es⟩ := x
 simp only at hn hb1 hb2 hlk ⊢
 clear hl
 have HL : Hid (∀ j, j < es.length → ∃ g off, A = some ⟨g, off, none⟩ ∧ g < B ∧ _) := hlk
 have HBW : Hid (B ≤ w.heap.size) := hB
 clear hlk hB
 generalize hN : es.length = n at *
 have q1 : (n : Int) ≤ 60 := by omega
 have hw1 : IntKind.i64.wrap (xb + (n : Int)) = xb + (n : Int) := by rw [IntKind.wrap_i64]; omega
 have hw2 : IntKind.i64.wrap (xb + (n : Int) + 1) = xb + (n : Int) + 1 := by rw [IntKind.wrap_i64]; omega
 have HB : Hid (Below w.heap.size w ((w.alloc (.cells #[.int .i64 t, .int .i64 v] 165)).alloc (.cells #[.int .i64 xt, .int .i64 xv, .int .i64 xb, .int .i64 xbt, .slice A n cap] 30))) := below_alloc2 w _ _
 by_cases a : xt < t
 ·have HE : Hid (recFits ⟨xt, xv, xb, xbt, es⟩ ⟨1, t, i, v, d⟩ = true) := by unfold Hid recFits; simp [a]
  go_enter Tryz.func100, Tryz.ntmps100
  go_wp2_with fail
  go_ret
  exact ⟨by rw [HE.out]; rfl, HB.out⟩
 ·have a' : t ≤ xt := by omega
  by_cases b : t = xt
  rotate_left
  ·have HE : Hid (recFits ⟨xt, xv, xb, xbt, es⟩ ⟨1, t, i, v, d⟩ = false) := by unfold Hid recFits; simp [a, b]
   have zb : (t == xt) = false := by simpa using b
   go_enter Tryz.func100, Tryz.ntmps100
   go_wp2_with fail
   go_ret
   exact ⟨by rw [HE.out]; rfl, HB.out⟩
  ·have zb : (t == xt) = true := by simpa using b
   by_cases c : xv = -1
   ·have zc : (xv == -1) = true := by simpa using c
    have HE : Hid (recFits ⟨xt, xv, xb, xbt, es⟩ ⟨1, t, i, v, d⟩ = true) := by unfold Hid recFits; simp [b, c]
    clear b c
    go_enter Tryz.func100, Tryz.ntmps100
    go_wp2_with fail
    go_ret
    exact ⟨by rw [HE.out]; rfl, HB.out⟩
   ·have zc : (xv == -1) = false := by simpa using c
    by_cases e : v = xv
    ·have ze : (v == xv) = true := by simpa using e
     have HE : Hid (recFits ⟨xt, xv, xb, xbt, es⟩ ⟨1, t, i, v, d⟩ = true) := by unfold Hid recFits; simp [b, e]
     clear b c e
     go_enter Tryz.func100, Tryz.ntmps100
     go_wp2_with fail
     go_ret
     exact ⟨by rw [HE.out]; rfl, HB.out⟩
    ·have ze : (v == xv) = false := by simpa using e
     have HE : Hid (recFits ⟨xt, xv, xb, xbt, es⟩ ⟨1, t, i, v, d⟩ = false) := by unfold Hid recFits; simp [b, c, e]
     clear b c e
     go_enter Tryz.func100, Tryz.ntmps100
     go_wp2_with fail
     go_ret
     exact ⟨by rw [HE.out]; rfl, HB.out⟩
set_option maxHeartbeats 2000000 in
theorem cutFits (t i v : Int) (d : ByteArray) (x : Wl) (wv : Value) (w : World) (B : Nat) (hv : WalV w B wv x) (hn : x.ents.length ≤ 60) (hb1 : 0 ≤ x.base) (hb2 : x.base ≤ 100000) (hB : B ≤ w.heap.size) : Calls Tryz.prog 103 #[.agg #[.int .i64 i], wv] w fun e w' => e = .returned (.bool (recFits x ⟨3, t, i, v, d⟩)) ∧ Below w.heap.size w w' := by
 obtain ⟨u, rfl, hl⟩ := hv
 obtain ⟨A, cap, rfl, hlk⟩ := ent_look hl
 obtain ⟨xt, xv, xb, xbt, es⟩ := x
 simp only at hn hb1 hb2 hlk ⊢
 clear hl
 have HL : Hid (∀ j, j < es.length → ∃ g off, A = some ⟨g, off, none⟩ ∧ g < B ∧ _) := hlk
 have HBW : Hid (B ≤ w.heap.size) := hB
 clear hlk hB
 generalize hN : es.length = n at *
 have q1 : (n : Int) ≤ 60 := by omega
 have hw1 : IntKind.i64.wrap (xb + (n : Int)) = xb + (n : Int) := by rw [IntKind.wrap_i64]; omega
 have hw2 : IntKind.i64.wrap (xb + (n : Int) + 1) = xb + (n : Int) + 1 := by rw [IntKind.wrap_i64]; omega
 have HB : Hid (Below w.heap.size w ((w.alloc (.cells #[.int .i64 i] 169)).alloc (.cells #[.int .i64 xt, .int .i64 xv, .int .i64 xb, .int .i64 xbt, .slice A n cap] 30))) := below_alloc2 w _ _
 by_cases a : xb < i
 rotate_left
 ·have a' : i ≤ xb := by omega
  have HE : Hid (recFits ⟨xt, xv, xb, xbt, es⟩ ⟨3, t, i, v, d⟩ = false) := by unfold Hid recFits; simp [a]
  go_enter Tryz.func103, Tryz.ntmps103
  go_wp2_with fail
  go_ret
  exact ⟨by rw [HE.out]; rfl, HB.out⟩
 by_cases b : i ≤ xb + (n : Int)
 ·have HE : Hid (recFits ⟨xt, xv, xb, xbt, es⟩ ⟨3, t, i, v, d⟩ = true) := by unfold Hid recFits; simp [a, b, hN]
  go_enter Tryz.func103, Tryz.ntmps103
  go_wp2_with fail
  go_ret
  exact ⟨by rw [HE.out]; rfl, HB.out⟩
 ·have b' : xb + (n : Int) < i := by omega
  have HE : Hid (recFits ⟨xt, xv, xb, xbt, es⟩ ⟨3, t, i, v, d⟩ = false) := by unfold Hid recFits; simp [a, b, hN]
  go_enter Tryz.func103, Tryz.ntmps103
  go_wp2_with fail
  go_ret
  exact ⟨by rw [HE.out]; rfl, HB.out⟩
set_option maxHeartbeats 2000000 in
theorem entryFits (t i v : Int) (d : ByteArray) (x : Wl) (wv : Value) (w : World) (B : Nat) (hv : WalV w B wv x) (hn : x.ents.length ≤ 60) (hb1 : 0 ≤ x.base) (hb2 : x.base ≤ 100000) (hB : B ≤ w.heap.size) : Calls Tryz.prog 101 #[.agg #[.int .i64 i, .int .i64 t, .string d], wv] w fun e w' => e = .returned (.bool (recFits x ⟨2, t, i, v, d⟩)) ∧ Below w.heap.size w w' := by
 obtain ⟨u, rfl, hl⟩ := hv
 obtain ⟨A, cap, rfl, hlk⟩ := ent_look hl
 obtain ⟨xt, xv, xb, xbt, es⟩ := x
 simp only at hn hb1 hb2 hlk ⊢
 clear hl
 have HL : Hid (∀ j, j < es.length → ∃ g off, A = some ⟨g, off, none⟩ ∧ g < B ∧ _) := hlk
 have HBW : Hid (B ≤ w.heap.size) := hB
 clear hlk hB
 generalize hN : es.length = n at *
 have q1 : (n : Int) ≤ 60 := by omega
 have hw1 : IntKind.i64.wrap (xb + (n : Int)) = xb + (n : Int) := by rw [IntKind.wrap_i64]; omega
 have hw2 : IntKind.i64.wrap (xb + (n : Int) + 1) = xb + (n : Int) + 1 := by rw [IntKind.wrap_i64]; omega
 have HB : Hid (Below w.heap.size w ((w.alloc (.cells #[.int .i64 i, .int .i64 t, .string d] 167)).alloc (.cells #[.int .i64 xt, .int .i64 xv, .int .i64 xb, .int .i64 xbt, .slice A n cap] 30))) := below_alloc2 w _ _
 have hla : ∃ la, lastTerm ⟨xt, xv, xb, xbt, es⟩ = la := ⟨_, rfl⟩
 obtain ⟨la, hla⟩ := hla
 have HF : Hid (recFits ⟨xt, xv, xb, xbt, es⟩ ⟨2, t, i, v, d⟩ = (decide (i = xb + n + 1) && decide (n < 60) && decide (la ≤ t) && decide (t ≤ xt))) := by
  unfold Hid recFits
  rw [if_neg (show ¬ (2 : Int) = 1 by decide), if_pos (show (2 : Int) = 2 from rfl), hla]
  simp only [hN]
 by_cases h0 : n = 0
 ·have hl0 : xbt = la := by rw [← hla]; exact (last_none ⟨xt, xv, xb, xbt, es⟩ (show es.length = 0 by omega)).symm
  subst hl0
  have z0 : (n : Int) ≤ 0 := by omega
  clear hla h0
  have b : n < 60 := by omega
  have b' : (n : Int) < 60 := by omega
  by_cases a : i = xb + (n : Int) + 1
  rotate_left
  ·have za : (i == xb + (n : Int) + 1) = false := by simpa using a
   have HE : Hid (recFits ⟨xt, xv, xb, xbt, es⟩ ⟨2, t, i, v, d⟩ = false) := by unfold Hid; rw [HF.out]; simp [a]
   go_enter Tryz.func101, Tryz.ntmps101
   go_wp2_with fail
   go_ret
   exact ⟨by rw [HE.out]; rfl, HB.out⟩
  have za : (i == xb + (n : Int) + 1) = true := by simpa using a
  by_cases c : xbt ≤ t
  rotate_left
  ·have c' : t < xbt := by omega
   have zc : decide (xbt ≤ t) = false := decide_eq_false c
   have HE : Hid (recFits ⟨xt, xv, xb, xbt, es⟩ ⟨2, t, i, v, d⟩ = false) := by unfold Hid; rw [HF.out]; simp [c]
   clear a c
   go_enter Tryz.func101, Tryz.ntmps101
   go_wp2_with fail
   go_ret
   exact ⟨by rw [HE.out]; rfl, HB.out⟩
  have zc : decide (xbt ≤ t) = true := decide_eq_true c
  by_cases e : t ≤ xt
  rotate_left
  ·have e' : xt < t := by omega
   have ze : decide (t ≤ xt) = false := decide_eq_false e
   have HE : Hid (recFits ⟨xt, xv, xb, xbt, es⟩ ⟨2, t, i, v, d⟩ = false) := by unfold Hid; rw [HF.out]; simp [e]
   clear a
   go_enter Tryz.func101, Tryz.ntmps101
   go_wp2_with fail
   go_ret
   exact ⟨by rw [HE.out]; rfl, HB.out⟩
  have ze : decide (t ≤ xt) = true := decide_eq_true e
  have HE : Hid (recFits ⟨xt, xv, xb, xbt, es⟩ ⟨2, t, i, v, d⟩ = true) := by unfold Hid; rw [HF.out]; simp [a, b, c, e]
  clear a
  go_enter Tryz.func101, Tryz.ntmps101
  go_wp2_with fail
  go_ret
  exact ⟨by rw [HE.out]; rfl, HB.out⟩
 ·obtain ⟨m, hm⟩ : ∃ m, n = m + 1 := ⟨n - 1, by omega⟩
  have hl1 : la = (es.getD m default).term := by rw [← hla]; exact last_some ⟨xt, xv, xb, xbt, es⟩ m (show es.length = m + 1 by omega)
  obtain ⟨g, off, rfl, hg, hc0, hc1⟩ := HL.out m (by omega)
  have hgw : g < w.heap.size := Nat.lt_of_lt_of_le hg HBW.out
  rw [← hl1] at hc0
  have hw3 : IntKind.i64.wrap ((n : Int) - 1) = (m : Int) := by rw [IntKind.wrap_i64]; omega
  have q2 : (m : Int) < (n : Int) := by omega
  have q3 : (0 : Int) < (n : Int) := by omega
  clear HL hc1 hl1 hla h0 hm
  by_cases b : n < 60
  rotate_left
  ·have b' : (60 : Int) ≤ (n : Int) := by omega
   have HE : Hid (recFits ⟨xt, xv, xb, xbt, es⟩ ⟨2, t, i, v, d⟩ = false) := by unfold Hid; rw [HF.out]; simp [b]
   go_enter Tryz.func101, Tryz.ntmps101
   go_wp2_with fail
   go_ret
   exact ⟨by rw [HE.out]; rfl, HB.out⟩
  have b' : (n : Int) < 60 := by omega
  by_cases a : i = xb + (n : Int) + 1
  rotate_left
  ·have za : (i == xb + (n : Int) + 1) = false := by simpa using a
   have HE : Hid (recFits ⟨xt, xv, xb, xbt, es⟩ ⟨2, t, i, v, d⟩ = false) := by unfold Hid; rw [HF.out]; simp [a]
   go_enter Tryz.func101, Tryz.ntmps101
   go_wp2_with fail
   go_ret
   exact ⟨by rw [HE.out]; rfl, HB.out⟩
  have za : (i == xb + (n : Int) + 1) = true := by simpa using a
  by_cases c : la ≤ t
  rotate_left
  ·have c' : t < la := by omega
   have zc : decide (la ≤ t) = false := decide_eq_false c
   have HE : Hid (recFits ⟨xt, xv, xb, xbt, es⟩ ⟨2, t, i, v, d⟩ = false) := by unfold Hid; rw [HF.out]; simp [c]
   clear a c
   go_enter Tryz.func101, Tryz.ntmps101
   go_wp2_with fail
   go_ret
   exact ⟨by rw [HE.out]; rfl, HB.out⟩
  have zc : decide (la ≤ t) = true := decide_eq_true c
  by_cases e : t ≤ xt
  rotate_left
  ·have e' : xt < t := by omega
   have ze : decide (t ≤ xt) = false := decide_eq_false e
   have HE : Hid (recFits ⟨xt, xv, xb, xbt, es⟩ ⟨2, t, i, v, d⟩ = false) := by unfold Hid; rw [HF.out]; simp [e]
   clear a
   go_enter Tryz.func101, Tryz.ntmps101
   go_wp2_with fail
   go_ret
   exact ⟨by rw [HE.out]; rfl, HB.out⟩
  have ze : decide (t ≤ xt) = true := decide_eq_true e
  have HE : Hid (recFits ⟨xt, xv, xb, xbt, es⟩ ⟨2, t, i, v, d⟩ = true) := by unfold Hid; rw [HF.out]; simp [a, b, c, e]
  clear a
  go_enter Tryz.func101, Tryz.ntmps101
  go_wp2_with fail
  go_ret
  exact ⟨by rw [HE.out]; rfl, HB.out⟩
end Go.Proofs.YtdimaoloapbeoaaGreatDoor
namespace Go.Proofs.YtdimaoloapbeoaaGreatDoor
open Go.ChangeShapes Go.WideShapes Go.ChangeAt Go.RowKit Go.PlainAid
set_option linter.unusedVariables false
theorem Tryz.infoEnt : (Tryz.prog.info? 59).map (fun i => (i.zero, i.size, i.bytes)) = some (some (.agg #[.int .i64 0, .string ⟨#[]⟩]), 2, 24) := by kernel_rfl
end Go.Proofs.YtdimaoloapbeoaaGreatDoor
namespace Go.Proofs.YtdimaoloapbeoaaGreatDoor
open Go.ChangeShapes Go.WideShapes Go.ChangeAt Go.RowKit Go.PlainAid
set_option linter.unusedVariables false
set_option maxHeartbeats 400000 in
theorem firstV (A : Option Addr) (m c k : Nat) (w : World) (h : k ≤ m) (hc : m ≤ c) : Calls Tryz.prog 104 #[.slice A m c, .int .i64 (k : Int)] w fun e w' => e = .returned (if k = 0 then .slice none 0 0 else .slice A k c) ∧ w = w' := by
 by_cases h0 : k = 0
 ·subst h0
  rw [if_pos rfl]
  go_enter Tryz.func104, Tryz.ntmps104
  go_wp2
  go_ret
  exact ⟨rfl, rfl⟩
 ·rw [if_neg h0]
  have z : ((k : Int) == 0) = false := by simp only [beq_eq_false_iff_ne, ne_eq]; omega
  have i0 : (0 : Int) ≤ (k : Int) := by omega
  have i1 : (k : Int) ≤ (c : Int) := by omega
  have i2 : (k : Int) ≤ (m : Int) := by omega
  clear h h0 hc
  go_enter Tryz.func104, Tryz.ntmps104
  go_wp2
  go_ret
  exact ⟨rfl, rfl⟩
end Go.Proofs.YtdimaoloapbeoaaGreatDoor
