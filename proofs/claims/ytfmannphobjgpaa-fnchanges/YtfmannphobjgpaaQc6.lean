/- StFitsI WokImpl ChDef StAid -/
import Derived.Test.YtfmannphobjgpaaRows
import Derived.Test.YtfmannphobjgpaaQc5
import Derived.Handy
import Derived.Deep.RegionHeld3
import Derived.Test.YtfmannphobjgpaaQc2
import Derived.Test.YtfmannphobjgpaaQc4
import Derived.Test.YtfmannphobjgpaaQc3
import Derived.Test.YtfmannphobjgpaaQc1
import Derived.Deep.RegionLaw
namespace Go.Proofs.Ytfmannphobjgpaa
open Go.ChangeShapes Go.WideShapes Go.ChangeAt Go.RowKit Go.PlainAid
set_option linter.unusedVariables false
set_option maxHeartbeats 2000000 in
theorem hardFits (t i v : Int) (d : ByteArray) (x : Wl) (wv : Value) (w : World) (B : Nat) (hv : WalV w B wv x) (hn : x.ents.length ≤ 60) (hb1 : 0 ≤ x.base) (hb2 : x.base ≤ 100000) (hB : B ≤ w.heap.size) : Calls Try.prog 17 #[.agg #[.int .i64 t, .int .i64 v], wv] w fun e w' => e = .returned (.bool (recFits x ⟨1, t, i, v, d⟩)) ∧ Below w.heap.size w w' := by
 obtain ⟨u, rfl, hl⟩ := hv
 obtain ⟨A, cap, rfl, hlk⟩ := ent_look hl
 obtain ⟨xt, xv, xb, xbt, es⟩ := x
 simp only at hn hb1 hb2 hlk ⊢
 clear hl
 have HL : Hid (∀ j, j < es.length → ∃ g off, A = some ⟨g, off, none⟩ ∧ g < B ∧ _) := hlk
 have HBW : Hid (B ≤ w.heap.size) := hB
 clear hlk hB
 generalize hN : es.length = n at *
 have q1 : (n : Int) ≤ 60 := by omega
 have hw1 : IntKind.i64.wrap (xb + (n : Int)) = xb + (n : Int) := by rw [IntKind.wrap_i64]; omega
 have hw2 : IntKind.i64.wrap (xb + (n : Int) + 1) = xb + (n : Int) + 1 := by rw [IntKind.wrap_i64]; omega
 have HB : Hid (Below w.heap.size w ((w.alloc (.cells #[.int .i64 t, .int .i64 v] 48)).alloc (.cells #[.int .i64 xt, .int .i64 xv, .int .i64 xb, .int .i64 xbt, .slice A n cap] 26))) := below_alloc2 w _ _
 by_cases a : xt < t
 ·have HE : Hid (recFits ⟨xt, xv, xb, xbt, es⟩ ⟨1, t, i, v, d⟩ = true) := by unfold Hid recFits; simp [a]
  go_enter Try.func17, Try.ntmps17
  go_wp2_with fail
  go_ret
  exact ⟨by rw [HE.out]; rfl, HB.out⟩
 ·have a' : t ≤ xt := by omega
  by_cases b : t = xt
  rotate_left
  ·have HE : Hid (recFits ⟨xt, xv, xb, xbt, es⟩ ⟨1, t, i, v, d⟩ = false) := by unfold Hid recFits; simp [a, b]
   have zb : (t == xt) = false := by simpa using b
   go_enter Try.func17, Try.ntmps17
   go_wp2_with fail
   go_ret
   exact ⟨by rw [HE.out]; rfl, HB.out⟩
  ·have zb : (t == xt) = true := by simpa using b
   by_cases c : xv = -1
   ·have zc : (xv == -1) = true := by simpa using c
    have HE : Hid (recFits ⟨xt, xv, xb, xbt, es⟩ ⟨1, t, i, v, d⟩ = true) := by unfold Hid recFits; simp [b, c]
    clear b c
    go_enter Try.func17, Try.ntmps17
    go_wp2_with fail
    go_ret
    exact ⟨by rw [HE.out]; rfl, HB.out⟩
   ·have zc : (xv == -1) = false := by simpa using c
    by_cases e : v = xv
    ·have ze : (v == xv) = true := by simpa using e
     have HE : Hid (recFits ⟨xt, xv, xb, xbt, es⟩ ⟨1, t, i, v, d⟩ = true) := by unfold Hid recFits; simp [b, e]
     clear b c e
     go_enter Try.func17, Try.ntmps17
     go_wp2_with fail
     go_ret
     exact ⟨by rw [HE.out]; rfl, HB.out⟩
    ·have ze : (v == xv) = false := by simpa using e
     have HE : Hid (recFits ⟨xt, xv, xb, xbt, es⟩ ⟨1, t, i, v, d⟩ = false) := by unfold Hid recFits; simp [b, c, e]
     clear b c e
     go_enter Try.func17, Try.ntmps17
     go_wp2_with fail
     go_ret
     exact ⟨by rw [HE.out]; rfl, HB.out⟩
set_option maxHeartbeats 2000000 in
theorem cutFits (t i v : Int) (d : ByteArray) (x : Wl) (wv : Value) (w : World) (B : Nat) (hv : WalV w B wv x) (hn : x.ents.length ≤ 60) (hb1 : 0 ≤ x.base) (hb2 : x.base ≤ 100000) (hB : B ≤ w.heap.size) : Calls Try.prog 42 #[.agg #[.int .i64 i], wv] w fun e w' => e = .returned (.bool (recFits x ⟨3, t, i, v, d⟩)) ∧ Below w.heap.size w w' := by
 obtain ⟨u, rfl, hl⟩ := hv
 obtain ⟨A, cap, rfl, hlk⟩ := ent_look hl
 obtain ⟨xt, xv, xb, xbt, es⟩ := x
 simp only at hn hb1 hb2 hlk ⊢
 clear hl
 have HL : Hid (∀ j, j < es.length → ∃ g off, A = some ⟨g, off, none⟩ ∧ g < B ∧ _) := hlk
 have HBW : Hid (B ≤ w.heap.size) := hB
 clear hlk hB
 generalize hN : es.length = n at *
 have q1 : (n : Int) ≤ 60 := by omega
 have hw1 : IntKind.i64.wrap (xb + (n : Int)) = xb + (n : Int) := by rw [IntKind.wrap_i64]; omega
 have hw2 : IntKind.i64.wrap (xb + (n : Int) + 1) = xb + (n : Int) + 1 := by rw [IntKind.wrap_i64]; omega
 have HB : Hid (Below w.heap.size w ((w.alloc (.cells #[.int .i64 i] 51)).alloc (.cells #[.int .i64 xt, .int .i64 xv, .int .i64 xb, .int .i64 xbt, .slice A n cap] 26))) := below_alloc2 w _ _
 by_cases a : xb < i
 rotate_left
 ·have a' : i ≤ xb := by omega
  have HE : Hid (recFits ⟨xt, xv, xb, xbt, es⟩ ⟨3, t, i, v, d⟩ = false) := by unfold Hid recFits; simp [a]
  go_enter Try.func42, Try.ntmps42
  go_wp2_with fail
  go_ret
  exact ⟨by rw [HE.out]; rfl, HB.out⟩
 by_cases b : i ≤ xb + (n : Int)
 ·have HE : Hid (recFits ⟨xt, xv, xb, xbt, es⟩ ⟨3, t, i, v, d⟩ = true) := by unfold Hid recFits; simp [a, b, hN]
  go_enter Try.func42, Try.ntmps42
  go_wp2_with fail
  go_ret
  exact ⟨by rw [HE.out]; rfl, HB.out⟩
 ·have b' : xb + (n : Int) < i := by omega
  have HE : Hid (recFits ⟨xt, xv, xb, xbt, es⟩ ⟨3, t, i, v, d⟩ = false) := by unfold Hid recFits; simp [a, b, hN]
  go_enter Try.func42, Try.ntmps42
  go_wp2_with fail
  go_ret
  exact ⟨by rw [HE.out]; rfl, HB.out⟩
set_option maxHeartbeats 2000000 in
theorem entryFits (t i v : Int) (d : ByteArray) (x : Wl) (wv : Value) (w : World) (B : Nat) (hv : WalV w B wv x) (hn : x.ents.length ≤ 60) (hb1 : 0 ≤ x.base) (hb2 : x.base ≤ 100000) (hB : B ≤ w.heap.size) : Calls Try.prog 41 #[.agg #[.int .i64 i, .int .i64 t, .string d], wv] w fun e w' => e = .returned (.bool (recFits x ⟨2, t, i, v, d⟩)) ∧ Below w.heap.size w w' := by
 obtain ⟨u, rfl, hl⟩ := hv
 obtain ⟨A, cap, rfl, hlk⟩ := ent_look hl
 obtain ⟨xt, xv, xb, xbt, es⟩ := x
 simp only at hn hb1 hb2 hlk ⊢
 clear hl
 have HL : Hid (∀ j, j < es.length → ∃ g off, A = some ⟨g, off, none⟩ ∧ g < B ∧ _) := hlk
 have HBW : Hid (B ≤ w.heap.size) := hB
 clear hlk hB
 generalize hN : es.length = n at *
 have q1 : (n : Int) ≤ 60 := by omega
 have hw1 : IntKind.i64.wrap (xb + (n : Int)) = xb + (n : Int) := by rw [IntKind.wrap_i64]; omega
 have hw2 : IntKind.i64.wrap (xb + (n : Int) + 1) = xb + (n : Int) + 1 := by rw [IntKind.wrap_i64]; omega
 have HB : Hid (Below w.heap.size w ((w.alloc (.cells #[.int .i64 i, .int .i64 t, .string d] 74)).alloc (.cells #[.int .i64 xt, .int .i64 xv, .int .i64 xb, .int .i64 xbt, .slice A n cap] 26))) := below_alloc2 w _ _
 have hla : ∃ la, lastTerm ⟨xt, xv, xb, xbt, es⟩ = la := ⟨_, rfl⟩
 obtain ⟨la, hla⟩ := hla
 have HF : Hid (recFits ⟨xt, xv, xb, xbt, es⟩ ⟨2, t, i, v, d⟩ = (decide (i = xb + n + 1) && decide (n < 60) && decide (la ≤ t) && decide (t ≤ xt))) := by
  unfold Hid recFits
  rw [if_neg (show ¬ (2 : Int) = 1 by decide), if_pos (show (2 : Int) = 2 from rfl), hla]
  simp only [hN]
 by_cases h0 : n = 0
 ·have hl0 : xbt = la := by rw [← hla]; exact (last_none ⟨xt, xv, xb, xbt, es⟩ (show es.length = 0 by omega)).symm
  subst hl0
  have z0 : (n : Int) ≤ 0 := by omega
  clear hla h0
  have b : n < 60 := by omega
  have b' : (n : Int) < 60 := by omega
  by_cases a : i = xb + (n : Int) + 1
  rotate_left
  ·have za : (i == xb + (n : Int) + 1) = false := by simpa using a
   have HE : Hid (recFits ⟨xt, xv, xb, xbt, es⟩ ⟨2, t, i, v, d⟩ = false) := by unfold Hid; rw [HF.out]; simp [a]
   go_enter Try.func41, Try.ntmps41
   go_wp2_with fail
   go_ret
   exact ⟨by rw [HE.out]; rfl, HB.out⟩
  have za : (i == xb + (n : Int) + 1) = true := by simpa using a
  by_cases c : xbt ≤ t
  rotate_left
  ·have c' : t < xbt := by omega
   have zc : decide (xbt ≤ t) = false := decide_eq_false c
   have HE : Hid (recFits ⟨xt, xv, xb, xbt, es⟩ ⟨2, t, i, v, d⟩ = false) := by unfold Hid; rw [HF.out]; simp [c]
   clear a c
   go_enter Try.func41, Try.ntmps41
   go_wp2_with fail
   go_ret
   exact ⟨by rw [HE.out]; rfl, HB.out⟩
  have zc : decide (xbt ≤ t) = true := decide_eq_true c
  by_cases e : t ≤ xt
  rotate_left
  ·have e' : xt < t := by omega
   have ze : decide (t ≤ xt) = false := decide_eq_false e
   have HE : Hid (recFits ⟨xt, xv, xb, xbt, es⟩ ⟨2, t, i, v, d⟩ = false) := by unfold Hid; rw [HF.out]; simp [e]
   clear a
   go_enter Try.func41, Try.ntmps41
   go_wp2_with fail
   go_ret
   exact ⟨by rw [HE.out]; rfl, HB.out⟩
  have ze : decide (t ≤ xt) = true := decide_eq_true e
  have HE : Hid (recFits ⟨xt, xv, xb, xbt, es⟩ ⟨2, t, i, v, d⟩ = true) := by unfold Hid; rw [HF.out]; simp [a, b, c, e]
  clear a
  go_enter Try.func41, Try.ntmps41
  go_wp2_with fail
  go_ret
  exact ⟨by rw [HE.out]; rfl, HB.out⟩
 ·obtain ⟨m, hm⟩ : ∃ m, n = m + 1 := ⟨n - 1, by omega⟩
  have hl1 : la = (es.getD m default).term := by rw [← hla]; exact last_some ⟨xt, xv, xb, xbt, es⟩ m (show es.length = m + 1 by omega)
  obtain ⟨g, off, rfl, hg, hc0, hc1⟩ := HL.out m (by omega)
  have hgw : g < w.heap.size := Nat.lt_of_lt_of_le hg HBW.out
  rw [← hl1] at hc0
  have hw3 : IntKind.i64.wrap ((n : Int) - 1) = (m : Int) := by rw [IntKind.wrap_i64]; omega
  have q2 : (m : Int) < (n : Int) := by omega
  have q3 : (0 : Int) < (n : Int) := by omega
  clear HL hc1 hl1 hla h0 hm
  by_cases b : n < 60
  rotate_left
  ·have b' : (60 : Int) ≤ (n : Int) := by omega
   have HE : Hid (recFits ⟨xt, xv, xb, xbt, es⟩ ⟨2, t, i, v, d⟩ = false) := by unfold Hid; rw [HF.out]; simp [b]
   go_enter Try.func41, Try.ntmps41
   go_wp2_with fail
   go_ret
   exact ⟨by rw [HE.out]; rfl, HB.out⟩
  have b' : (n : Int) < 60 := by omega
  by_cases a : i = xb + (n : Int) + 1
  rotate_left
  ·have za : (i == xb + (n : Int) + 1) = false := by simpa using a
   have HE : Hid (recFits ⟨xt, xv, xb, xbt, es⟩ ⟨2, t, i, v, d⟩ = false) := by unfold Hid; rw [HF.out]; simp [a]
   go_enter Try.func41, Try.ntmps41
   go_wp2_with fail
   go_ret
   exact ⟨by rw [HE.out]; rfl, HB.out⟩
  have za : (i == xb + (n : Int) + 1) = true := by simpa using a
  by_cases c : la ≤ t
  rotate_left
  ·have c' : t < la := by omega
   have zc : decide (la ≤ t) = false := decide_eq_false c
   have HE : Hid (recFits ⟨xt, xv, xb, xbt, es⟩ ⟨2, t, i, v, d⟩ = false) := by unfold Hid; rw [HF.out]; simp [c]
   clear a c
   go_enter Try.func41, Try.ntmps41
   go_wp2_with fail
   go_ret
   exact ⟨by rw [HE.out]; rfl, HB.out⟩
  have zc : decide (la ≤ t) = true := decide_eq_true c
  by_cases e : t ≤ xt
  rotate_left
  ·have e' : xt < t := by omega
   have ze : decide (t ≤ xt) = false := decide_eq_false e
   have HE : Hid (recFits ⟨xt, xv, xb, xbt, es⟩ ⟨2, t, i, v, d⟩ = false) := by unfold Hid; rw [HF.out]; simp [e]
   clear a
   go_enter Try.func41, Try.ntmps41
   go_wp2_with fail
   go_ret
   exact ⟨by rw [HE.out]; rfl, HB.out⟩
  have ze : decide (t ≤ xt) = true := decide_eq_true e
  have HE : Hid (recFits ⟨xt, xv, xb, xbt, es⟩ ⟨2, t, i, v, d⟩ = true) := by unfold Hid; rw [HF.out]; simp [a, b, c, e]
  clear a
  go_enter Try.func41, Try.ntmps41
  go_wp2_with fail
  go_ret
  exact ⟨by rw [HE.out]; rfl, HB.out⟩
end Go.Proofs.Ytfmannphobjgpaa
namespace Go.Proofs.Ytfmannphobjgpaa
open Go.ChangeShapes Go.WideShapes Go.ChangeAt Go.RowKit Go.PlainAid
set_option linter.unusedVariables false
def leOk (top : Int) : Int → List Ent → Bool
 | _, [] => true
 | least, e :: r => decide (least ≤ e.term) && decide (e.term ≤ top) && decide (e.data.size ≤ 900) && leOk top e.term r
theorem entsOk_le (top : Int) : ∀ (l : List Ent) (last : Int), entsOk top last l = leOk top (max last 1) l
 | [], _ => rfl
 | e :: r, last => by
  unfold entsOk leOk
  rw [entsOk_le top r e.term]
  by_cases h1 : 1 ≤ e.term
  ·rw [Int.max_eq_left h1, decide_eq_true h1, Bool.true_and]
   congr 3
   rw [decide_eq_decide]
   omega
  ·rw [decide_eq_false h1, decide_eq_false (show ¬ max last 1 ≤ e.term by omega)]
   simp
def leAt (bt : Int) (l : List Ent) (k : Nat) : Int := if k = 0 then max bt 1 else (l.getD (k - 1) default).term
theorem le_step (top last : Int) (l : List Ent) (k : Nat) (h : k < l.length) :
  leOk top last (l.drop k) = (decide (last ≤ (l.getD k default).term) && decide ((l.getD k default).term ≤ top) && decide ((l.getD k default).data.size ≤ 900) && leOk top (l.getD k default).term (l.drop (k + 1))) := by
 rw [List.drop_eq_getElem_cons h, ← getD_at l k h]
 rfl
theorem leAt_succ (bt : Int) (l : List Ent) (k : Nat) : leAt bt l (k + 1) = (l.getD k default).term := rfl
def entsAll (x : Wl) : Bool := decide (x.ents.length ≤ 60) && decide (x.base + x.ents.length ≤ 100000) && entsOk x.term x.bterm x.ents
set_option maxHeartbeats 2000000 in
theorem entriesOkV (x : Wl) (v : Value) (w : World) (B : Nat) (hv : WalV w B v x) (hf : FitsW x) (hB : B ≤ w.heap.size) (hb1 : 0 ≤ x.base) (hb2 : x.base ≤ 100000) : Calls Try.prog 36 #[v] w fun e w' => e = .returned (.bool (entsAll x)) ∧ Below w.heap.size w w' := by
 obtain ⟨u, rfl, hl⟩ := hv
 obtain ⟨A, cap, rfl, hlk⟩ := ent_look hl
 have HL : Hid (∀ j, j < x.ents.length → ∃ g off, A = some ⟨g, off, none⟩ ∧ g < B ∧ _) := hlk
 have HB : Hid (B ≤ w.heap.size) := hB
 have hn0 := hf.n
 have HF : Hid (∀ e ∈ x.ents, e.data.size ≤ maxLen) := hf.d
 unfold maxLen at hn0
 have q1 : (x.ents.length : Int) ≤ 9223372036854775807 := by omega
 have HE : Hid (entsAll x = (decide (x.ents.length ≤ 60) && decide (x.base + x.ents.length ≤ 100000) && leOk x.term (max x.bterm 1) x.ents)) := by unfold Hid entsAll; rw [entsOk_le]
 clear hl hlk hB hf hn0
 generalize hN : x.ents.length = n at *
 have B0 : Hid (Below w.heap.size w (w.alloc (.cells #[.int .i64 x.term, .int .i64 x.vote, .int .i64 x.base, .int .i64 x.bterm, .slice A n cap] 26))) := (Below.refl _ _).alloc (Nat.le_refl _) _
 have K0 : Hid (Blk (w.alloc (.cells #[.int .i64 x.term, .int .i64 x.vote, .int .i64 x.base, .int .i64 x.bterm, .slice A n cap] 26)) w.heap.size #[.int .i64 x.term, .int .i64 x.vote, .int .i64 x.base, .int .i64 x.bterm, .slice A n cap] 26) := Blk.new _ _ _
 by_cases h5 : n ≤ 60
 rotate_left
 ·rw [decide_eq_false h5] at HE
  have h5' : (60 : Int) < (n : Int) := by omega
  go_enter Try.func36, Try.ntmps36
  go_wp2_with fail
  go_ret
  exact ⟨by rw [HE.out]; rfl, B0.out⟩
 rw [decide_eq_true h5] at HE
 have h5' : (n : Int) ≤ 60 := by omega
 have hw1 : IntKind.i64.wrap (x.base + (n : Int)) = x.base + (n : Int) := by rw [IntKind.wrap_i64]; omega
 by_cases h6 : x.base + (n : Int) ≤ 100000
 rotate_left
 ·rw [decide_eq_false h6] at HE
  have h6' : (100000 : Int) < x.base + (n : Int) := by omega
  go_enter Try.func36, Try.ntmps36
  go_wp2_with fail
  go_ret
  exact ⟨by rw [HE.out]; rfl, B0.out⟩
 rw [decide_eq_true h6] at HE
 have HE : Hid (entsAll x = leOk x.term (max x.bterm 1) x.ents) := by unfold Hid; rw [HE.out]; simp
 by_cases hm : 1 ≤ x.bterm
 all_goals try have hm2 : x.bterm < 1 := by omega
 all_goals
  go_enter Try.func36, Try.ntmps36
  go_wp2_with fail
  generalize w.alloc (.cells #[.int .i64 x.term, .int .i64 x.vote, .int .i64 x.base, .int .i64 x.bterm, .slice A n cap] 26) = W at *
  clear hw1 h6
  go_loopw [3, 25] (fun v3 v4 wr => ∃ k : Nat, k ≤ n ∧ v4 = .int .i64 (k : Int) ∧ v3 = .int .i64 (leAt x.bterm x.ents k) ∧ Hid (entsAll x = leOk x.term (leAt x.bterm x.ents k) (x.ents.drop k)) ∧ Below W.heap.size W wr) (fun _ i _ => n - (intOf i).toNat)
  case atStart => exact ⟨0, by omega, rfl, by first | rfl | (unfold leAt; simp [Int.max_def]; try omega), HE, Below.refl _ _⟩
  case round =>
   obtain ⟨k, hk, rfl, rfl, HR, hb⟩ := hrel
   have HB1 : Hid (Below W.heap.size W wr) := hb
   have hlt0 := K0.out.lt
   have c0 := (hb.cell (p := ⟨w.heap.size, 0, none⟩) hlt0).trans (K0.out.cell 0 (.int .i64 x.term) rfl)
   have hsz := hb.size
   clear hb hlt0
   by_cases hlt : k < n
   ·have q4 : (k : Int) < (n : Int) := by omega
    obtain ⟨g, off, rfl, hg, hc0, hc1⟩ := HL.out k (by omega)
    have hgw : g < W.heap.size := Nat.lt_of_lt_of_le hg (Nat.le_trans HB.out B0.out.size)
    rw [← B0.out.cell (p := ⟨_, _, none⟩) (Nat.lt_of_lt_of_le hg HB.out), ← HB1.out.cell (p := ⟨_, _, none⟩) hgw] at hc0 hc1
    have HX := le_step x.term (leAt x.bterm x.ents k) x.ents k (by omega)
    have HX1 := leAt_succ x.bterm x.ents k
    have hds := HF.out _ (getD_mem x.ents k (by omega))
    unfold maxLen at hds
    have hdi : ((x.ents.getD k default).data.size : Int) ≤ 9223372036854775807 := by omega
    have HXX : Hid (entsAll x = (decide (leAt x.bterm x.ents k ≤ (x.ents.getD k default).term) && decide ((x.ents.getD k default).term ≤ x.term) && decide ((x.ents.getD k default).data.size ≤ 900) && leOk x.term (x.ents.getD k default).term (x.ents.drop (k + 1)))) := HR.out.trans HX
    have HXS : Hid (leAt x.bterm x.ents (k + 1) = (x.ents.getD k default).term) := HX1
    have HBF : Hid (Below w.heap.size w (wr.alloc (.cells #[.int .i64 (x.ents.getD k default).term, .string (x.ents.getD k default).data] 58))) := (B0.out.trans (HB1.out.mono B0.out.size)).alloc (Nat.le_trans B0.out.size HB1.out.size) _
    have HBG : Hid (Below W.heap.size W (wr.alloc (.cells #[.int .i64 (x.ents.getD k default).term, .string (x.ents.getD k default).data] 58))) := HB1.out.alloc HB1.out.size _
    clear HX HX1 HR hds
    generalize leAt x.bterm x.ents k = la at *
    generalize x.ents.getD k default = y at *
    obtain ⟨yt, yd⟩ := y
    simp only at hc0 hc1 HXX HXS HBF HBG hdi
    have hw0 : w.heap.size < wr.heap.size := Nat.lt_of_lt_of_le K0.out.lt hsz
    have hgr : g < wr.heap.size := Nat.lt_of_lt_of_le hgw hsz
    by_cases h8 : la ≤ yt
    rotate_left
    ·rw [decide_eq_false h8] at HXX
     have h8' : yt < la := by omega
     clear h8
     have HXX : Hid (entsAll x = false) := by unfold Hid; rw [HXX.out]; simp
     go_wp2_with fail
     go_ret
     exact ⟨by rw [HXX.out]; rfl, HBF.out⟩
    rw [decide_eq_true h8] at HXX
    by_cases h9 : yt ≤ x.term
    rotate_left
    ·rw [decide_eq_false h9] at HXX
     have h9' : x.term < yt := by omega
     clear h9
     have HXX : Hid (entsAll x = false) := by unfold Hid; rw [HXX.out]; simp
     go_wp2_with fail
     go_ret
     exact ⟨by rw [HXX.out]; rfl, HBF.out⟩
    rw [decide_eq_true h9] at HXX
    by_cases hz : (yd.size : Int) ≤ 900
    rotate_left
    ·rw [decide_eq_false (show ¬ yd.size ≤ 900 by omega)] at HXX
     have hz' : 900 < (yd.size : Int) := by omega
     clear hz
     have HXX : Hid (entsAll x = false) := by unfold Hid; rw [HXX.out]; simp
     go_wp2_with fail
     go_ret
     exact ⟨by rw [HXX.out]; rfl, HBF.out⟩
    rw [decide_eq_true (show yd.size ≤ 900 by omega)] at HXX
    have HXX : Hid (entsAll x = leOk x.term yt (x.ents.drop (k + 1))) := by unfold Hid; rw [HXX.out]; simp
    go_wp2_with fail
    go_roundw
    case rel => exact ⟨k + 1, by omega, by go_num, by rw [HXS.out], by rw [HXS.out]; exact HXX, HBG.out⟩
    case measure => simp [intOf]; omega
   ·obtain rfl : k = n := by omega
    have HXX : Hid (entsAll x = true) := by
     unfold Hid
     rw [HR.out, ← hN, List.drop_length]
     rfl
    clear HR
    generalize leAt x.bterm x.ents k = la at *
    go_wp2_with fail
    go_ret
    exact ⟨by rw [HXX.out]; rfl, B0.out.trans (HB1.out.mono B0.out.size)⟩
theorem below_alloc3' (w : World) (a b c : Obj) : Below w.heap.size w (((w.alloc a).alloc b).alloc c) := (((Below.refl _ w).alloc (Nat.le_refl _) a).alloc (by simp) b).alloc (by simp; omega) c
theorem recOk_hard (t v : Int) : recOk ⟨1, t, 0, v, ⟨#[]⟩⟩ = (inIt t 0 100000 && inIt v (-1) 4) := by
 show (inIt t 0 100000 && inIt v (-1) 4 && decide ((0 : Int) = 0) && decide ((⟨#[]⟩ : ByteArray) = ByteArray.empty)) = _
 rw [decide_eq_true (show (0 : Int) = 0 from rfl), decide_eq_true (show (⟨#[]⟩ : ByteArray) = ByteArray.empty from rfl), Bool.and_true, Bool.and_true]
theorem recOk_base (i t : Int) : recOk ⟨4, t, i, 0, ⟨#[]⟩⟩ = based i t := by
 show (based i t && decide ((0 : Int) = 0) && decide ((⟨#[]⟩ : ByteArray) = ByteArray.empty)) = _
 rw [decide_eq_true (show (0 : Int) = 0 from rfl), decide_eq_true (show (⟨#[]⟩ : ByteArray) = ByteArray.empty from rfl), Bool.and_true, Bool.and_true]
set_option maxHeartbeats 2000000 in
theorem implWalOk (x : Wl) (v : Value) (w : World) (B : Nat) (hv : WalV w B v x) (hf : FitsW x) (hB : B ≤ w.heap.size) : Calls Try.prog 16 #[v] w fun e w' => e = .returned (.bool (walOk x)) ∧ Below w.heap.size w w' := by
 obtain ⟨u, rfl, hl⟩ := hv
 have HL : Hid (Lies w B 2 u (entR x.ents)) := hl
 have HF : Hid (FitsW x) := hf
 have HB : Hid (B ≤ w.heap.size) := hB
 have HE : Hid (walOk x = ((inIt x.term 0 100000 && inIt x.vote (-1) 4) && based x.base x.bterm && decide (x.bterm ≤ x.term) && entsAll x)) := by
  unfold Hid walOk entsAll
  simp only [Bool.and_assoc]
 have a1 := fun wx => implRecOk ⟨1, x.term, 0, x.vote, ⟨#[]⟩⟩ wx (by show (0 : Nat) ≤ _; exact Nat.zero_le _)
 have a2 := fun wx => implRecOk ⟨4, x.bterm, x.base, 0, ⟨#[]⟩⟩ wx (by show (0 : Nat) ≤ _; exact Nat.zero_le _)
 rw [recOk_hard] at a1
 rw [recOk_base] at a2
 unfold vRcd at a1 a2
 simp only at a1 a2
 clear hl hf hB
 cases h1 : (inIt x.term 0 100000 && inIt x.vote (-1) 4) <;> rw [h1] at a1 HE
 ·clear h1
  go_enter Try.func16, Try.ntmps16
  go_wp2_with fail
  have B0 := below_alloc3' w (.cells #[.int .i64 x.term, .int .i64 x.vote, .int .i64 x.base, .int .i64 x.bterm, u] 26) (.cells #[.int .i64 1, .int .i64 x.term, .int .i64 0, .int .i64 x.vote, .string ⟨#[]⟩] 35) (.cells #[.int .i64 4, .int .i64 x.bterm, .int .i64 x.base, .int .i64 0, .string ⟨#[]⟩] 35)
  have k0 := ((Blk.new w #[.int .i64 x.term, .int .i64 x.vote, .int .i64 x.base, .int .i64 x.bterm, u] 26).alloc (.cells #[.int .i64 1, .int .i64 x.term, .int .i64 0, .int .i64 x.vote, .string ⟨#[]⟩] 35)).alloc (.cells #[.int .i64 4, .int .i64 x.bterm, .int .i64 x.base, .int .i64 0, .string ⟨#[]⟩] 35)
  have k2 := Blk.new ((w.alloc (.cells #[.int .i64 x.term, .int .i64 x.vote, .int .i64 x.base, .int .i64 x.bterm, u] 26)).alloc (.cells #[.int .i64 1, .int .i64 x.term, .int .i64 0, .int .i64 x.vote, .string ⟨#[]⟩] 35)) #[.int .i64 4, .int .i64 x.bterm, .int .i64 x.base, .int .i64 0, .string ⟨#[]⟩] 35
  simp only [World.size_alloc] at k2
  generalize ((w.alloc (.cells #[.int .i64 x.term, .int .i64 x.vote, .int .i64 x.base, .int .i64 x.bterm, u] 26)).alloc (.cells #[.int .i64 1, .int .i64 x.term, .int .i64 0, .int .i64 x.vote, .string ⟨#[]⟩] 35)).alloc (.cells #[.int .i64 4, .int .i64 x.bterm, .int .i64 x.base, .int .i64 0, .string ⟨#[]⟩] 35) = W at *
  refine (a1 W).mono ?_
  rintro e w1 ⟨rfl, hb1⟩
  have B1 : Hid (Below w.heap.size w w1) := B0.trans (hb1.mono B0.size)
  clear B0 hb1 k0 k2
  go_wp2_with fail
  go_ret
  exact ⟨by rw [HE.out]; rfl, B1.out⟩
 clear h1
 cases h3 : based x.base x.bterm <;> rw [h3] at a2 HE
 ·clear h3
  go_enter Try.func16, Try.ntmps16
  go_wp2_with fail
  have B0 := below_alloc3' w (.cells #[.int .i64 x.term, .int .i64 x.vote, .int .i64 x.base, .int .i64 x.bterm, u] 26) (.cells #[.int .i64 1, .int .i64 x.term, .int .i64 0, .int .i64 x.vote, .string ⟨#[]⟩] 35) (.cells #[.int .i64 4, .int .i64 x.bterm, .int .i64 x.base, .int .i64 0, .string ⟨#[]⟩] 35)
  have k0 := ((Blk.new w #[.int .i64 x.term, .int .i64 x.vote, .int .i64 x.base, .int .i64 x.bterm, u] 26).alloc (.cells #[.int .i64 1, .int .i64 x.term, .int .i64 0, .int .i64 x.vote, .string ⟨#[]⟩] 35)).alloc (.cells #[.int .i64 4, .int .i64 x.bterm, .int .i64 x.base, .int .i64 0, .string ⟨#[]⟩] 35)
  have k2 := Blk.new ((w.alloc (.cells #[.int .i64 x.term, .int .i64 x.vote, .int .i64 x.base, .int .i64 x.bterm, u] 26)).alloc (.cells #[.int .i64 1, .int .i64 x.term, .int .i64 0, .int .i64 x.vote, .string ⟨#[]⟩] 35)) #[.int .i64 4, .int .i64 x.bterm, .int .i64 x.base, .int .i64 0, .string ⟨#[]⟩] 35
  simp only [World.size_alloc] at k2
  generalize ((w.alloc (.cells #[.int .i64 x.term, .int .i64 x.vote, .int .i64 x.base, .int .i64 x.bterm, u] 26)).alloc (.cells #[.int .i64 1, .int .i64 x.term, .int .i64 0, .int .i64 x.vote, .string ⟨#[]⟩] 35)).alloc (.cells #[.int .i64 4, .int .i64 x.bterm, .int .i64 x.base, .int .i64 0, .string ⟨#[]⟩] 35) = W at *
  refine (a1 W).mono ?_
  rintro e w1 ⟨rfl, hb1⟩
  have B1 : Hid (Below w.heap.size w w1) := B0.trans (hb1.mono B0.size)
  have K1 : Hid (Blk w1 w.heap.size #[.int .i64 x.term, .int .i64 x.vote, .int .i64 x.base, .int .i64 x.bterm, u] 26) := k0.on hb1 k0.lt
  have l2 := k2.on hb1 k2.lt
  have e0 := l2.cell 0 (.int .i64 4) rfl
  have e1 := l2.cell 1 (.int .i64 x.bterm) rfl
  have e2 := l2.cell 2 (.int .i64 x.base) rfl
  have e3 := l2.cell 3 (.int .i64 0) rfl
  have e4 := l2.cell 4 (.string ⟨#[]⟩) rfl
  clear B0 hb1 k0 k2 l2
  go_wp2_with fail
  refine (a2 w1).mono ?_
  rintro e w2 ⟨rfl, hb2⟩
  have B2 : Hid (Below w.heap.size w w2) := B1.out.trans (hb2.mono B1.out.size)
  have k2 := K1.out.on hb2 K1.out.lt
  clear e0 e1 e2 e3 e4 hb2
  have e0 := k2.cell 0 (.int .i64 x.term) rfl
  have e1 := k2.cell 1 (.int .i64 x.vote) rfl
  have e2 := k2.cell 2 (.int .i64 x.base) rfl
  have e3 := k2.cell 3 (.int .i64 x.bterm) rfl
  have e4 := k2.cell 4 (u) rfl
  clear k2
  go_wp2_with fail
  go_ret
  exact ⟨by rw [HE.out]; rfl, B2.out⟩
 obtain ⟨⟨b1, b2⟩, _⟩ := based_in _ _ h3
 clear h3
 by_cases h4 : x.bterm ≤ x.term
 rotate_left
 ·rw [decide_eq_false h4] at HE
  have h4' : x.term < x.bterm := by omega
  have z4 : decide (x.bterm ≤ x.term) = false := decide_eq_false h4
  clear h4
  go_enter Try.func16, Try.ntmps16
  go_wp2_with fail
  have B0 := below_alloc3' w (.cells #[.int .i64 x.term, .int .i64 x.vote, .int .i64 x.base, .int .i64 x.bterm, u] 26) (.cells #[.int .i64 1, .int .i64 x.term, .int .i64 0, .int .i64 x.vote, .string ⟨#[]⟩] 35) (.cells #[.int .i64 4, .int .i64 x.bterm, .int .i64 x.base, .int .i64 0, .string ⟨#[]⟩] 35)
  have k0 := ((Blk.new w #[.int .i64 x.term, .int .i64 x.vote, .int .i64 x.base, .int .i64 x.bterm, u] 26).alloc (.cells #[.int .i64 1, .int .i64 x.term, .int .i64 0, .int .i64 x.vote, .string ⟨#[]⟩] 35)).alloc (.cells #[.int .i64 4, .int .i64 x.bterm, .int .i64 x.base, .int .i64 0, .string ⟨#[]⟩] 35)
  have k2 := Blk.new ((w.alloc (.cells #[.int .i64 x.term, .int .i64 x.vote, .int .i64 x.base, .int .i64 x.bterm, u] 26)).alloc (.cells #[.int .i64 1, .int .i64 x.term, .int .i64 0, .int .i64 x.vote, .string ⟨#[]⟩] 35)) #[.int .i64 4, .int .i64 x.bterm, .int .i64 x.base, .int .i64 0, .string ⟨#[]⟩] 35
  simp only [World.size_alloc] at k2
  generalize ((w.alloc (.cells #[.int .i64 x.term, .int .i64 x.vote, .int .i64 x.base, .int .i64 x.bterm, u] 26)).alloc (.cells #[.int .i64 1, .int .i64 x.term, .int .i64 0, .int .i64 x.vote, .string ⟨#[]⟩] 35)).alloc (.cells #[.int .i64 4, .int .i64 x.bterm, .int .i64 x.base, .int .i64 0, .string ⟨#[]⟩] 35) = W at *
  refine (a1 W).mono ?_
  rintro e w1 ⟨rfl, hb1⟩
  have B1 : Hid (Below w.heap.size w w1) := B0.trans (hb1.mono B0.size)
  have K1 : Hid (Blk w1 w.heap.size #[.int .i64 x.term, .int .i64 x.vote, .int .i64 x.base, .int .i64 x.bterm, u] 26) := k0.on hb1 k0.lt
  have l2 := k2.on hb1 k2.lt
  have e0 := l2.cell 0 (.int .i64 4) rfl
  have e1 := l2.cell 1 (.int .i64 x.bterm) rfl
  have e2 := l2.cell 2 (.int .i64 x.base) rfl
  have e3 := l2.cell 3 (.int .i64 0) rfl
  have e4 := l2.cell 4 (.string ⟨#[]⟩) rfl
  clear B0 hb1 k0 k2 l2
  go_wp2_with fail
  refine (a2 w1).mono ?_
  rintro e w2 ⟨rfl, hb2⟩
  have B2 : Hid (Below w.heap.size w w2) := B1.out.trans (hb2.mono B1.out.size)
  have k2 := K1.out.on hb2 K1.out.lt
  clear e0 e1 e2 e3 e4 hb2
  have e0 := k2.cell 0 (.int .i64 x.term) rfl
  have e1 := k2.cell 1 (.int .i64 x.vote) rfl
  have e2 := k2.cell 2 (.int .i64 x.base) rfl
  have e3 := k2.cell 3 (.int .i64 x.bterm) rfl
  have e4 := k2.cell 4 (u) rfl
  clear k2
  go_wp2_with fail
  go_ret
  exact ⟨by rw [HE.out]; rfl, B2.out⟩
 rw [decide_eq_true h4] at HE
 go_enter Try.func16, Try.ntmps16
 go_wp2_with fail
 have B0 := below_alloc3' w (.cells #[.int .i64 x.term, .int .i64 x.vote, .int .i64 x.base, .int .i64 x.bterm, u] 26) (.cells #[.int .i64 1, .int .i64 x.term, .int .i64 0, .int .i64 x.vote, .string ⟨#[]⟩] 35) (.cells #[.int .i64 4, .int .i64 x.bterm, .int .i64 x.base, .int .i64 0, .string ⟨#[]⟩] 35)
 have k0 := ((Blk.new w #[.int .i64 x.term, .int .i64 x.vote, .int .i64 x.base, .int .i64 x.bterm, u] 26).alloc (.cells #[.int .i64 1, .int .i64 x.term, .int .i64 0, .int .i64 x.vote, .string ⟨#[]⟩] 35)).alloc (.cells #[.int .i64 4, .int .i64 x.bterm, .int .i64 x.base, .int .i64 0, .string ⟨#[]⟩] 35)
 have k2 := Blk.new ((w.alloc (.cells #[.int .i64 x.term, .int .i64 x.vote, .int .i64 x.base, .int .i64 x.bterm, u] 26)).alloc (.cells #[.int .i64 1, .int .i64 x.term, .int .i64 0, .int .i64 x.vote, .string ⟨#[]⟩] 35)) #[.int .i64 4, .int .i64 x.bterm, .int .i64 x.base, .int .i64 0, .string ⟨#[]⟩] 35
 simp only [World.size_alloc] at k2
 generalize ((w.alloc (.cells #[.int .i64 x.term, .int .i64 x.vote, .int .i64 x.base, .int .i64 x.bterm, u] 26)).alloc (.cells #[.int .i64 1, .int .i64 x.term, .int .i64 0, .int .i64 x.vote, .string ⟨#[]⟩] 35)).alloc (.cells #[.int .i64 4, .int .i64 x.bterm, .int .i64 x.base, .int .i64 0, .string ⟨#[]⟩] 35) = W at *
 refine (a1 W).mono ?_
 rintro e w1 ⟨rfl, hb1⟩
 have B1 : Hid (Below w.heap.size w w1) := B0.trans (hb1.mono B0.size)
 have K1 : Hid (Blk w1 w.heap.size #[.int .i64 x.term, .int .i64 x.vote, .int .i64 x.base, .int .i64 x.bterm, u] 26) := k0.on hb1 k0.lt
 have l2 := k2.on hb1 k2.lt
 have e0 := l2.cell 0 (.int .i64 4) rfl
 have e1 := l2.cell 1 (.int .i64 x.bterm) rfl
 have e2 := l2.cell 2 (.int .i64 x.base) rfl
 have e3 := l2.cell 3 (.int .i64 0) rfl
 have e4 := l2.cell 4 (.string ⟨#[]⟩) rfl
 clear B0 hb1 k0 k2 l2
 go_wp2_with fail
 refine (a2 w1).mono ?_
 rintro e w2 ⟨rfl, hb2⟩
 have B2 : Hid (Below w.heap.size w w2) := B1.out.trans (hb2.mono B1.out.size)
 have k2 := K1.out.on hb2 K1.out.lt
 clear e0 e1 e2 e3 e4 hb2
 have e0 := k2.cell 0 (.int .i64 x.term) rfl
 have e1 := k2.cell 1 (.int .i64 x.vote) rfl
 have e2 := k2.cell 2 (.int .i64 x.base) rfl
 have e3 := k2.cell 3 (.int .i64 x.bterm) rfl
 have e4 := k2.cell 4 (u) rfl
 clear k2
 go_wp2_with fail
 refine (entriesOkV x (.agg #[.int .i64 x.term, .int .i64 x.vote, .int .i64 x.base, .int .i64 x.bterm, u]) w2 B ⟨u, rfl, HL.out.on (B2.out.mono HB.out)⟩ HF.out (Nat.le_trans HB.out B2.out.size) b1 b2).mono ?_
 rintro e w3 ⟨rfl, hb3⟩
 have B3 : Hid (Below w.heap.size w w3) := B2.out.trans (hb3.mono B2.out.size)
 clear hb3
 have HE : Hid (walOk x = entsAll x) := by unfold Hid; rw [HE.out]; simp
 generalize entsAll x = z at *
 go_wp2_with fail
 go_ret
 exact ⟨by rw [HE.out]; first | rfl | simp, B3.out⟩
end Go.Proofs.Ytfmannphobjgpaa
namespace Go.Proofs.Ytfmannphobjgpaa
open Go.ChangeShapes Go.WideShapes Go.ChangeAt Go.RowKit Go.PlainAid
set_option linter.unusedVariables false
def hardR (a b : Wl) : List Rcd := if a.term = b.term ∧ a.vote = b.vote then [] else [⟨1, b.term, 0, b.vote, ⟨#[]⟩⟩]
def cutR (a : Wl) (k : Nat) : List Rcd := if k < a.ents.length then [⟨3, 0, a.base + (k : Int) + 1, 0, ⟨#[]⟩⟩] else []
def chList (a b : Wl) (k : Nat) : List Rcd := hardR a b ++ cutR a k ++ entFrom b k (b.ents.length - k)
def chOk (a b : Wl) : Prop := walOk a = true ∧ walOk b = true ∧ a.base = b.base ∧ a.bterm = b.bterm ∧ ((a.term = b.term ∧ a.vote = b.vote) ∨ recFits a ⟨1, b.term, 0, b.vote, ⟨#[]⟩⟩ = true)
def ChAns (a b : Wl) (l : List Rcd) (ok : Bool) : Prop := (ok = true ∧ chOk a b ∧ ∃ k, Pre a.ents b.ents k ∧ l = chList a b k) ∨ (ok = false ∧ ¬ chOk a b ∧ l = [])
theorem ChAns.one {a b : Wl} {l l' : List Rcd} {ok ok' : Bool} (h : ChAns a b l ok) (h' : ChAns a b l' ok') : l = l' ∧ ok = ok' := by
 rcases h with ⟨rfl, h1, k, h2, rfl⟩ | ⟨rfl, h1, rfl⟩ <;> rcases h' with ⟨rfl, g1, k', g2, rfl⟩ | ⟨rfl, g1, rfl⟩
 ·rw [h2.one g2]
  exact ⟨rfl, rfl⟩
 ·exact absurd h1 g1
 ·exact absurd g1 h1
 ·exact ⟨rfl, rfl⟩
structure ChRec (r : Rcd) : Prop where
 k : (r.kind = 1 ∧ r.index = 0 ∧ r.data = ⟨#[]⟩) ∨ (r.kind = 2 ∧ r.vote = 0) ∨ (r.kind = 3 ∧ r.term = 0 ∧ r.vote = 0 ∧ r.data = ⟨#[]⟩)
 d : r.data.size ≤ 1048576
theorem told_any (r : Rcd) (h : ChRec r) (w : World) : Calls Try.prog 20 #[kindV r] w fun e w' => e = .returned (vRcd r) ∧ Below w.heap.size w w' := by
 obtain ⟨hk, hd⟩ := h
 obtain ⟨k, t, i, v, d⟩ := r
 simp only at hk hd
 rcases hk with ⟨rfl, rfl, rfl⟩ | ⟨rfl, rfl⟩ | ⟨rfl, rfl, rfl, rfl⟩
 ·exact told_hard t v w (by omega)
 ·exact told_entry i t d w hd
 ·exact told_cut i w (by omega)
theorem chList_rec (a b : Wl) (k : Nat) (hd : ∀ e ∈ b.ents, e.data.size ≤ 1048576) (hk : k ≤ b.ents.length) : ∀ r ∈ chList a b k, ChRec r := by
 intro r hr
 unfold chList hardR cutR at hr
 rw [List.mem_append, List.mem_append] at hr
 rcases hr with (hr | hr) | hr
 ·split at hr
  ·cases hr
  ·rw [List.mem_singleton.1 hr]
   exact ⟨.inl ⟨rfl, rfl, rfl⟩, Nat.zero_le _⟩
 ·split at hr
  ·rw [List.mem_singleton.1 hr]
   exact ⟨.inr (.inr ⟨rfl, rfl, rfl, rfl⟩), Nat.zero_le _⟩
  ·cases hr
 ·obtain ⟨i, hi, rfl⟩ := List.mem_map.1 hr
  refine ⟨.inr (.inl ⟨rfl, rfl⟩), ?_⟩
  have hi' : k + i < b.ents.length := by have := List.mem_range.1 hi; omega
  show (b.ents.getD (k + i) default).data.size ≤ 1048576
  rw [List.getD_eq_getElem?_getD, List.getElem?_eq_getElem hi']
  exact hd _ (List.getElem_mem hi')
theorem chList_length (a b : Wl) (k : Nat) (h : b.ents.length ≤ 60) : (chList a b k).length ≤ 62 := by
 unfold chList hardR cutR
 rw [List.length_append, List.length_append, entFrom_length]
 split <;> split <;> simp <;> omega
theorem kind_look {w : World} {base : Nat} {v : Value} {l : List Rcd} (h : Owns w base 54 1 v (kindR l)) : ∃ A cap, v = .slice A l.length cap ∧ ∀ j, j < l.length → ∃ g, A = some ⟨g, 0, none⟩ ∧ g < w.heap.size ∧ base ≤ g ∧ w.cell? ⟨g, j, none⟩ = some (kindV (l.getD j ⟨0, 0, 0, 0, ByteArray.empty⟩)) := by
 have hc := fun g hg => World.ownsRow.cells h.2 (g := g) hg
 have hl := kindR_length l
 have hlt := h.lt
 have hfl : ∀ l : List Rcd, (kindR l).flatten = l.map kindV := by
  intro l
  induction l with
  | nil => rfl
  | cons r l ih => rw [kindR, List.map_cons, List.flatten_cons, List.map_cons]; rw [kindR] at ih; rw [ih]; rfl
 rcases h.2.2 with ⟨rfl, h0⟩ | ⟨g, cap, cur, rfl, _⟩
 ·rw [hl] at h0
  exact ⟨none, 0, by rw [h0], fun j hj => by omega⟩
 ·refine ⟨_, cap, by rw [hl], fun j hj => ⟨g, rfl, (hlt g rfl).2, (hlt g rfl).1, ?_⟩⟩
  have e : (⟨g, 0, none⟩ : Addr).add j = ⟨g, j, none⟩ := by cases j <;> simp [Addr.add]
  rw [← e]
  refine hc g rfl j _ ?_
  rw [hfl, List.getElem?_map, List.getElem?_eq_getElem hj, List.getD_eq_getElem?_getD, List.getElem?_eq_getElem hj]
  rfl
theorem entsOk_data (top : Int) : ∀ (l : List Ent) (last : Int), entsOk top last l = true → ∀ e ∈ l, e.data.size ≤ 900
 | [], _, _, e, he => by cases he
 | y :: r, last, h, e, he => by
  unfold entsOk at h
  simp only [Bool.and_eq_true, decide_eq_true_eq] at h
  rcases List.mem_cons.1 he with rfl | he
  ·exact h.1.2
  ·exact entsOk_data top r _ h.2 e he
theorem ok_in (x : Wl) (h : walOk x = true) : x.ents.length ≤ 60 ∧ (0 ≤ x.base ∧ x.base ≤ 100000) ∧ ∀ e ∈ x.ents, e.data.size ≤ 900 := by
 unfold walOk at h
 simp only [Bool.and_eq_true] at h
 obtain ⟨⟨⟨⟨⟨⟨_, _⟩, h3⟩, _⟩, h5⟩, _⟩, h7⟩ := h
 refine ⟨of_decide_eq_true h5, ?_, entsOk_data _ _ _ h7⟩
 unfold based at h3
 split at h3
 ·omega
 ·simp only [Bool.and_eq_true, inIt, decide_eq_true_eq] at h3
  omega
theorem rcdR_take (l : List Rcd) (k : Nat) (hk : k < l.length) : rcdR (l.take (k + 1)) = rcdR (l.take k) ++ [rcdC (l.getD k ⟨0, 0, 0, 0, ByteArray.empty⟩)] := by
 rw [List.take_succ_eq_append_getElem hk, List.getD_eq_getElem?_getD, List.getElem?_eq_getElem hk]
 show List.map rcdC (l.take k ++ [l[k]]) = List.map rcdC (l.take k) ++ [rcdC l[k]]
 rw [List.map_append]
 rfl
end Go.Proofs.Ytfmannphobjgpaa
namespace Go.Proofs.Ytfmannphobjgpaa
open Go.RowKit Go.PlainAid
theorem run_append_row {P : Program} (w : World) (t ty e : TypeId) (z : Value) (sz bytes : Nat)
  (ht : P.underlying t = some (.slice e)) (hinfo : (P.info? e).map (fun i => (i.zero, i.size, i.bytes)) = some (some z, sz, bytes)) (hzs : z.cells.size = sz) (hsz : 0 < sz)
  (base : Nat) (v : Value) (rows : List (List Value)) (hown : Owns w base e sz v rows) (r : List Value) (hr : r.length = sz) (h1 : ∀ u ∈ r, u.oneCell' = true)
  (hlen : rows.length ≤ 2097152) (hby : bytes ≤ 1000) (hbase : base ≤ w.heap.size) :
  ∃ A m c w', (Builtin.append_ #[t, t] ty #[v, .slice (some ⟨w.heap.size, 0, none⟩) 1 1]).run P (w.alloc (.cells r.toArray e)) = .ok (.slice A m c) w' ∧ Owns w' base e sz (.slice A m c) (rows ++ [r]) ∧ Below base w w' ∧ (∀ g, g < w.heap.size → v.ownBlock ≠ some g → w'.heap[g]? = w.heap[g]?) ∧ ((Value.slice A m c).ownBlock = v.ownBlock ∨ ∀ g, (Value.slice A m c).ownBlock = some g → w.heap.size ≤ g) := by
 obtain ⟨i0, hi, hz0, hz1, hz2⟩ := info_parts hinfo
 have hb1 : (rows.length + 1) * bytes ≤ 140737488355328 := Nat.le_trans (Nat.mul_le_mul (show rows.length + 1 ≤ 2097153 by omega) hby) (by omega)
 have hnews : ∀ j u, r[j]? = some u → (w.alloc (.cells r.toArray e)).cell? ((⟨w.heap.size, 0, none⟩ : Addr).add j) = some u := by
  intro j u hj
  have e1 : (⟨w.heap.size, 0, none⟩ : Addr).add j = ⟨w.heap.size, j, none⟩ := by cases j <;> simp [Addr.add]
  rw [e1, World.cell?_alloc_mark]
  simpa using hj
 obtain ⟨v', w', hrun, h2, h3, _⟩ := run_append_own (P := P) (w.alloc (.cells r.toArray e)) base t ty e i0 z sz bytes ht hi hz0 hz1 hz2 hzs hsz v rows.length rows.flatten (World.ownsRow.alloc hown.2 _) ⟨w.heap.size, 0, none⟩ 1 1 r (by rw [hr]; omega) hnews h1 (by unfold maxLen; omega) hb1 (by simp; omega)
 have h5 := run_append_where (P := P) (w.alloc (.cells r.toArray e)) base t ty e i0 z sz bytes ht hi hz0 hz1 hz2 v rows.length rows.flatten (World.ownsRow.alloc hown.2 _) ⟨w.heap.size, 0, none⟩ 1 1 r (by rw [hr]; omega) hnews h1 (by unfold maxLen; omega) hb1 v' w' hrun
 have hb0 : ∀ k, v.ownBlock = some k → base ≤ k := fun k hk => (hown.lt k hk).1
 have hO : Owns w' base e sz v' (rows ++ [r]) := by
  refine ⟨?_, ?_⟩
  ·intro y hy
   rcases List.mem_append.1 hy with hy | hy
   ·exact hown.1 y hy
   ·rw [List.mem_singleton.1 hy]; exact hr
  ·rw [List.length_append, List.flatten_append]
   simpa using h2
 obtain ⟨A, m, c, rfl⟩ := hO.shape
 refine ⟨A, m, c, w', hrun, hO, ((Below.refl base w).alloc hbase _).grown h3 (by simp; omega) hb0, ?_, h5.imp id fun e g hg => by rw [e] at hg; cases hg; simp⟩
 intro g hg hne
 rw [h3.block g (by simp; omega) (fun e => hne e.symm)]
 exact Below.heap_alloc w _ g hg
theorem step_append_run {P : Program} {ops : Array Oper} {o : Oper} {a : Act} {w : World} {K : Act → World → Prop} {Q : Exit → Act → World → Prop} {E : Prop}
  (hg : o.guard = none) (s x : Operand) (t : TypeId) (hop : o.op = Op.call { callee := Callee.builtin Builtin.append, args := #[s, x], argTypes := #[t, t] })
  (v y r : Value) (w' : World) (hs : a.eval s = v) (hx : a.eval x = y) (hrun : (Builtin.append_ #[t, t] o.type #[v, y]).run P w = .ok r w') (hK : K (a.put o.dst r) w') :
  if Region.wanted o (yielded ops a.tmps) = true then Oper.wp P o a w K Q else E := by
 have hw : Region.wanted o (yielded ops a.tmps) = true := by simp [Region.wanted, hg]
 rw [if_pos hw]
 unfold Oper.wp
 simp [execOp, hop, resolve, invoke, builtin, hs, hx, hrun, Result.andThen]
 exact hK
end Go.Proofs.Ytfmannphobjgpaa
