/-
  Contracts of spec.l1PickInt, spec.l1Num and spec.l1Text: what each draws, as functions of the code's bytes and of where the cursor stands.
-/
import Derived.Test.YtaplbjobhlbcoabDoorRows
import Derived.Test.YtaplbjobhlbcoabDoorCurNew
import Derived.Test.YtaplbjobhlbcoabDoorImpl1
namespace Go.Proofs.YtaplbjobhlbcoabDoor
open Go.ChangeShapes Go.WideShapes Go.ChangeAt Go.RowKit Go.PlainAid
set_option linter.unusedVariables false

set_option maxHeartbeats 1000000 in
theorem pick_any (w : World) (p : Nat) (ao : Option Addr) (len cap : Nat) (cs : Nat → Nat) (s : Pos) (g : Nat) (xs : List Int) (hn : 0 < xs.length) (hn2 : xs.length ≤ 1000) (h : At w p ao len cap cs s) (hgp : g ≠ p) (hg : g < w.heap.size)
    (hcell : ∀ j, j < xs.length → w.cell? ⟨g, j, none⟩ = some (.int .i64 (xs.getD j 0))) :
    Calls Tryd.prog 27 #[.pointer (some ⟨p, 0, none⟩), .slice (some ⟨g, 0, none⟩) xs.length xs.length] w fun e w' =>
      e = .returned (.int .i64 (xs.getD (belowV len cs (xs.length : Int) s).toNat 0)) ∧ At w' p ao len cap cs (belowP len (xs.length : Int) s) ∧ Mod w.heap.size p w w' := by
  have HA : Hid (At w p ao len cap cs s) := h
  clear h
  have HC : Hid (∀ j, j < xs.length → w.cell? ⟨g, j, none⟩ = some (.int .i64 (xs.getD j 0))) := hcell
  clear hcell
  have hb := belowV_bd len cs (xs.length : Int) s
  have q0 : (xs.length : Int) ≤ 1000 := by omega
  go_enter Tryd.func27, Tryd.ntmps27
  go_wp2_with fail
  refine (below_any _ p ao len cap cs s (xs.length : Int) (by omega) HA.out).mono ?_
  rintro e w1 ⟨rfl, hA1, hm1⟩
  obtain ⟨k, hk⟩ := Int.eq_ofNat_of_zero_le hb.1
  have hk2 : k < xs.length := by have := hb.2 (by omega); omega
  have HB : Hid (belowV len cs (xs.length : Int) s = (k : Int)) := hk
  rw [hk]
  clear hk hb
  have hc1 : w1.cell? ⟨g, k, none⟩ = some (.int .i64 (xs.getD k 0)) := by
    rw [← HC.out k hk2]
    exact World.cell?_of_block (w := w) (hm1.block g hg hgp)
  have q1 : (k : Int) < (xs.length : Int) := by omega
  go_wp2_with fail
  go_ret
  have ev : xs.getD ((k : Int)).toNat 0 = xs[k] := by simp [hk2]
  rw [HB.out, ev]
  exact ⟨rfl, hA1, hm1⟩

/-- The numbers at a limit. -/
def picks : List Int := [-1, 0, 127, 128, 255, 256, 16383, 16384, 65535, 65536, 562949953421311, 562949953421312, 999999999, 1000000000, -999999999, 9223372036854775807, -9223372036854775808]
theorem picks_bd : ∀ j, -9223372036854775808 ≤ picks.getD j 0 ∧ picks.getD j 0 ≤ 9223372036854775807 := by
  intro j
  by_cases h : j < 17
  · have key : ∀ d : Fin 17, -9223372036854775808 ≤ picks.getD d.val 0 ∧ picks.getD d.val 0 ≤ 9223372036854775807 := by decide +kernel
    exact key ⟨j, h⟩
  · rw [List.getD_eq_getElem?_getD, List.getElem?_eq_none (by simp [picks]; omega)]
    simp
/-- What l1Num draws. -/
def numV (len : Nat) (cs : Nat → Nat) (s : Pos) : Int :=
  if belowV len cs 8 s = 0 then picks.getD (belowV len cs 17 (belowP len 8 s)).toNat 0
  else if belowV len cs 8 s = 1 then belowV len cs 1000000000 (belowP len 8 s) * belowV len cs 1000000000 (belowP len 1000000000 (belowP len 8 s))
  else if belowV len cs 8 s = 2 then -belowV len cs 100000 (belowP len 8 s)
  else belowV len cs 70000 (belowP len 8 s)
def numP (len : Nat) (cs : Nat → Nat) (s : Pos) : Pos :=
  if belowV len cs 8 s = 0 then belowP len 17 (belowP len 8 s)
  else if belowV len cs 8 s = 1 then belowP len 1000000000 (belowP len 1000000000 (belowP len 8 s))
  else if belowV len cs 8 s = 2 then belowP len 100000 (belowP len 8 s)
  else belowP len 70000 (belowP len 8 s)
theorem mul_bd (a b : Int) (h0 : 0 ≤ a) (h1 : a < 1000000000) (h2 : 0 ≤ b) (h3 : b < 1000000000) : 0 ≤ a * b ∧ a * b ≤ 1000000000000000000 := by
  refine ⟨Int.mul_nonneg h0 h2, ?_⟩
  have h4 : a * b ≤ 1000000000 * b := Int.mul_le_mul_of_nonneg_right (by omega) h2
  omega
theorem numV_bd (len : Nat) (cs : Nat → Nat) (s : Pos) : -9223372036854775808 ≤ numV len cs s ∧ numV len cs s ≤ 9223372036854775807 := by
  unfold numV
  split
  · exact picks_bd _
  · split
    · have a := belowV_bd len cs 1000000000 (belowP len 8 s)
      have b := belowV_bd len cs 1000000000 (belowP len 1000000000 (belowP len 8 s))
      have := mul_bd _ _ a.1 (a.2 (by omega)) b.1 (b.2 (by omega))
      omega
    · split
      · have a := belowV_bd len cs 100000 (belowP len 8 s)
        have := a.2 (by omega)
        omega
      · have a := belowV_bd len cs 70000 (belowP len 8 s)
        have := a.2 (by omega)
        omega

set_option maxHeartbeats 1000000 in
theorem num_any (w : World) (p : Nat) (ao : Option Addr) (len cap : Nat) (cs : Nat → Nat) (s : Pos) (h : At w p ao len cap cs s) :
    Calls Tryd.prog 17 #[.pointer (some ⟨p, 0, none⟩)] w fun e w' => e = .returned (.int .i64 (numV len cs s)) ∧ At w' p ao len cap cs (numP len cs s) ∧ Mod w.heap.size p w w' := by
  have HA : Hid (At w p ao len cap cs s) := h
  have hlt := h.lt
  clear h
  by_cases c0 : belowV len cs 8 s = 0
  · have HV : Hid (numV len cs s = picks.getD (belowV len cs 17 (belowP len 8 s)).toNat 0) := by show numV len cs s = _; rw [numV, if_pos c0]
    have HP : Hid (numP len cs s = belowP len 17 (belowP len 8 s)) := by show numP len cs s = _; rw [numP, if_pos c0]
    have z : (belowV len cs 8 s == 0) = true := by rw [c0]; rfl
    clear c0
    go_enter Tryd.func17, Tryd.ntmps17
    go_wp2_with fail
    refine (below_any _ p ao len cap cs s 8 (by omega) HA.out).mono ?_
    rintro e w1 ⟨rfl, hA1, hm1⟩
    go_wp2_with fail
    have hal : Below w1.heap.size w1 (w1.alloc (.cells #[.int .i64 (-1), .int .i64 0, .int .i64 127, .int .i64 128, .int .i64 255, .int .i64 256, .int .i64 16383, .int .i64 16384, .int .i64 65535, .int .i64 65536, .int .i64 562949953421311, .int .i64 562949953421312, .int .i64 999999999, .int .i64 1000000000, .int .i64 (-999999999), .int .i64 9223372036854775807, .int .i64 (-9223372036854775808)] 3)) := (Below.refl _ _).alloc (Nat.le_refl _) _
    refine (pick_any _ p ao len cap cs _ w1.heap.size picks (by decide) (by decide) (hA1.below hal hA1.lt) (by have := hA1.lt; omega) (by simp) ?_).mono ?_
    · intro j hj
      rw [World.cell?_alloc_mark]
      have hj' : j < 17 := hj
      rcases (show j = 0 ∨ j = 1 ∨ j = 2 ∨ j = 3 ∨ j = 4 ∨ j = 5 ∨ j = 6 ∨ j = 7 ∨ j = 8 ∨ j = 9 ∨ j = 10 ∨ j = 11 ∨ j = 12 ∨ j = 13 ∨ j = 14 ∨ j = 15 ∨ j = 16 by omega) with rfl | rfl | rfl | rfl | rfl | rfl | rfl | rfl | rfl | rfl | rfl | rfl | rfl | rfl | rfl | rfl | rfl <;> rfl
    rintro e w2 ⟨rfl, hA2, hm2⟩
    go_wp2_with fail
    go_ret
    rw [HV.out, HP.out]
    exact ⟨rfl, hA2, hm1.trans ((Mod.of_below (hal.mono hm1.size)).trans (hm2.mono (by have := hm1.size; simp; omega)))⟩
  · have z0 : (belowV len cs 8 s == 0) = false := by simpa using c0
    by_cases c1 : belowV len cs 8 s = 1
    · have HV : Hid (numV len cs s = belowV len cs 1000000000 (belowP len 8 s) * belowV len cs 1000000000 (belowP len 1000000000 (belowP len 8 s))) := by show numV len cs s = _; rw [numV, if_neg c0, if_pos c1]
      have HP : Hid (numP len cs s = belowP len 1000000000 (belowP len 1000000000 (belowP len 8 s))) := by show numP len cs s = _; rw [numP, if_neg c0, if_pos c1]
      have z1 : (belowV len cs 8 s == 1) = true := by rw [c1]; rfl
      clear c0 c1
      have a := belowV_bd len cs 1000000000 (belowP len 8 s)
      have b := belowV_bd len cs 1000000000 (belowP len 1000000000 (belowP len 8 s))
      have hm := mul_bd _ _ a.1 (a.2 (by omega)) b.1 (b.2 (by omega))
      obtain ⟨m1, m2⟩ := hm
      clear a b
      go_enter Tryd.func17, Tryd.ntmps17
      go_wp2_with fail
      refine (below_any _ p ao len cap cs s 8 (by omega) HA.out).mono ?_
      rintro e w1 ⟨rfl, hA1, hm1⟩
      go_wp2_with fail
      refine (below_any _ p ao len cap cs _ 1000000000 (by omega) hA1).mono ?_
      rintro e w2 ⟨rfl, hA2, hm2⟩
      go_wp2_with fail
      refine (below_any _ p ao len cap cs _ 1000000000 (by omega) hA2).mono ?_
      rintro e w3 ⟨rfl, hA3, hm3⟩
      go_wp2_with fail
      go_ret
      rw [HV.out, HP.out]
      exact ⟨rfl, hA3, hm1.trans ((hm2.mono hm1.size).trans (hm3.mono (Nat.le_trans hm1.size hm2.size)))⟩
    · have z1 : (belowV len cs 8 s == 1) = false := by simpa using c1
      by_cases c2 : belowV len cs 8 s = 2
      · have HV : Hid (numV len cs s = -belowV len cs 100000 (belowP len 8 s)) := by show numV len cs s = _; rw [numV, if_neg c0, if_neg c1, if_pos c2]
        have HP : Hid (numP len cs s = belowP len 100000 (belowP len 8 s)) := by show numP len cs s = _; rw [numP, if_neg c0, if_neg c1, if_pos c2]
        have z2 : (belowV len cs 8 s == 2) = true := by rw [c2]; rfl
        clear c0 c1 c2
        have a := belowV_bd len cs 100000 (belowP len 8 s)
        have a2 := a.2 (by omega)
        have a1 := a.1
        clear a
        go_enter Tryd.func17, Tryd.ntmps17
        go_wp2_with fail
        refine (below_any _ p ao len cap cs s 8 (by omega) HA.out).mono ?_
        rintro e w1 ⟨rfl, hA1, hm1⟩
        go_wp2_with fail
        refine (below_any _ p ao len cap cs _ 100000 (by omega) hA1).mono ?_
        rintro e w2 ⟨rfl, hA2, hm2⟩
        go_wp2_with fail
        go_ret
        rw [HV.out, HP.out]
        exact ⟨rfl, hA2, hm1.trans (hm2.mono hm1.size)⟩
      · have z2 : (belowV len cs 8 s == 2) = false := by simpa using c2
        have HV : Hid (numV len cs s = belowV len cs 70000 (belowP len 8 s)) := by show numV len cs s = _; rw [numV, if_neg c0, if_neg c1, if_neg c2]
        have HP : Hid (numP len cs s = belowP len 70000 (belowP len 8 s)) := by show numP len cs s = _; rw [numP, if_neg c0, if_neg c1, if_neg c2]
        clear c0 c1 c2
        go_enter Tryd.func17, Tryd.ntmps17
        go_wp2_with fail
        refine (below_any _ p ao len cap cs s 8 (by omega) HA.out).mono ?_
        rintro e w1 ⟨rfl, hA1, hm1⟩
        go_wp2_with fail
        refine (below_any _ p ao len cap cs _ 70000 (by omega) hA1).mono ?_
        rintro e w2 ⟨rfl, hA2, hm2⟩
        go_wp2_with fail
        go_ret
        rw [HV.out, HP.out]
        exact ⟨rfl, hA2, hm1.trans (hm2.mono hm1.size)⟩
end Go.Proofs.YtaplbjobhlbcoabDoor
