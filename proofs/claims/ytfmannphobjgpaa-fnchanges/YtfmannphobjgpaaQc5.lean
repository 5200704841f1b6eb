/- StFits -/
import Derived.Test.YtfmannphobjgpaaRows
import Derived.Test.YtfmannphobjgpaaQc3
import Derived.Test.YtfmannphobjgpaaQc4
import Derived.Test.YtfmannphobjgpaaQc0
import Derived.Handy
import Derived.Deep.RegionHeld3
open List (setIfInBounds_toArray set_cons_zero set_cons_succ)
namespace Go.Proofs.Ytfmannphobjgpaa
open Go.ChangeShapes Go.WideShapes Go.ChangeAt Go.RowKit Go.PlainAid
set_option linter.unusedVariables false
theorem last_none (x : Wl) (h : x.ents.length = 0) : lastTerm x = x.bterm := by
 unfold lastTerm
 rw [List.eq_nil_of_length_eq_zero h]
 rfl
theorem last_some (x : Wl) (k : Nat) (h : x.ents.length = k + 1) : lastTerm x = (x.ents.getD k default).term := by
 unfold lastTerm
 rw [List.getLast?_eq_getElem?, h, Nat.add_sub_cancel, List.getElem?_eq_getElem (by omega), ← getD_at x.ents k (by omega)]
set_option maxHeartbeats 1000000 in
theorem lastS (x : Wl) (v : Value) (w : World) (B : Nat) (hv : WalV w B v x) (hn : x.ents.length ≤ 1048576) (hB : B ≤ w.heap.size) : Calls Try.prog 40 #[v] w fun e w' => e = .returned (.int .i64 (lastTerm x)) ∧ Below w.heap.size w w' := by
 obtain ⟨u, rfl, hl⟩ := hv
 obtain ⟨A, cap, rfl, hlk⟩ := ent_look hl
 have HL : Hid (∀ j, j < x.ents.length → ∃ g off, A = some ⟨g, off, none⟩ ∧ g < B ∧ _) := hlk
 have HB : Hid (B ≤ w.heap.size) := hB
 have q1 : (x.ents.length : Int) ≤ 1048576 := by omega
 clear hl hlk hB hn
 by_cases h0 : x.ents.length = 0
 ·have HE : Hid (lastTerm x = x.bterm) := last_none x h0
  rw [h0]
  go_enter Try.func40, Try.ntmps40
  go_wp2
  go_ret
  exact ⟨by rw [HE.out]; rfl, (Below.refl _ _).alloc (Nat.le_refl _) _⟩
 ·obtain ⟨m, hm⟩ : ∃ m, x.ents.length = m + 1 := ⟨x.ents.length - 1, by omega⟩
  have HE : Hid (lastTerm x = (x.ents.getD m default).term) := last_some x m hm
  obtain ⟨g, off, rfl, hg, hc0, hc1⟩ := HL.out m (by omega)
  have hgw : g < w.heap.size := Nat.lt_of_lt_of_le hg HB.out
  generalize (x.ents.getD m default).term = y at *
  clear HL hc1
  generalize x.ents.length = n at *
  have z : ((n : Int) == 0) = false := by simp only [beq_eq_false_iff_ne, ne_eq]; omega
  have hw1 : IntKind.i64.wrap ((n : Int) - 1) = (m : Int) := by rw [IntKind.wrap_i64]; omega
  have q2 : (m : Int) < (n : Int) := by omega
  clear h0 hm
  go_enter Try.func40, Try.ntmps40
  go_wp2
  go_ret
  exact ⟨by rw [HE.out]; rfl, (Below.refl _ _).alloc (Nat.le_refl _) _⟩
theorem below_alloc2 (w : World) (a b : Obj) : Below w.heap.size w ((w.alloc a).alloc b) := ((Below.refl _ w).alloc (Nat.le_refl _) a).alloc (by simp) b
set_option maxHeartbeats 4000000 in
theorem fitsS (x : Wl) (r : Rcd) (v : Value) (w : World) (B : Nat) (hv : WalV w B v x) (hn : x.ents.length ≤ 60) (hb1 : 0 ≤ x.base) (hb2 : x.base ≤ 100000) (hB : B ≤ w.heap.size) : Calls Try.prog 22 #[v, vRcd r] w fun e w' => e = .returned (.bool (recFits x r)) ∧ Below w.heap.size w w' := by
 have HV : Hid (WalV w B v x) := hv
 have HBW : Hid (B ≤ w.heap.size) := hB
 have cL := fun wx hx hb => lastS x v wx B hx (by omega) hb
 obtain ⟨u, rfl, hl⟩ := hv
 obtain ⟨A, cap, rfl, hlk⟩ := ent_look hl
 obtain ⟨xt, xv, xb, xbt, es⟩ := x
 obtain ⟨k, t, i, v, d⟩ := r
 unfold vRcd
 simp only at hn hb1 hb2 cL HV ⊢
 clear hl hlk hB
 generalize hN : es.length = n at *
 have q1 : (n : Int) ≤ 60 := by omega
 have hw1 : IntKind.i64.wrap (xb + (n : Int)) = xb + (n : Int) := by rw [IntKind.wrap_i64]; omega
 have hw2 : IntKind.i64.wrap (xb + (n : Int) + 1) = xb + (n : Int) + 1 := by rw [IntKind.wrap_i64]; omega
 by_cases k1 : k = 1
 ·subst k1
  have HB : Hid (Below w.heap.size w ((w.alloc (.cells #[.int .i64 xt, .int .i64 xv, .int .i64 xb, .int .i64 xbt, .slice A n cap] 26)).alloc (.cells #[.int .i64 1, .int .i64 t, .int .i64 i, .int .i64 v, .string d] 35))) := below_alloc2 w _ _
  by_cases a : xt < t
  ·have HE : Hid (recFits ⟨xt, xv, xb, xbt, es⟩ ⟨1, t, i, v, d⟩ = true) := by unfold Hid recFits; simp [a]
   go_enter Try.func22, Try.ntmps22
   go_wp2_with fail
   go_ret
   exact ⟨by rw [HE.out]; rfl, HB.out⟩
  ·have a' : t ≤ xt := by omega
   by_cases b : t = xt
   rotate_left
   ·have HE : Hid (recFits ⟨xt, xv, xb, xbt, es⟩ ⟨1, t, i, v, d⟩ = false) := by unfold Hid recFits; simp [a, b]
    have zb : (t == xt) = false := by simpa using b
    go_enter Try.func22, Try.ntmps22
    go_wp2_with fail
    go_ret
    exact ⟨by rw [HE.out]; rfl, HB.out⟩
   ·have zb : (t == xt) = true := by simpa using b
    by_cases c : xv = -1
    ·have zc : (xv == -1) = true := by simpa using c
     have HE : Hid (recFits ⟨xt, xv, xb, xbt, es⟩ ⟨1, t, i, v, d⟩ = true) := by unfold Hid recFits; simp [b, c]
     clear b c
     go_enter Try.func22, Try.ntmps22
     go_wp2_with fail
     go_ret
     exact ⟨by rw [HE.out]; rfl, HB.out⟩
    ·have zc : (xv == -1) = false := by simpa using c
     by_cases e : v = xv
     ·have ze : (v == xv) = true := by simpa using e
      have HE : Hid (recFits ⟨xt, xv, xb, xbt, es⟩ ⟨1, t, i, v, d⟩ = true) := by unfold Hid recFits; simp [b, e]
      clear b c e
      go_enter Try.func22, Try.ntmps22
      go_wp2_with fail
      go_ret
      exact ⟨by rw [HE.out]; rfl, HB.out⟩
     ·have ze : (v == xv) = false := by simpa using e
      have HE : Hid (recFits ⟨xt, xv, xb, xbt, es⟩ ⟨1, t, i, v, d⟩ = false) := by unfold Hid recFits; simp [b, c, e]
      clear b c e
      go_enter Try.func22, Try.ntmps22
      go_wp2_with fail
      go_ret
      exact ⟨by rw [HE.out]; rfl, HB.out⟩
 by_cases k2 : k = 2
 ·subst k2
  by_cases a : i = xb + (n : Int) + 1
  rotate_left
  ·have HE : Hid (recFits ⟨xt, xv, xb, xbt, es⟩ ⟨2, t, i, v, d⟩ = false) := by unfold Hid recFits; simp [a, hN]
   have za : (i == xb + (n : Int) + 1) = false := by simpa using a
   go_enter Try.func22, Try.ntmps22
   go_wp2_with fail
   have b0 : Below w.heap.size w ((w.alloc (.cells #[.int .i64 xt, .int .i64 xv, .int .i64 xb, .int .i64 xbt, .slice A n cap] 26)).alloc (.cells #[.int .i64 2, .int .i64 t, .int .i64 i, .int .i64 v, .string d] 35)) := below_alloc2 w _ _
   have k0 := (Blk.new w #[.int .i64 xt, .int .i64 xv, .int .i64 xb, .int .i64 xbt, .slice A n cap] 26).alloc (.cells #[.int .i64 2, .int .i64 t, .int .i64 i, .int .i64 v, .string d] 35)
   have r0 := Blk.new (w.alloc (.cells #[.int .i64 xt, .int .i64 xv, .int .i64 xb, .int .i64 xbt, .slice A n cap] 26)) #[.int .i64 2, .int .i64 t, .int .i64 i, .int .i64 v, .string d] 35
   simp only [World.size_alloc] at r0
   generalize (w.alloc (.cells #[.int .i64 xt, .int .i64 xv, .int .i64 xb, .int .i64 xbt, .slice A n cap] 26)).alloc (.cells #[.int .i64 2, .int .i64 t, .int .i64 i, .int .i64 v, .string d] 35) = W at *
   have B0 : Hid (Below w.heap.size w W) := b0
   have K0 : Hid (Blk W w.heap.size #[.int .i64 xt, .int .i64 xv, .int .i64 xb, .int .i64 xbt, .slice A n cap] 26) := k0
   have R0 : Hid (Blk W (w.heap.size + 1) #[.int .i64 2, .int .i64 t, .int .i64 i, .int .i64 v, .string d] 35) := r0
   clear b0 k0 r0
   have S0 : Hid (W.drew.cell? ⟨w.heap.size, 0, none⟩ = some (.int .i64 xt) ∧ W.drew.cell? ⟨w.heap.size, 1, none⟩ = some (.int .i64 xv) ∧ W.drew.cell? ⟨w.heap.size, 2, none⟩ = some (.int .i64 xb) ∧ W.drew.cell? ⟨w.heap.size, 3, none⟩ = some (.int .i64 xbt) ∧ W.drew.cell? ⟨w.heap.size, 4, none⟩ = some (.slice A n cap) ∧ W.drew.cell? ⟨w.heap.size + 1, 0, none⟩ = some (.int .i64 2) ∧ W.drew.cell? ⟨w.heap.size + 1, 1, none⟩ = some (.int .i64 t) ∧ W.drew.cell? ⟨w.heap.size + 1, 2, none⟩ = some (.int .i64 i) ∧ W.drew.cell? ⟨w.heap.size + 1, 3, none⟩ = some (.int .i64 v) ∧ W.drew.cell? ⟨w.heap.size + 1, 4, none⟩ = some (.string d)) := ⟨K0.out.cell 0 _ rfl, K0.out.cell 1 _ rfl, K0.out.cell 2 _ rfl, K0.out.cell 3 _ rfl, K0.out.cell 4 _ rfl, R0.out.cell 0 _ rfl, R0.out.cell 1 _ rfl, R0.out.cell 2 _ rfl, R0.out.cell 3 _ rfl, R0.out.cell 4 _ rfl⟩
   refine wp_region_until (fun w' => w'.cell? ⟨w.heap.size, 0, none⟩ = some (.int .i64 xt) ∧ w'.cell? ⟨w.heap.size, 1, none⟩ = some (.int .i64 xv) ∧ w'.cell? ⟨w.heap.size, 2, none⟩ = some (.int .i64 xb) ∧ w'.cell? ⟨w.heap.size, 3, none⟩ = some (.int .i64 xbt) ∧ w'.cell? ⟨w.heap.size, 4, none⟩ = some (.slice A n cap) ∧ w'.cell? ⟨w.heap.size + 1, 0, none⟩ = some (.int .i64 2) ∧ w'.cell? ⟨w.heap.size + 1, 1, none⟩ = some (.int .i64 t) ∧ w'.cell? ⟨w.heap.size + 1, 2, none⟩ = some (.int .i64 i) ∧ w'.cell? ⟨w.heap.size + 1, 3, none⟩ = some (.int .i64 v) ∧ w'.cell? ⟨w.heap.size + 1, 4, none⟩ = some (.string d)) (fun i => false) 26 (by rfl) (by kernel_rfl) ?_
   refine until_take 0 (v := ?vfa1) (by rfl) (by kernel_rfl) (by exact fun _ _ _ h => h) (by rfl) ?hyfa1 S0.out ?rfa1
   case hyfa1 =>
    intro w hSw
    try dsimp only at hSw
    go_simp
    try with_reducible rfl
   try simp only [Act.put, setIfInBounds_toArray, set_cons_zero, set_cons_succ]
   refine until_take 1 (v := ?vfa2) (by rfl) (by kernel_rfl) (by exact fun _ _ _ h => h) (by rfl) ?hyfa2 S0.out ?rfa2
   case hyfa2 =>
    intro w hSw
    try dsimp only at hSw
    go_simp
    try with_reducible rfl
   try simp only [Act.put, setIfInBounds_toArray, set_cons_zero, set_cons_succ]
   refine until_pure 2 (v := ?vfa3) (by rfl) (by kernel_rfl) (by exact fun _ _ _ h => h) (by rfl) ?hyfa3 ?rfa3
   case hyfa3 =>
    intro w
    go_simp
    try with_reducible rfl
   try simp only [Act.put, setIfInBounds_toArray, set_cons_zero, set_cons_succ]
   refine until_pure 3 (v := ?vfa4) (by rfl) (by kernel_rfl) (by exact fun _ _ _ h => h) (by rfl) ?hyfa4 ?rfa4
   case hyfa4 =>
    intro w
    go_simp
    try with_reducible rfl
   try simp only [Act.put, setIfInBounds_toArray, set_cons_zero, set_cons_succ]
   refine until_pure 4 (v := ?vfa5) (by rfl) (by kernel_rfl) (by exact fun _ _ _ h => h) (by rfl) ?hyfa5 ?rfa5
   case hyfa5 =>
    intro w
    go_simp
    try with_reducible rfl
   try simp only [Act.put, setIfInBounds_toArray, set_cons_zero, set_cons_succ]
   refine until_pure 5 (v := ?vfa6) (by rfl) (by kernel_rfl) (by exact fun _ _ _ h => h) (by rfl) ?hyfa6 ?rfa6
   case hyfa6 =>
    intro w
    go_simp
    try with_reducible rfl
   try simp only [Act.put, setIfInBounds_toArray, set_cons_zero, set_cons_succ]
   refine until_skip 6 (by rfl) (by kernel_rfl) (by exact fun _ _ _ h => h) (by rfl) ?rfa7
   try simp only [Act.put, setIfInBounds_toArray, set_cons_zero, set_cons_succ]
   refine until_skip 7 (by rfl) (by kernel_rfl) (by exact fun _ _ _ h => h) (by rfl) ?rfa8
   try simp only [Act.put, setIfInBounds_toArray, set_cons_zero, set_cons_succ]
   refine until_skip 8 (by rfl) (by kernel_rfl) (by exact fun _ _ _ h => h) (by rfl) ?rfa9
   try simp only [Act.put, setIfInBounds_toArray, set_cons_zero, set_cons_succ]
   refine until_skip 9 (by rfl) (by kernel_rfl) (by exact fun _ _ _ h => h) (by rfl) ?rfa10
   try simp only [Act.put, setIfInBounds_toArray, set_cons_zero, set_cons_succ]
   refine until_pure 10 (v := ?vfa11) (by rfl) (by kernel_rfl) (by exact fun _ _ _ h => h) (by rfl) ?hyfa11 ?rfa11
   case hyfa11 =>
    intro w
    go_simp
    try with_reducible rfl
   try simp only [Act.put, setIfInBounds_toArray, set_cons_zero, set_cons_succ]
   refine until_pure 11 (v := ?vfa12) (by rfl) (by kernel_rfl) (by exact fun _ _ _ h => h) (by rfl) ?hyfa12 ?rfa12
   case hyfa12 =>
    intro w
    go_simp
    try with_reducible rfl
   try simp only [Act.put, setIfInBounds_toArray, set_cons_zero, set_cons_succ]
   refine until_skip 12 (by rfl) (by kernel_rfl) (by exact fun _ _ _ h => h) (by rfl) ?rfa13
   try simp only [Act.put, setIfInBounds_toArray, set_cons_zero, set_cons_succ]
   refine until_skip 13 (by rfl) (by kernel_rfl) (by exact fun _ _ _ h => h) (by rfl) ?rfa14
   try simp only [Act.put, setIfInBounds_toArray, set_cons_zero, set_cons_succ]
   refine until_skip 14 (by rfl) (by kernel_rfl) (by exact fun _ _ _ h => h) (by rfl) ?rfa15
   try simp only [Act.put, setIfInBounds_toArray, set_cons_zero, set_cons_succ]
   refine until_skip 15 (by rfl) (by kernel_rfl) (by exact fun _ _ _ h => h) (by rfl) ?rfa16
   try simp only [Act.put, setIfInBounds_toArray, set_cons_zero, set_cons_succ]
   refine until_skip 16 (by rfl) (by kernel_rfl) (by exact fun _ _ _ h => h) (by rfl) ?rfa17
   try simp only [Act.put, setIfInBounds_toArray, set_cons_zero, set_cons_succ]
   refine until_pure 17 (v := ?vfa18) (by rfl) (by kernel_rfl) (by exact fun _ _ _ h => h) (by rfl) ?hyfa18 ?rfa18
   case hyfa18 =>
    intro w
    go_simp
    try with_reducible rfl
   try simp only [Act.put, setIfInBounds_toArray, set_cons_zero, set_cons_succ]
   refine until_pure 18 (v := ?vfa19) (by rfl) (by kernel_rfl) (by exact fun _ _ _ h => h) (by rfl) ?hyfa19 ?rfa19
   case hyfa19 =>
    intro w
    go_simp
    try with_reducible rfl
   try simp only [Act.put, setIfInBounds_toArray, set_cons_zero, set_cons_succ]
   refine until_skip 19 (by rfl) (by kernel_rfl) (by exact fun _ _ _ h => h) (by rfl) ?rfa20
   try simp only [Act.put, setIfInBounds_toArray, set_cons_zero, set_cons_succ]
   refine until_skip 20 (by rfl) (by kernel_rfl) (by exact fun _ _ _ h => h) (by rfl) ?rfa21
   try simp only [Act.put, setIfInBounds_toArray, set_cons_zero, set_cons_succ]
   refine until_skip 21 (by rfl) (by kernel_rfl) (by exact fun _ _ _ h => h) (by rfl) ?rfa22
   try simp only [Act.put, setIfInBounds_toArray, set_cons_zero, set_cons_succ]
   refine until_skip 22 (by rfl) (by kernel_rfl) (by exact fun _ _ _ h => h) (by rfl) ?rfa23
   try simp only [Act.put, setIfInBounds_toArray, set_cons_zero, set_cons_succ]
   refine until_skip 23 (by rfl) (by kernel_rfl) (by exact fun _ _ _ h => h) (by rfl) ?rfa24
   try simp only [Act.put, setIfInBounds_toArray, set_cons_zero, set_cons_succ]
   refine until_pure 24 (v := ?vfa25) (by rfl) (by kernel_rfl) (by exact fun _ _ _ h => h) (by rfl) ?hyfa25 ?rfa25
   case hyfa25 =>
    intro w
    go_simp
    try with_reducible rfl
   try simp only [Act.put, setIfInBounds_toArray, set_cons_zero, set_cons_succ]
   refine until_pure 25 (v := ?vfa26) (by rfl) (by kernel_rfl) (by exact fun _ _ _ h => h) (by rfl) ?hyfa26 ?rfa26
   case hyfa26 =>
    intro w
    go_simp
    try with_reducible rfl
   try simp only [Act.put, setIfInBounds_toArray, set_cons_zero, set_cons_succ]
   refine until_done (by kernel_rfl) ?_ _
   go_wp2_with fail
   go_ret
   exact ⟨by rw [HE.out]; rfl, B0.out.drew⟩
  subst a
  by_cases b : n < 60
  rotate_left
  ·have HE : Hid (recFits ⟨xt, xv, xb, xbt, es⟩ ⟨2, t, xb + (n : Int) + 1, v, d⟩ = false) := by unfold Hid recFits; simp [b, hN]
   have b' : (60 : Int) ≤ (n : Int) := by omega
   have zb : decide ((n : Int) < 60) = false := decide_eq_false (by omega)
   go_enter Try.func22, Try.ntmps22
   go_wp2_with fail
   have b0 : Below w.heap.size w ((w.alloc (.cells #[.int .i64 xt, .int .i64 xv, .int .i64 xb, .int .i64 xbt, .slice A n cap] 26)).alloc (.cells #[.int .i64 2, .int .i64 t, .int .i64 (xb + (n : Int) + 1), .int .i64 v, .string d] 35)) := below_alloc2 w _ _
   have k0 := (Blk.new w #[.int .i64 xt, .int .i64 xv, .int .i64 xb, .int .i64 xbt, .slice A n cap] 26).alloc (.cells #[.int .i64 2, .int .i64 t, .int .i64 (xb + (n : Int) + 1), .int .i64 v, .string d] 35)
   have r0 := Blk.new (w.alloc (.cells #[.int .i64 xt, .int .i64 xv, .int .i64 xb, .int .i64 xbt, .slice A n cap] 26)) #[.int .i64 2, .int .i64 t, .int .i64 (xb + (n : Int) + 1), .int .i64 v, .string d] 35
   simp only [World.size_alloc] at r0
   generalize (w.alloc (.cells #[.int .i64 xt, .int .i64 xv, .int .i64 xb, .int .i64 xbt, .slice A n cap] 26)).alloc (.cells #[.int .i64 2, .int .i64 t, .int .i64 (xb + (n : Int) + 1), .int .i64 v, .string d] 35) = W at *
   have B0 : Hid (Below w.heap.size w W) := b0
   have K0 : Hid (Blk W w.heap.size #[.int .i64 xt, .int .i64 xv, .int .i64 xb, .int .i64 xbt, .slice A n cap] 26) := k0
   have R0 : Hid (Blk W (w.heap.size + 1) #[.int .i64 2, .int .i64 t, .int .i64 (xb + (n : Int) + 1), .int .i64 v, .string d] 35) := r0
   clear b0 k0 r0
   have S0 : Hid (W.drew.cell? ⟨w.heap.size, 0, none⟩ = some (.int .i64 xt) ∧ W.drew.cell? ⟨w.heap.size, 1, none⟩ = some (.int .i64 xv) ∧ W.drew.cell? ⟨w.heap.size, 2, none⟩ = some (.int .i64 xb) ∧ W.drew.cell? ⟨w.heap.size, 3, none⟩ = some (.int .i64 xbt) ∧ W.drew.cell? ⟨w.heap.size, 4, none⟩ = some (.slice A n cap) ∧ W.drew.cell? ⟨w.heap.size + 1, 0, none⟩ = some (.int .i64 2) ∧ W.drew.cell? ⟨w.heap.size + 1, 1, none⟩ = some (.int .i64 t) ∧ W.drew.cell? ⟨w.heap.size + 1, 2, none⟩ = some (.int .i64 (xb + (n : Int) + 1)) ∧ W.drew.cell? ⟨w.heap.size + 1, 3, none⟩ = some (.int .i64 v) ∧ W.drew.cell? ⟨w.heap.size + 1, 4, none⟩ = some (.string d)) := ⟨K0.out.cell 0 _ rfl, K0.out.cell 1 _ rfl, K0.out.cell 2 _ rfl, K0.out.cell 3 _ rfl, K0.out.cell 4 _ rfl, R0.out.cell 0 _ rfl, R0.out.cell 1 _ rfl, R0.out.cell 2 _ rfl, R0.out.cell 3 _ rfl, R0.out.cell 4 _ rfl⟩
   refine wp_region_until (fun w' => w'.cell? ⟨w.heap.size, 0, none⟩ = some (.int .i64 xt) ∧ w'.cell? ⟨w.heap.size, 1, none⟩ = some (.int .i64 xv) ∧ w'.cell? ⟨w.heap.size, 2, none⟩ = some (.int .i64 xb) ∧ w'.cell? ⟨w.heap.size, 3, none⟩ = some (.int .i64 xbt) ∧ w'.cell? ⟨w.heap.size, 4, none⟩ = some (.slice A n cap) ∧ w'.cell? ⟨w.heap.size + 1, 0, none⟩ = some (.int .i64 2) ∧ w'.cell? ⟨w.heap.size + 1, 1, none⟩ = some (.int .i64 t) ∧ w'.cell? ⟨w.heap.size + 1, 2, none⟩ = some (.int .i64 (xb + (n : Int) + 1)) ∧ w'.cell? ⟨w.heap.size + 1, 3, none⟩ = some (.int .i64 v) ∧ w'.cell? ⟨w.heap.size + 1, 4, none⟩ = some (.string d)) (fun i => false) 26 (by rfl) (by kernel_rfl) ?_
   refine until_take 0 (v := ?vfb1) (by rfl) (by kernel_rfl) (by exact fun _ _ _ h => h) (by rfl) ?hyfb1 S0.out ?rfb1
   case hyfb1 =>
    intro w hSw
    try dsimp only at hSw
    go_simp
    try with_reducible rfl
   try simp only [Act.put, setIfInBounds_toArray, set_cons_zero, set_cons_succ]
   refine until_take 1 (v := ?vfb2) (by rfl) (by kernel_rfl) (by exact fun _ _ _ h => h) (by rfl) ?hyfb2 S0.out ?rfb2
   case hyfb2 =>
    intro w hSw
    try dsimp only at hSw
    go_simp
    try with_reducible rfl
   try simp only [Act.put, setIfInBounds_toArray, set_cons_zero, set_cons_succ]
   refine until_pure 2 (v := ?vfb3) (by rfl) (by kernel_rfl) (by exact fun _ _ _ h => h) (by rfl) ?hyfb3 ?rfb3
   case hyfb3 =>
    intro w
    go_simp
    try with_reducible rfl
   try simp only [Act.put, setIfInBounds_toArray, set_cons_zero, set_cons_succ]
   refine until_pure 3 (v := ?vfb4) (by rfl) (by kernel_rfl) (by exact fun _ _ _ h => h) (by rfl) ?hyfb4 ?rfb4
   case hyfb4 =>
    intro w
    go_simp
    try with_reducible rfl
   try simp only [Act.put, setIfInBounds_toArray, set_cons_zero, set_cons_succ]
   refine until_pure 4 (v := ?vfb5) (by rfl) (by kernel_rfl) (by exact fun _ _ _ h => h) (by rfl) ?hyfb5 ?rfb5
   case hyfb5 =>
    intro w
    go_simp
    try with_reducible rfl
   try simp only [Act.put, setIfInBounds_toArray, set_cons_zero, set_cons_succ]
   refine until_pure 5 (v := ?vfb6) (by rfl) (by kernel_rfl) (by exact fun _ _ _ h => h) (by rfl) ?hyfb6 ?rfb6
   case hyfb6 =>
    intro w
    go_simp
    try with_reducible rfl
   try simp only [Act.put, setIfInBounds_toArray, set_cons_zero, set_cons_succ]
   refine until_take 6 (v := ?vfb7) (by rfl) (by kernel_rfl) (by exact fun _ _ _ h => h) (by rfl) ?hyfb7 S0.out ?rfb7
   case hyfb7 =>
    intro w hSw
    try dsimp only at hSw
    go_simp
    try with_reducible rfl
   try simp only [Act.put, setIfInBounds_toArray, set_cons_zero, set_cons_succ]
   refine until_take 7 (v := ?vfb8) (by rfl) (by kernel_rfl) (by exact fun _ _ _ h => h) (by rfl) ?hyfb8 S0.out ?rfb8
   case hyfb8 =>
    intro w hSw
    try dsimp only at hSw
    go_simp
    try with_reducible rfl
   try simp only [Act.put, setIfInBounds_toArray, set_cons_zero, set_cons_succ]
   refine until_pure 8 (v := ?vfb9) (by rfl) (by kernel_rfl) (by exact fun _ _ _ h => h) (by rfl) ?hyfb9 ?rfb9
   case hyfb9 =>
    intro w
    go_simp
    try with_reducible rfl
   try simp only [Act.put, setIfInBounds_toArray, set_cons_zero, set_cons_succ]
   refine until_pure 9 (v := ?vfb10) (by rfl) (by kernel_rfl) (by exact fun _ _ _ h => h) (by rfl) ?hyfb10 ?rfb10
   case hyfb10 =>
    intro w
    go_simp
    try with_reducible rfl
   try simp only [Act.put, setIfInBounds_toArray, set_cons_zero, set_cons_succ]
   refine until_pure 10 (v := ?vfb11) (by rfl) (by kernel_rfl) (by exact fun _ _ _ h => h) (by rfl) ?hyfb11 ?rfb11
   case hyfb11 =>
    intro w
    go_simp
    try with_reducible rfl
   try simp only [Act.put, setIfInBounds_toArray, set_cons_zero, set_cons_succ]
   refine until_pure 11 (v := ?vfb12) (by rfl) (by kernel_rfl) (by exact fun _ _ _ h => h) (by rfl) ?hyfb12 ?rfb12
   case hyfb12 =>
    intro w
    go_simp
    try with_reducible rfl
   try simp only [Act.put, setIfInBounds_toArray, set_cons_zero, set_cons_succ]
   refine until_skip 12 (by rfl) (by kernel_rfl) (by exact fun _ _ _ h => h) (by rfl) ?rfb13
   try simp only [Act.put, setIfInBounds_toArray, set_cons_zero, set_cons_succ]
   refine until_skip 13 (by rfl) (by kernel_rfl) (by exact fun _ _ _ h => h) (by rfl) ?rfb14
   try simp only [Act.put, setIfInBounds_toArray, set_cons_zero, set_cons_succ]
   refine until_skip 14 (by rfl) (by kernel_rfl) (by exact fun _ _ _ h => h) (by rfl) ?rfb15
   try simp only [Act.put, setIfInBounds_toArray, set_cons_zero, set_cons_succ]
   refine until_skip 15 (by rfl) (by kernel_rfl) (by exact fun _ _ _ h => h) (by rfl) ?rfb16
   try simp only [Act.put, setIfInBounds_toArray, set_cons_zero, set_cons_succ]
   refine until_skip 16 (by rfl) (by kernel_rfl) (by exact fun _ _ _ h => h) (by rfl) ?rfb17
   try simp only [Act.put, setIfInBounds_toArray, set_cons_zero, set_cons_succ]
   refine until_pure 17 (v := ?vfb18) (by rfl) (by kernel_rfl) (by exact fun _ _ _ h => h) (by rfl) ?hyfb18 ?rfb18
   case hyfb18 =>
    intro w
    go_simp
    try with_reducible rfl
   try simp only [Act.put, setIfInBounds_toArray, set_cons_zero, set_cons_succ]
   refine until_pure 18 (v := ?vfb19) (by rfl) (by kernel_rfl) (by exact fun _ _ _ h => h) (by rfl) ?hyfb19 ?rfb19
   case hyfb19 =>
    intro w
    go_simp
    try with_reducible rfl
   try simp only [Act.put, setIfInBounds_toArray, set_cons_zero, set_cons_succ]
   refine until_skip 19 (by rfl) (by kernel_rfl) (by exact fun _ _ _ h => h) (by rfl) ?rfb20
   try simp only [Act.put, setIfInBounds_toArray, set_cons_zero, set_cons_succ]
   refine until_skip 20 (by rfl) (by kernel_rfl) (by exact fun _ _ _ h => h) (by rfl) ?rfb21
   try simp only [Act.put, setIfInBounds_toArray, set_cons_zero, set_cons_succ]
   refine until_skip 21 (by rfl) (by kernel_rfl) (by exact fun _ _ _ h => h) (by rfl) ?rfb22
   try simp only [Act.put, setIfInBounds_toArray, set_cons_zero, set_cons_succ]
   refine until_skip 22 (by rfl) (by kernel_rfl) (by exact fun _ _ _ h => h) (by rfl) ?rfb23
   try simp only [Act.put, setIfInBounds_toArray, set_cons_zero, set_cons_succ]
   refine until_skip 23 (by rfl) (by kernel_rfl) (by exact fun _ _ _ h => h) (by rfl) ?rfb24
   try simp only [Act.put, setIfInBounds_toArray, set_cons_zero, set_cons_succ]
   refine until_pure 24 (v := ?vfb25) (by rfl) (by kernel_rfl) (by exact fun _ _ _ h => h) (by rfl) ?hyfb25 ?rfb25
   case hyfb25 =>
    intro w
    go_simp
    try with_reducible rfl
   try simp only [Act.put, setIfInBounds_toArray, set_cons_zero, set_cons_succ]
   refine until_pure 25 (v := ?vfb26) (by rfl) (by kernel_rfl) (by exact fun _ _ _ h => h) (by rfl) ?hyfb26 ?rfb26
   case hyfb26 =>
    intro w
    go_simp
    try with_reducible rfl
   try simp only [Act.put, setIfInBounds_toArray, set_cons_zero, set_cons_succ]
   refine until_done (by kernel_rfl) ?_ _
   go_wp2_with fail
   go_ret
   exact ⟨by rw [HE.out]; rfl, B0.out.drew⟩
  have b' : (n : Int) < 60 := by omega
  have zb : decide ((n : Int) < 60) = true := decide_eq_true b'
  generalize hla : lastTerm ⟨xt, xv, xb, xbt, es⟩ = la at *
  by_cases c : la ≤ t
  rotate_left
  ·have HE : Hid (recFits ⟨xt, xv, xb, xbt, es⟩ ⟨2, t, xb + (n : Int) + 1, v, d⟩ = false) := by unfold Hid recFits; simp [b, c, hN, hla]
   have c' : t < la := by omega
   have zc : decide (la ≤ t) = false := decide_eq_false c
   go_enter Try.func22, Try.ntmps22
   go_wp2_with fail
   have b0 : Below w.heap.size w ((w.alloc (.cells #[.int .i64 xt, .int .i64 xv, .int .i64 xb, .int .i64 xbt, .slice A n cap] 26)).alloc (.cells #[.int .i64 2, .int .i64 t, .int .i64 (xb + (n : Int) + 1), .int .i64 v, .string d] 35)) := below_alloc2 w _ _
   have k0 := (Blk.new w #[.int .i64 xt, .int .i64 xv, .int .i64 xb, .int .i64 xbt, .slice A n cap] 26).alloc (.cells #[.int .i64 2, .int .i64 t, .int .i64 (xb + (n : Int) + 1), .int .i64 v, .string d] 35)
   have r0 := Blk.new (w.alloc (.cells #[.int .i64 xt, .int .i64 xv, .int .i64 xb, .int .i64 xbt, .slice A n cap] 26)) #[.int .i64 2, .int .i64 t, .int .i64 (xb + (n : Int) + 1), .int .i64 v, .string d] 35
   simp only [World.size_alloc] at r0
   generalize (w.alloc (.cells #[.int .i64 xt, .int .i64 xv, .int .i64 xb, .int .i64 xbt, .slice A n cap] 26)).alloc (.cells #[.int .i64 2, .int .i64 t, .int .i64 (xb + (n : Int) + 1), .int .i64 v, .string d] 35) = W at *
   have B0 : Hid (Below w.heap.size w W) := b0
   have K0 : Hid (Blk W w.heap.size #[.int .i64 xt, .int .i64 xv, .int .i64 xb, .int .i64 xbt, .slice A n cap] 26) := k0
   have R0 : Hid (Blk W (w.heap.size + 1) #[.int .i64 2, .int .i64 t, .int .i64 (xb + (n : Int) + 1), .int .i64 v, .string d] 35) := r0
   clear b0 k0 r0
   have S0 : Hid (W.drew.cell? ⟨w.heap.size, 0, none⟩ = some (.int .i64 xt) ∧ W.drew.cell? ⟨w.heap.size, 1, none⟩ = some (.int .i64 xv) ∧ W.drew.cell? ⟨w.heap.size, 2, none⟩ = some (.int .i64 xb) ∧ W.drew.cell? ⟨w.heap.size, 3, none⟩ = some (.int .i64 xbt) ∧ W.drew.cell? ⟨w.heap.size, 4, none⟩ = some (.slice A n cap) ∧ W.drew.cell? ⟨w.heap.size + 1, 0, none⟩ = some (.int .i64 2) ∧ W.drew.cell? ⟨w.heap.size + 1, 1, none⟩ = some (.int .i64 t) ∧ W.drew.cell? ⟨w.heap.size + 1, 2, none⟩ = some (.int .i64 (xb + (n : Int) + 1)) ∧ W.drew.cell? ⟨w.heap.size + 1, 3, none⟩ = some (.int .i64 v) ∧ W.drew.cell? ⟨w.heap.size + 1, 4, none⟩ = some (.string d)) := ⟨K0.out.cell 0 _ rfl, K0.out.cell 1 _ rfl, K0.out.cell 2 _ rfl, K0.out.cell 3 _ rfl, K0.out.cell 4 _ rfl, R0.out.cell 0 _ rfl, R0.out.cell 1 _ rfl, R0.out.cell 2 _ rfl, R0.out.cell 3 _ rfl, R0.out.cell 4 _ rfl⟩
   refine wp_region_until (fun w' => w'.cell? ⟨w.heap.size, 0, none⟩ = some (.int .i64 xt) ∧ w'.cell? ⟨w.heap.size, 1, none⟩ = some (.int .i64 xv) ∧ w'.cell? ⟨w.heap.size, 2, none⟩ = some (.int .i64 xb) ∧ w'.cell? ⟨w.heap.size, 3, none⟩ = some (.int .i64 xbt) ∧ w'.cell? ⟨w.heap.size, 4, none⟩ = some (.slice A n cap) ∧ w'.cell? ⟨w.heap.size + 1, 0, none⟩ = some (.int .i64 2) ∧ w'.cell? ⟨w.heap.size + 1, 1, none⟩ = some (.int .i64 t) ∧ w'.cell? ⟨w.heap.size + 1, 2, none⟩ = some (.int .i64 (xb + (n : Int) + 1)) ∧ w'.cell? ⟨w.heap.size + 1, 3, none⟩ = some (.int .i64 v) ∧ w'.cell? ⟨w.heap.size + 1, 4, none⟩ = some (.string d)) (fun i => false) 26 (by rfl) (by kernel_rfl) ?_
   refine until_take 0 (v := ?vfc1) (by rfl) (by kernel_rfl) (by exact fun _ _ _ h => h) (by rfl) ?hyfc1 S0.out ?rfc1
   case hyfc1 =>
    intro w hSw
    try dsimp only at hSw
    go_simp
    try with_reducible rfl
   try simp only [Act.put, setIfInBounds_toArray, set_cons_zero, set_cons_succ]
   refine until_take 1 (v := ?vfc2) (by rfl) (by kernel_rfl) (by exact fun _ _ _ h => h) (by rfl) ?hyfc2 S0.out ?rfc2
   case hyfc2 =>
    intro w hSw
    try dsimp only at hSw
    go_simp
    try with_reducible rfl
   try simp only [Act.put, setIfInBounds_toArray, set_cons_zero, set_cons_succ]
   refine until_pure 2 (v := ?vfc3) (by rfl) (by kernel_rfl) (by exact fun _ _ _ h => h) (by rfl) ?hyfc3 ?rfc3
   case hyfc3 =>
    intro w
    go_simp
    try with_reducible rfl
   try simp only [Act.put, setIfInBounds_toArray, set_cons_zero, set_cons_succ]
   refine until_pure 3 (v := ?vfc4) (by rfl) (by kernel_rfl) (by exact fun _ _ _ h => h) (by rfl) ?hyfc4 ?rfc4
   case hyfc4 =>
    intro w
    go_simp
    try with_reducible rfl
   try simp only [Act.put, setIfInBounds_toArray, set_cons_zero, set_cons_succ]
   refine until_pure 4 (v := ?vfc5) (by rfl) (by kernel_rfl) (by exact fun _ _ _ h => h) (by rfl) ?hyfc5 ?rfc5
   case hyfc5 =>
    intro w
    go_simp
    try with_reducible rfl
   try simp only [Act.put, setIfInBounds_toArray, set_cons_zero, set_cons_succ]
   refine until_pure 5 (v := ?vfc6) (by rfl) (by kernel_rfl) (by exact fun _ _ _ h => h) (by rfl) ?hyfc6 ?rfc6
   case hyfc6 =>
    intro w
    go_simp
    try with_reducible rfl
   try simp only [Act.put, setIfInBounds_toArray, set_cons_zero, set_cons_succ]
   refine until_take 6 (v := ?vfc7) (by rfl) (by kernel_rfl) (by exact fun _ _ _ h => h) (by rfl) ?hyfc7 S0.out ?rfc7
   case hyfc7 =>
    intro w hSw
    try dsimp only at hSw
    go_simp
    try with_reducible rfl
   try simp only [Act.put, setIfInBounds_toArray, set_cons_zero, set_cons_succ]
   refine until_take 7 (v := ?vfc8) (by rfl) (by kernel_rfl) (by exact fun _ _ _ h => h) (by rfl) ?hyfc8 S0.out ?rfc8
   case hyfc8 =>
    intro w hSw
    try dsimp only at hSw
    go_simp
    try with_reducible rfl
   try simp only [Act.put, setIfInBounds_toArray, set_cons_zero, set_cons_succ]
   refine until_pure 8 (v := ?vfc9) (by rfl) (by kernel_rfl) (by exact fun _ _ _ h => h) (by rfl) ?hyfc9 ?rfc9
   case hyfc9 =>
    intro w
    go_simp
    try with_reducible rfl
   try simp only [Act.put, setIfInBounds_toArray, set_cons_zero, set_cons_succ]
   refine until_pure 9 (v := ?vfc10) (by rfl) (by kernel_rfl) (by exact fun _ _ _ h => h) (by rfl) ?hyfc10 ?rfc10
   case hyfc10 =>
    intro w
    go_simp
    try with_reducible rfl
   try simp only [Act.put, setIfInBounds_toArray, set_cons_zero, set_cons_succ]
   refine until_pure 10 (v := ?vfc11) (by rfl) (by kernel_rfl) (by exact fun _ _ _ h => h) (by rfl) ?hyfc11 ?rfc11
   case hyfc11 =>
    intro w
    go_simp
    try with_reducible rfl
   try simp only [Act.put, setIfInBounds_toArray, set_cons_zero, set_cons_succ]
   refine until_pure 11 (v := ?vfc12) (by rfl) (by kernel_rfl) (by exact fun _ _ _ h => h) (by rfl) ?hyfc12 ?rfc12
   case hyfc12 =>
    intro w
    go_simp
    try with_reducible rfl
   try simp only [Act.put, setIfInBounds_toArray, set_cons_zero, set_cons_succ]
   refine until_take 12 (v := ?vfc13) (by rfl) (by kernel_rfl) (by exact fun _ _ _ h => h) (by rfl) ?hyfc13 S0.out ?rfc13
   case hyfc13 =>
    intro w hSw
    try dsimp only at hSw
    go_simp
    try with_reducible rfl
   try simp only [Act.put, setIfInBounds_toArray, set_cons_zero, set_cons_succ]
   refine until_take 13 (v := ?vfc14) (by rfl) (by kernel_rfl) (by exact fun _ _ _ h => h) (by rfl) ?hyfc14 S0.out ?rfc14
   case hyfc14 =>
    intro w hSw
    try dsimp only at hSw
    go_simp
    try with_reducible rfl
   try simp only [Act.put, setIfInBounds_toArray, set_cons_zero, set_cons_succ]
   refine until_take 14 (v := ?vfc15) (by rfl) (by kernel_rfl) (by exact fun _ _ _ h => h) (by rfl) ?hyfc15 S0.out ?rfc15
   case hyfc15 =>
    intro w hSw
    try dsimp only at hSw
    go_simp
    try with_reducible rfl
   try simp only [Act.put, setIfInBounds_toArray, set_cons_zero, set_cons_succ]
   refine until_one 15 (by rfl) (by kernel_rfl) (fun K hK => ?_)
   go_simp
   refine (cL W.drew (HV.out.on (B0.out.drew.mono HBW.out)) (Nat.le_trans HBW.out B0.out.size)).mono ?_
   rintro e W1 ⟨rfl, hb1⟩
   have hb11 : Below W.heap.size W W1 := (Below.refl _ W).drew.trans hb1
   have B1 : Hid (Below w.heap.size w W1) := B0.out.trans (hb11.mono B0.out.size)
   have K1 := K0.out.on hb11 K0.out.lt
   have R1 := R0.out.on hb11 R0.out.lt
   have S1 : Hid (W1.cell? ⟨w.heap.size, 0, none⟩ = some (.int .i64 xt) ∧ W1.cell? ⟨w.heap.size, 1, none⟩ = some (.int .i64 xv) ∧ W1.cell? ⟨w.heap.size, 2, none⟩ = some (.int .i64 xb) ∧ W1.cell? ⟨w.heap.size, 3, none⟩ = some (.int .i64 xbt) ∧ W1.cell? ⟨w.heap.size, 4, none⟩ = some (.slice A n cap) ∧ W1.cell? ⟨w.heap.size + 1, 0, none⟩ = some (.int .i64 2) ∧ W1.cell? ⟨w.heap.size + 1, 1, none⟩ = some (.int .i64 t) ∧ W1.cell? ⟨w.heap.size + 1, 2, none⟩ = some (.int .i64 (xb + (n : Int) + 1)) ∧ W1.cell? ⟨w.heap.size + 1, 3, none⟩ = some (.int .i64 v) ∧ W1.cell? ⟨w.heap.size + 1, 4, none⟩ = some (.string d)) := ⟨K1.cell 0 _ rfl, K1.cell 1 _ rfl, K1.cell 2 _ rfl, K1.cell 3 _ rfl, K1.cell 4 _ rfl, R1.cell 0 _ rfl, R1.cell 1 _ rfl, R1.cell 2 _ rfl, R1.cell 3 _ rfl, R1.cell 4 _ rfl⟩
   clear hb1 hb11 K1 R1
   go_wp2_with fail
   refine hK.out _ _ (fun _ _ => S1.out) ?_
   clear hK K
   try simp only [Act.put, setIfInBounds_toArray, set_cons_zero, set_cons_succ]
   refine until_pure 16 (v := ?vfc16) (by rfl) (by kernel_rfl) (by exact fun _ _ _ h => h) (by rfl) ?hyfc16 ?rfc16
   case hyfc16 =>
    intro w
    go_simp
    try with_reducible rfl
   try simp only [Act.put, setIfInBounds_toArray, set_cons_zero, set_cons_succ]
   refine until_pure 17 (v := ?vfc17) (by rfl) (by kernel_rfl) (by exact fun _ _ _ h => h) (by rfl) ?hyfc17 ?rfc17
   case hyfc17 =>
    intro w
    go_simp
    try with_reducible rfl
   try simp only [Act.put, setIfInBounds_toArray, set_cons_zero, set_cons_succ]
   refine until_pure 18 (v := ?vfc18) (by rfl) (by kernel_rfl) (by exact fun _ _ _ h => h) (by rfl) ?hyfc18 ?rfc18
   case hyfc18 =>
    intro w
    go_simp
    try with_reducible rfl
   try simp only [Act.put, setIfInBounds_toArray, set_cons_zero, set_cons_succ]
   refine until_skip 19 (by rfl) (by kernel_rfl) (by exact fun _ _ _ h => h) (by rfl) ?rfc19
   try simp only [Act.put, setIfInBounds_toArray, set_cons_zero, set_cons_succ]
   refine until_skip 20 (by rfl) (by kernel_rfl) (by exact fun _ _ _ h => h) (by rfl) ?rfc20
   try simp only [Act.put, setIfInBounds_toArray, set_cons_zero, set_cons_succ]
   refine until_skip 21 (by rfl) (by kernel_rfl) (by exact fun _ _ _ h => h) (by rfl) ?rfc21
   try simp only [Act.put, setIfInBounds_toArray, set_cons_zero, set_cons_succ]
   refine until_skip 22 (by rfl) (by kernel_rfl) (by exact fun _ _ _ h => h) (by rfl) ?rfc22
   try simp only [Act.put, setIfInBounds_toArray, set_cons_zero, set_cons_succ]
   refine until_skip 23 (by rfl) (by kernel_rfl) (by exact fun _ _ _ h => h) (by rfl) ?rfc23
   try simp only [Act.put, setIfInBounds_toArray, set_cons_zero, set_cons_succ]
   refine until_pure 24 (v := ?vfc24) (by rfl) (by kernel_rfl) (by exact fun _ _ _ h => h) (by rfl) ?hyfc24 ?rfc24
   case hyfc24 =>
    intro w
    go_simp
    try with_reducible rfl
   try simp only [Act.put, setIfInBounds_toArray, set_cons_zero, set_cons_succ]
   refine until_pure 25 (v := ?vfc25) (by rfl) (by kernel_rfl) (by exact fun _ _ _ h => h) (by rfl) ?hyfc25 ?rfc25
   case hyfc25 =>
    intro w
    go_simp
    try with_reducible rfl
   try simp only [Act.put, setIfInBounds_toArray, set_cons_zero, set_cons_succ]
   refine until_done (by kernel_rfl) ?_ _
   go_wp2_with fail
   go_ret
   exact ⟨by rw [HE.out]; rfl, B1.out⟩
  by_cases e : t ≤ xt
  rotate_left
  ·have HE : Hid (recFits ⟨xt, xv, xb, xbt, es⟩ ⟨2, t, xb + (n : Int) + 1, v, d⟩ = false) := by unfold Hid recFits; simp [b, c, e, hN, hla]
   have e' : xt < t := by omega
   have zc : decide (la ≤ t) = true := decide_eq_true c
   have ze : decide (t ≤ xt) = false := decide_eq_false e
   go_enter Try.func22, Try.ntmps22
   go_wp2_with fail
   have b0 : Below w.heap.size w ((w.alloc (.cells #[.int .i64 xt, .int .i64 xv, .int .i64 xb, .int .i64 xbt, .slice A n cap] 26)).alloc (.cells #[.int .i64 2, .int .i64 t, .int .i64 (xb + (n : Int) + 1), .int .i64 v, .string d] 35)) := below_alloc2 w _ _
   have k0 := (Blk.new w #[.int .i64 xt, .int .i64 xv, .int .i64 xb, .int .i64 xbt, .slice A n cap] 26).alloc (.cells #[.int .i64 2, .int .i64 t, .int .i64 (xb + (n : Int) + 1), .int .i64 v, .string d] 35)
   have r0 := Blk.new (w.alloc (.cells #[.int .i64 xt, .int .i64 xv, .int .i64 xb, .int .i64 xbt, .slice A n cap] 26)) #[.int .i64 2, .int .i64 t, .int .i64 (xb + (n : Int) + 1), .int .i64 v, .string d] 35
   simp only [World.size_alloc] at r0
   generalize (w.alloc (.cells #[.int .i64 xt, .int .i64 xv, .int .i64 xb, .int .i64 xbt, .slice A n cap] 26)).alloc (.cells #[.int .i64 2, .int .i64 t, .int .i64 (xb + (n : Int) + 1), .int .i64 v, .string d] 35) = W at *
   have B0 : Hid (Below w.heap.size w W) := b0
   have K0 : Hid (Blk W w.heap.size #[.int .i64 xt, .int .i64 xv, .int .i64 xb, .int .i64 xbt, .slice A n cap] 26) := k0
   have R0 : Hid (Blk W (w.heap.size + 1) #[.int .i64 2, .int .i64 t, .int .i64 (xb + (n : Int) + 1), .int .i64 v, .string d] 35) := r0
   clear b0 k0 r0
   have S0 : Hid (W.drew.cell? ⟨w.heap.size, 0, none⟩ = some (.int .i64 xt) ∧ W.drew.cell? ⟨w.heap.size, 1, none⟩ = some (.int .i64 xv) ∧ W.drew.cell? ⟨w.heap.size, 2, none⟩ = some (.int .i64 xb) ∧ W.drew.cell? ⟨w.heap.size, 3, none⟩ = some (.int .i64 xbt) ∧ W.drew.cell? ⟨w.heap.size, 4, none⟩ = some (.slice A n cap) ∧ W.drew.cell? ⟨w.heap.size + 1, 0, none⟩ = some (.int .i64 2) ∧ W.drew.cell? ⟨w.heap.size + 1, 1, none⟩ = some (.int .i64 t) ∧ W.drew.cell? ⟨w.heap.size + 1, 2, none⟩ = some (.int .i64 (xb + (n : Int) + 1)) ∧ W.drew.cell? ⟨w.heap.size + 1, 3, none⟩ = some (.int .i64 v) ∧ W.drew.cell? ⟨w.heap.size + 1, 4, none⟩ = some (.string d)) := ⟨K0.out.cell 0 _ rfl, K0.out.cell 1 _ rfl, K0.out.cell 2 _ rfl, K0.out.cell 3 _ rfl, K0.out.cell 4 _ rfl, R0.out.cell 0 _ rfl, R0.out.cell 1 _ rfl, R0.out.cell 2 _ rfl, R0.out.cell 3 _ rfl, R0.out.cell 4 _ rfl⟩
   refine wp_region_until (fun w' => w'.cell? ⟨w.heap.size, 0, none⟩ = some (.int .i64 xt) ∧ w'.cell? ⟨w.heap.size, 1, none⟩ = some (.int .i64 xv) ∧ w'.cell? ⟨w.heap.size, 2, none⟩ = some (.int .i64 xb) ∧ w'.cell? ⟨w.heap.size, 3, none⟩ = some (.int .i64 xbt) ∧ w'.cell? ⟨w.heap.size, 4, none⟩ = some (.slice A n cap) ∧ w'.cell? ⟨w.heap.size + 1, 0, none⟩ = some (.int .i64 2) ∧ w'.cell? ⟨w.heap.size + 1, 1, none⟩ = some (.int .i64 t) ∧ w'.cell? ⟨w.heap.size + 1, 2, none⟩ = some (.int .i64 (xb + (n : Int) + 1)) ∧ w'.cell? ⟨w.heap.size + 1, 3, none⟩ = some (.int .i64 v) ∧ w'.cell? ⟨w.heap.size + 1, 4, none⟩ = some (.string d)) (fun i => false) 26 (by rfl) (by kernel_rfl) ?_
   refine until_take 0 (v := ?vfd1) (by rfl) (by kernel_rfl) (by exact fun _ _ _ h => h) (by rfl) ?hyfd1 S0.out ?rfd1
   case hyfd1 =>
    intro w hSw
    try dsimp only at hSw
    go_simp
    try with_reducible rfl
   try simp only [Act.put, setIfInBounds_toArray, set_cons_zero, set_cons_succ]
   refine until_take 1 (v := ?vfd2) (by rfl) (by kernel_rfl) (by exact fun _ _ _ h => h) (by rfl) ?hyfd2 S0.out ?rfd2
   case hyfd2 =>
    intro w hSw
    try dsimp only at hSw
    go_simp
    try with_reducible rfl
   try simp only [Act.put, setIfInBounds_toArray, set_cons_zero, set_cons_succ]
   refine until_pure 2 (v := ?vfd3) (by rfl) (by kernel_rfl) (by exact fun _ _ _ h => h) (by rfl) ?hyfd3 ?rfd3
   case hyfd3 =>
    intro w
    go_simp
    try with_reducible rfl
   try simp only [Act.put, setIfInBounds_toArray, set_cons_zero, set_cons_succ]
   refine until_pure 3 (v := ?vfd4) (by rfl) (by kernel_rfl) (by exact fun _ _ _ h => h) (by rfl) ?hyfd4 ?rfd4
   case hyfd4 =>
    intro w
    go_simp
    try with_reducible rfl
   try simp only [Act.put, setIfInBounds_toArray, set_cons_zero, set_cons_succ]
   refine until_pure 4 (v := ?vfd5) (by rfl) (by kernel_rfl) (by exact fun _ _ _ h => h) (by rfl) ?hyfd5 ?rfd5
   case hyfd5 =>
    intro w
    go_simp
    try with_reducible rfl
   try simp only [Act.put, setIfInBounds_toArray, set_cons_zero, set_cons_succ]
   refine until_pure 5 (v := ?vfd6) (by rfl) (by kernel_rfl) (by exact fun _ _ _ h => h) (by rfl) ?hyfd6 ?rfd6
   case hyfd6 =>
    intro w
    go_simp
    try with_reducible rfl
   try simp only [Act.put, setIfInBounds_toArray, set_cons_zero, set_cons_succ]
   refine until_take 6 (v := ?vfd7) (by rfl) (by kernel_rfl) (by exact fun _ _ _ h => h) (by rfl) ?hyfd7 S0.out ?rfd7
   case hyfd7 =>
    intro w hSw
    try dsimp only at hSw
    go_simp
    try with_reducible rfl
   try simp only [Act.put, setIfInBounds_toArray, set_cons_zero, set_cons_succ]
   refine until_take 7 (v := ?vfd8) (by rfl) (by kernel_rfl) (by exact fun _ _ _ h => h) (by rfl) ?hyfd8 S0.out ?rfd8
   case hyfd8 =>
    intro w hSw
    try dsimp only at hSw
    go_simp
    try with_reducible rfl
   try simp only [Act.put, setIfInBounds_toArray, set_cons_zero, set_cons_succ]
   refine until_pure 8 (v := ?vfd9) (by rfl) (by kernel_rfl) (by exact fun _ _ _ h => h) (by rfl) ?hyfd9 ?rfd9
   case hyfd9 =>
    intro w
    go_simp
    try with_reducible rfl
   try simp only [Act.put, setIfInBounds_toArray, set_cons_zero, set_cons_succ]
   refine until_pure 9 (v := ?vfd10) (by rfl) (by kernel_rfl) (by exact fun _ _ _ h => h) (by rfl) ?hyfd10 ?rfd10
   case hyfd10 =>
    intro w
    go_simp
    try with_reducible rfl
   try simp only [Act.put, setIfInBounds_toArray, set_cons_zero, set_cons_succ]
   refine until_pure 10 (v := ?vfd11) (by rfl) (by kernel_rfl) (by exact fun _ _ _ h => h) (by rfl) ?hyfd11 ?rfd11
   case hyfd11 =>
    intro w
    go_simp
    try with_reducible rfl
   try simp only [Act.put, setIfInBounds_toArray, set_cons_zero, set_cons_succ]
   refine until_pure 11 (v := ?vfd12) (by rfl) (by kernel_rfl) (by exact fun _ _ _ h => h) (by rfl) ?hyfd12 ?rfd12
   case hyfd12 =>
    intro w
    go_simp
    try with_reducible rfl
   try simp only [Act.put, setIfInBounds_toArray, set_cons_zero, set_cons_succ]
   refine until_take 12 (v := ?vfd13) (by rfl) (by kernel_rfl) (by exact fun _ _ _ h => h) (by rfl) ?hyfd13 S0.out ?rfd13
   case hyfd13 =>
    intro w hSw
    try dsimp only at hSw
    go_simp
    try with_reducible rfl
   try simp only [Act.put, setIfInBounds_toArray, set_cons_zero, set_cons_succ]
   refine until_take 13 (v := ?vfd14) (by rfl) (by kernel_rfl) (by exact fun _ _ _ h => h) (by rfl) ?hyfd14 S0.out ?rfd14
   case hyfd14 =>
    intro w hSw
    try dsimp only at hSw
    go_simp
    try with_reducible rfl
   try simp only [Act.put, setIfInBounds_toArray, set_cons_zero, set_cons_succ]
   refine until_take 14 (v := ?vfd15) (by rfl) (by kernel_rfl) (by exact fun _ _ _ h => h) (by rfl) ?hyfd15 S0.out ?rfd15
   case hyfd15 =>
    intro w hSw
    try dsimp only at hSw
    go_simp
    try with_reducible rfl
   try simp only [Act.put, setIfInBounds_toArray, set_cons_zero, set_cons_succ]
   refine until_one 15 (by rfl) (by kernel_rfl) (fun K hK => ?_)
   go_simp
   refine (cL W.drew (HV.out.on (B0.out.drew.mono HBW.out)) (Nat.le_trans HBW.out B0.out.size)).mono ?_
   rintro e W1 ⟨rfl, hb1⟩
   have hb11 : Below W.heap.size W W1 := (Below.refl _ W).drew.trans hb1
   have B1 : Hid (Below w.heap.size w W1) := B0.out.trans (hb11.mono B0.out.size)
   have K1 := K0.out.on hb11 K0.out.lt
   have R1 := R0.out.on hb11 R0.out.lt
   have S1 : Hid (W1.cell? ⟨w.heap.size, 0, none⟩ = some (.int .i64 xt) ∧ W1.cell? ⟨w.heap.size, 1, none⟩ = some (.int .i64 xv) ∧ W1.cell? ⟨w.heap.size, 2, none⟩ = some (.int .i64 xb) ∧ W1.cell? ⟨w.heap.size, 3, none⟩ = some (.int .i64 xbt) ∧ W1.cell? ⟨w.heap.size, 4, none⟩ = some (.slice A n cap) ∧ W1.cell? ⟨w.heap.size + 1, 0, none⟩ = some (.int .i64 2) ∧ W1.cell? ⟨w.heap.size + 1, 1, none⟩ = some (.int .i64 t) ∧ W1.cell? ⟨w.heap.size + 1, 2, none⟩ = some (.int .i64 (xb + (n : Int) + 1)) ∧ W1.cell? ⟨w.heap.size + 1, 3, none⟩ = some (.int .i64 v) ∧ W1.cell? ⟨w.heap.size + 1, 4, none⟩ = some (.string d)) := ⟨K1.cell 0 _ rfl, K1.cell 1 _ rfl, K1.cell 2 _ rfl, K1.cell 3 _ rfl, K1.cell 4 _ rfl, R1.cell 0 _ rfl, R1.cell 1 _ rfl, R1.cell 2 _ rfl, R1.cell 3 _ rfl, R1.cell 4 _ rfl⟩
   clear hb1 hb11 K1 R1
   go_wp2_with fail
   refine hK.out _ _ (fun _ _ => S1.out) ?_
   clear hK K
   try simp only [Act.put, setIfInBounds_toArray, set_cons_zero, set_cons_succ]
   refine until_pure 16 (v := ?vfd16) (by rfl) (by kernel_rfl) (by exact fun _ _ _ h => h) (by rfl) ?hyfd16 ?rfd16
   case hyfd16 =>
    intro w
    go_simp
    try with_reducible rfl
   try simp only [Act.put, setIfInBounds_toArray, set_cons_zero, set_cons_succ]
   refine until_pure 17 (v := ?vfd17) (by rfl) (by kernel_rfl) (by exact fun _ _ _ h => h) (by rfl) ?hyfd17 ?rfd17
   case hyfd17 =>
    intro w
    go_simp
    try with_reducible rfl
   try simp only [Act.put, setIfInBounds_toArray, set_cons_zero, set_cons_succ]
   refine until_pure 18 (v := ?vfd18) (by rfl) (by kernel_rfl) (by exact fun _ _ _ h => h) (by rfl) ?hyfd18 ?rfd18
   case hyfd18 =>
    intro w
    go_simp
    try with_reducible rfl
   try simp only [Act.put, setIfInBounds_toArray, set_cons_zero, set_cons_succ]
   refine until_take 19 (v := ?vfd19) (by rfl) (by kernel_rfl) (by exact fun _ _ _ h => h) (by rfl) ?hyfd19 S1.out ?rfd19
   case hyfd19 =>
    intro w hSw
    try dsimp only at hSw
    go_simp
    try with_reducible rfl
   try simp only [Act.put, setIfInBounds_toArray, set_cons_zero, set_cons_succ]
   refine until_take 20 (v := ?vfd20) (by rfl) (by kernel_rfl) (by exact fun _ _ _ h => h) (by rfl) ?hyfd20 S1.out ?rfd20
   case hyfd20 =>
    intro w hSw
    try dsimp only at hSw
    go_simp
    try with_reducible rfl
   try simp only [Act.put, setIfInBounds_toArray, set_cons_zero, set_cons_succ]
   refine until_take 21 (v := ?vfd21) (by rfl) (by kernel_rfl) (by exact fun _ _ _ h => h) (by rfl) ?hyfd21 S1.out ?rfd21
   case hyfd21 =>
    intro w hSw
    try dsimp only at hSw
    go_simp
    try with_reducible rfl
   try simp only [Act.put, setIfInBounds_toArray, set_cons_zero, set_cons_succ]
   refine until_take 22 (v := ?vfd22) (by rfl) (by kernel_rfl) (by exact fun _ _ _ h => h) (by rfl) ?hyfd22 S1.out ?rfd22
   case hyfd22 =>
    intro w hSw
    try dsimp only at hSw
    go_simp
    try with_reducible rfl
   try simp only [Act.put, setIfInBounds_toArray, set_cons_zero, set_cons_succ]
   refine until_pure 23 (v := ?vfd23) (by rfl) (by kernel_rfl) (by exact fun _ _ _ h => h) (by rfl) ?hyfd23 ?rfd23
   case hyfd23 =>
    intro w
    go_simp
    try with_reducible rfl
   try simp only [Act.put, setIfInBounds_toArray, set_cons_zero, set_cons_succ]
   refine until_pure 24 (v := ?vfd24) (by rfl) (by kernel_rfl) (by exact fun _ _ _ h => h) (by rfl) ?hyfd24 ?rfd24
   case hyfd24 =>
    intro w
    go_simp
    try with_reducible rfl
   try simp only [Act.put, setIfInBounds_toArray, set_cons_zero, set_cons_succ]
   refine until_pure 25 (v := ?vfd25) (by rfl) (by kernel_rfl) (by exact fun _ _ _ h => h) (by rfl) ?hyfd25 ?rfd25
   case hyfd25 =>
    intro w
    go_simp
    try with_reducible rfl
   try simp only [Act.put, setIfInBounds_toArray, set_cons_zero, set_cons_succ]
   refine until_done (by kernel_rfl) ?_ _
   go_wp2_with fail
   go_ret
   exact ⟨by rw [HE.out]; rfl, B1.out⟩
  have HE : Hid (recFits ⟨xt, xv, xb, xbt, es⟩ ⟨2, t, xb + (n : Int) + 1, v, d⟩ = true) := by unfold Hid recFits; simp [b, c, e, hN, hla]
  have zc : decide (la ≤ t) = true := decide_eq_true c
  have ze : decide (t ≤ xt) = true := decide_eq_true e
  go_enter Try.func22, Try.ntmps22
  go_wp2_with fail
  have b0 : Below w.heap.size w ((w.alloc (.cells #[.int .i64 xt, .int .i64 xv, .int .i64 xb, .int .i64 xbt, .slice A n cap] 26)).alloc (.cells #[.int .i64 2, .int .i64 t, .int .i64 (xb + (n : Int) + 1), .int .i64 v, .string d] 35)) := below_alloc2 w _ _
  have k0 := (Blk.new w #[.int .i64 xt, .int .i64 xv, .int .i64 xb, .int .i64 xbt, .slice A n cap] 26).alloc (.cells #[.int .i64 2, .int .i64 t, .int .i64 (xb + (n : Int) + 1), .int .i64 v, .string d] 35)
  have r0 := Blk.new (w.alloc (.cells #[.int .i64 xt, .int .i64 xv, .int .i64 xb, .int .i64 xbt, .slice A n cap] 26)) #[.int .i64 2, .int .i64 t, .int .i64 (xb + (n : Int) + 1), .int .i64 v, .string d] 35
  simp only [World.size_alloc] at r0
  generalize (w.alloc (.cells #[.int .i64 xt, .int .i64 xv, .int .i64 xb, .int .i64 xbt, .slice A n cap] 26)).alloc (.cells #[.int .i64 2, .int .i64 t, .int .i64 (xb + (n : Int) + 1), .int .i64 v, .string d] 35) = W at *
  have B0 : Hid (Below w.heap.size w W) := b0
  have K0 : Hid (Blk W w.heap.size #[.int .i64 xt, .int .i64 xv, .int .i64 xb, .int .i64 xbt, .slice A n cap] 26) := k0
  have R0 : Hid (Blk W (w.heap.size + 1) #[.int .i64 2, .int .i64 t, .int .i64 (xb + (n : Int) + 1), .int .i64 v, .string d] 35) := r0
  clear b0 k0 r0
  have S0 : Hid (W.drew.cell? ⟨w.heap.size, 0, none⟩ = some (.int .i64 xt) ∧ W.drew.cell? ⟨w.heap.size, 1, none⟩ = some (.int .i64 xv) ∧ W.drew.cell? ⟨w.heap.size, 2, none⟩ = some (.int .i64 xb) ∧ W.drew.cell? ⟨w.heap.size, 3, none⟩ = some (.int .i64 xbt) ∧ W.drew.cell? ⟨w.heap.size, 4, none⟩ = some (.slice A n cap) ∧ W.drew.cell? ⟨w.heap.size + 1, 0, none⟩ = some (.int .i64 2) ∧ W.drew.cell? ⟨w.heap.size + 1, 1, none⟩ = some (.int .i64 t) ∧ W.drew.cell? ⟨w.heap.size + 1, 2, none⟩ = some (.int .i64 (xb + (n : Int) + 1)) ∧ W.drew.cell? ⟨w.heap.size + 1, 3, none⟩ = some (.int .i64 v) ∧ W.drew.cell? ⟨w.heap.size + 1, 4, none⟩ = some (.string d)) := ⟨K0.out.cell 0 _ rfl, K0.out.cell 1 _ rfl, K0.out.cell 2 _ rfl, K0.out.cell 3 _ rfl, K0.out.cell 4 _ rfl, R0.out.cell 0 _ rfl, R0.out.cell 1 _ rfl, R0.out.cell 2 _ rfl, R0.out.cell 3 _ rfl, R0.out.cell 4 _ rfl⟩
  refine wp_region_until (fun w' => w'.cell? ⟨w.heap.size, 0, none⟩ = some (.int .i64 xt) ∧ w'.cell? ⟨w.heap.size, 1, none⟩ = some (.int .i64 xv) ∧ w'.cell? ⟨w.heap.size, 2, none⟩ = some (.int .i64 xb) ∧ w'.cell? ⟨w.heap.size, 3, none⟩ = some (.int .i64 xbt) ∧ w'.cell? ⟨w.heap.size, 4, none⟩ = some (.slice A n cap) ∧ w'.cell? ⟨w.heap.size + 1, 0, none⟩ = some (.int .i64 2) ∧ w'.cell? ⟨w.heap.size + 1, 1, none⟩ = some (.int .i64 t) ∧ w'.cell? ⟨w.heap.size + 1, 2, none⟩ = some (.int .i64 (xb + (n : Int) + 1)) ∧ w'.cell? ⟨w.heap.size + 1, 3, none⟩ = some (.int .i64 v) ∧ w'.cell? ⟨w.heap.size + 1, 4, none⟩ = some (.string d)) (fun i => false) 26 (by rfl) (by kernel_rfl) ?_
  refine until_take 0 (v := ?vfe1) (by rfl) (by kernel_rfl) (by exact fun _ _ _ h => h) (by rfl) ?hyfe1 S0.out ?rfe1
  case hyfe1 =>
   intro w hSw
   try dsimp only at hSw
   go_simp
   try with_reducible rfl
  try simp only [Act.put, setIfInBounds_toArray, set_cons_zero, set_cons_succ]
  refine until_take 1 (v := ?vfe2) (by rfl) (by kernel_rfl) (by exact fun _ _ _ h => h) (by rfl) ?hyfe2 S0.out ?rfe2
  case hyfe2 =>
   intro w hSw
   try dsimp only at hSw
   go_simp
   try with_reducible rfl
  try simp only [Act.put, setIfInBounds_toArray, set_cons_zero, set_cons_succ]
  refine until_pure 2 (v := ?vfe3) (by rfl) (by kernel_rfl) (by exact fun _ _ _ h => h) (by rfl) ?hyfe3 ?rfe3
  case hyfe3 =>
   intro w
   go_simp
   try with_reducible rfl
  try simp only [Act.put, setIfInBounds_toArray, set_cons_zero, set_cons_succ]
  refine until_pure 3 (v := ?vfe4) (by rfl) (by kernel_rfl) (by exact fun _ _ _ h => h) (by rfl) ?hyfe4 ?rfe4
  case hyfe4 =>
   intro w
   go_simp
   try with_reducible rfl
  try simp only [Act.put, setIfInBounds_toArray, set_cons_zero, set_cons_succ]
  refine until_pure 4 (v := ?vfe5) (by rfl) (by kernel_rfl) (by exact fun _ _ _ h => h) (by rfl) ?hyfe5 ?rfe5
  case hyfe5 =>
   intro w
   go_simp
   try with_reducible rfl
  try simp only [Act.put, setIfInBounds_toArray, set_cons_zero, set_cons_succ]
  refine until_pure 5 (v := ?vfe6) (by rfl) (by kernel_rfl) (by exact fun _ _ _ h => h) (by rfl) ?hyfe6 ?rfe6
  case hyfe6 =>
   intro w
   go_simp
   try with_reducible rfl
  try simp only [Act.put, setIfInBounds_toArray, set_cons_zero, set_cons_succ]
  refine until_take 6 (v := ?vfe7) (by rfl) (by kernel_rfl) (by exact fun _ _ _ h => h) (by rfl) ?hyfe7 S0.out ?rfe7
  case hyfe7 =>
   intro w hSw
   try dsimp only at hSw
   go_simp
   try with_reducible rfl
  try simp only [Act.put, setIfInBounds_toArray, set_cons_zero, set_cons_succ]
  refine until_take 7 (v := ?vfe8) (by rfl) (by kernel_rfl) (by exact fun _ _ _ h => h) (by rfl) ?hyfe8 S0.out ?rfe8
  case hyfe8 =>
   intro w hSw
   try dsimp only at hSw
   go_simp
   try with_reducible rfl
  try simp only [Act.put, setIfInBounds_toArray, set_cons_zero, set_cons_succ]
  refine until_pure 8 (v := ?vfe9) (by rfl) (by kernel_rfl) (by exact fun _ _ _ h => h) (by rfl) ?hyfe9 ?rfe9
  case hyfe9 =>
   intro w
   go_simp
   try with_reducible rfl
  try simp only [Act.put, setIfInBounds_toArray, set_cons_zero, set_cons_succ]
  refine until_pure 9 (v := ?vfe10) (by rfl) (by kernel_rfl) (by exact fun _ _ _ h => h) (by rfl) ?hyfe10 ?rfe10
  case hyfe10 =>
   intro w
   go_simp
   try with_reducible rfl
  try simp only [Act.put, setIfInBounds_toArray, set_cons_zero, set_cons_succ]
  refine until_pure 10 (v := ?vfe11) (by rfl) (by kernel_rfl) (by exact fun _ _ _ h => h) (by rfl) ?hyfe11 ?rfe11
  case hyfe11 =>
   intro w
   go_simp
   try with_reducible rfl
  try simp only [Act.put, setIfInBounds_toArray, set_cons_zero, set_cons_succ]
  refine until_pure 11 (v := ?vfe12) (by rfl) (by kernel_rfl) (by exact fun _ _ _ h => h) (by rfl) ?hyfe12 ?rfe12
  case hyfe12 =>
   intro w
   go_simp
   try with_reducible rfl
  try simp only [Act.put, setIfInBounds_toArray, set_cons_zero, set_cons_succ]
  refine until_take 12 (v := ?vfe13) (by rfl) (by kernel_rfl) (by exact fun _ _ _ h => h) (by rfl) ?hyfe13 S0.out ?rfe13
  case hyfe13 =>
   intro w hSw
   try dsimp only at hSw
   go_simp
   try with_reducible rfl
  try simp only [Act.put, setIfInBounds_toArray, set_cons_zero, set_cons_succ]
  refine until_take 13 (v := ?vfe14) (by rfl) (by kernel_rfl) (by exact fun _ _ _ h => h) (by rfl) ?hyfe14 S0.out ?rfe14
  case hyfe14 =>
   intro w hSw
   try dsimp only at hSw
   go_simp
   try with_reducible rfl
  try simp only [Act.put, setIfInBounds_toArray, set_cons_zero, set_cons_succ]
  refine until_take 14 (v := ?vfe15) (by rfl) (by kernel_rfl) (by exact fun _ _ _ h => h) (by rfl) ?hyfe15 S0.out ?rfe15
  case hyfe15 =>
   intro w hSw
   try dsimp only at hSw
   go_simp
   try with_reducible rfl
  try simp only [Act.put, setIfInBounds_toArray, set_cons_zero, set_cons_succ]
  refine until_one 15 (by rfl) (by kernel_rfl) (fun K hK => ?_)
  go_simp
  refine (cL W.drew (HV.out.on (B0.out.drew.mono HBW.out)) (Nat.le_trans HBW.out B0.out.size)).mono ?_
  rintro e W1 ⟨rfl, hb1⟩
  have hb11 : Below W.heap.size W W1 := (Below.refl _ W).drew.trans hb1
  have B1 : Hid (Below w.heap.size w W1) := B0.out.trans (hb11.mono B0.out.size)
  have K1 := K0.out.on hb11 K0.out.lt
  have R1 := R0.out.on hb11 R0.out.lt
  have S1 : Hid (W1.cell? ⟨w.heap.size, 0, none⟩ = some (.int .i64 xt) ∧ W1.cell? ⟨w.heap.size, 1, none⟩ = some (.int .i64 xv) ∧ W1.cell? ⟨w.heap.size, 2, none⟩ = some (.int .i64 xb) ∧ W1.cell? ⟨w.heap.size, 3, none⟩ = some (.int .i64 xbt) ∧ W1.cell? ⟨w.heap.size, 4, none⟩ = some (.slice A n cap) ∧ W1.cell? ⟨w.heap.size + 1, 0, none⟩ = some (.int .i64 2) ∧ W1.cell? ⟨w.heap.size + 1, 1, none⟩ = some (.int .i64 t) ∧ W1.cell? ⟨w.heap.size + 1, 2, none⟩ = some (.int .i64 (xb + (n : Int) + 1)) ∧ W1.cell? ⟨w.heap.size + 1, 3, none⟩ = some (.int .i64 v) ∧ W1.cell? ⟨w.heap.size + 1, 4, none⟩ = some (.string d)) := ⟨K1.cell 0 _ rfl, K1.cell 1 _ rfl, K1.cell 2 _ rfl, K1.cell 3 _ rfl, K1.cell 4 _ rfl, R1.cell 0 _ rfl, R1.cell 1 _ rfl, R1.cell 2 _ rfl, R1.cell 3 _ rfl, R1.cell 4 _ rfl⟩
  clear hb1 hb11 K1 R1
  go_wp2_with fail
  refine hK.out _ _ (fun _ _ => S1.out) ?_
  clear hK K
  try simp only [Act.put, setIfInBounds_toArray, set_cons_zero, set_cons_succ]
  refine until_pure 16 (v := ?vfe16) (by rfl) (by kernel_rfl) (by exact fun _ _ _ h => h) (by rfl) ?hyfe16 ?rfe16
  case hyfe16 =>
   intro w
   go_simp
   try with_reducible rfl
  try simp only [Act.put, setIfInBounds_toArray, set_cons_zero, set_cons_succ]
  refine until_pure 17 (v := ?vfe17) (by rfl) (by kernel_rfl) (by exact fun _ _ _ h => h) (by rfl) ?hyfe17 ?rfe17
  case hyfe17 =>
   intro w
   go_simp
   try with_reducible rfl
  try simp only [Act.put, setIfInBounds_toArray, set_cons_zero, set_cons_succ]
  refine until_pure 18 (v := ?vfe18) (by rfl) (by kernel_rfl) (by exact fun _ _ _ h => h) (by rfl) ?hyfe18 ?rfe18
  case hyfe18 =>
   intro w
   go_simp
   try with_reducible rfl
  try simp only [Act.put, setIfInBounds_toArray, set_cons_zero, set_cons_succ]
  refine until_take 19 (v := ?vfe19) (by rfl) (by kernel_rfl) (by exact fun _ _ _ h => h) (by rfl) ?hyfe19 S1.out ?rfe19
  case hyfe19 =>
   intro w hSw
   try dsimp only at hSw
   go_simp
   try with_reducible rfl
  try simp only [Act.put, setIfInBounds_toArray, set_cons_zero, set_cons_succ]
  refine until_take 20 (v := ?vfe20) (by rfl) (by kernel_rfl) (by exact fun _ _ _ h => h) (by rfl) ?hyfe20 S1.out ?rfe20
  case hyfe20 =>
   intro w hSw
   try dsimp only at hSw
   go_simp
   try with_reducible rfl
  try simp only [Act.put, setIfInBounds_toArray, set_cons_zero, set_cons_succ]
  refine until_take 21 (v := ?vfe21) (by rfl) (by kernel_rfl) (by exact fun _ _ _ h => h) (by rfl) ?hyfe21 S1.out ?rfe21
  case hyfe21 =>
   intro w hSw
   try dsimp only at hSw
   go_simp
   try with_reducible rfl
  try simp only [Act.put, setIfInBounds_toArray, set_cons_zero, set_cons_succ]
  refine until_take 22 (v := ?vfe22) (by rfl) (by kernel_rfl) (by exact fun _ _ _ h => h) (by rfl) ?hyfe22 S1.out ?rfe22
  case hyfe22 =>
   intro w hSw
   try dsimp only at hSw
   go_simp
   try with_reducible rfl
  try simp only [Act.put, setIfInBounds_toArray, set_cons_zero, set_cons_succ]
  refine until_pure 23 (v := ?vfe23) (by rfl) (by kernel_rfl) (by exact fun _ _ _ h => h) (by rfl) ?hyfe23 ?rfe23
  case hyfe23 =>
   intro w
   go_simp
   try with_reducible rfl
  try simp only [Act.put, setIfInBounds_toArray, set_cons_zero, set_cons_succ]
  refine until_pure 24 (v := ?vfe24) (by rfl) (by kernel_rfl) (by exact fun _ _ _ h => h) (by rfl) ?hyfe24 ?rfe24
  case hyfe24 =>
   intro w
   go_simp
   try with_reducible rfl
  try simp only [Act.put, setIfInBounds_toArray, set_cons_zero, set_cons_succ]
  refine until_pure 25 (v := ?vfe25) (by rfl) (by kernel_rfl) (by exact fun _ _ _ h => h) (by rfl) ?hyfe25 ?rfe25
  case hyfe25 =>
   intro w
   go_simp
   try with_reducible rfl
  try simp only [Act.put, setIfInBounds_toArray, set_cons_zero, set_cons_succ]
  refine until_done (by kernel_rfl) ?_ _
  go_wp2_with fail
  go_ret
  exact ⟨by rw [HE.out]; rfl, B1.out⟩
 by_cases k3 : k = 3
 ·subst k3
  have HB : Hid (Below w.heap.size w ((w.alloc (.cells #[.int .i64 xt, .int .i64 xv, .int .i64 xb, .int .i64 xbt, .slice A n cap] 26)).alloc (.cells #[.int .i64 3, .int .i64 t, .int .i64 i, .int .i64 v, .string d] 35))) := below_alloc2 w _ _
  by_cases a : xb < i
  rotate_left
  ·have a' : i ≤ xb := by omega
   have HE : Hid (recFits ⟨xt, xv, xb, xbt, es⟩ ⟨3, t, i, v, d⟩ = false) := by unfold Hid recFits; simp [a]
   go_enter Try.func22, Try.ntmps22
   go_wp2_with fail
   go_ret
   exact ⟨by rw [HE.out]; rfl, HB.out⟩
  by_cases b : i ≤ xb + (n : Int)
  ·have HE : Hid (recFits ⟨xt, xv, xb, xbt, es⟩ ⟨3, t, i, v, d⟩ = true) := by unfold Hid recFits; simp [a, b, hN]
   go_enter Try.func22, Try.ntmps22
   go_wp2_with fail
   go_ret
   exact ⟨by rw [HE.out]; rfl, HB.out⟩
  ·have b' : xb + (n : Int) < i := by omega
   have HE : Hid (recFits ⟨xt, xv, xb, xbt, es⟩ ⟨3, t, i, v, d⟩ = false) := by unfold Hid recFits; simp [a, b, hN]
   go_enter Try.func22, Try.ntmps22
   go_wp2_with fail
   go_ret
   exact ⟨by rw [HE.out]; rfl, HB.out⟩
 have HB : Hid (Below w.heap.size w ((w.alloc (.cells #[.int .i64 xt, .int .i64 xv, .int .i64 xb, .int .i64 xbt, .slice A n cap] 26)).alloc (.cells #[.int .i64 k, .int .i64 t, .int .i64 i, .int .i64 v, .string d] 35))) := below_alloc2 w _ _
 have HE : Hid (recFits ⟨xt, xv, xb, xbt, es⟩ ⟨k, t, i, v, d⟩ = false) := by unfold Hid recFits; simp [k1, k2, k3]
 have y1 : (k == 1) = false := by simpa using k1
 have y2 : (k == 2) = false := by simpa using k2
 have y3 : (k == 3) = false := by simpa using k3
 go_enter Try.func22, Try.ntmps22
 go_wp2_with fail
 go_ret
 exact ⟨by rw [HE.out]; rfl, HB.out⟩
end Go.Proofs.Ytfmannphobjgpaa
