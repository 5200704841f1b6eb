/- BtZig BtAid BtRd BtRow BtDef BtMath -/
import Derived.Test.YtimfnbnffibgpaaGreatDoorRows
import Derived.Test.YtimfnbnffibgpaaGreatDoorQw0
import Derived.Test.YtimfnbnffibgpaaGreatDoorQw3
open List (setIfInBounds_toArray set_cons_zero set_cons_succ)
namespace Go.Proofs.YtimfnbnffibgpaaGreatDoor
open Go.ChangeShapes Go.WideShapes Go.ChangeAt Go.RowKit Go.PlainAid
set_option linter.unusedVariables false
def zig (n : Int) : Int := if n < -140737488355328 ∨ 140737488355328 < n then -1 else if n < 0 then -2 * n - 1 else 2 * n
def unz (z : Int) : Int := if z < 0 ∨ 281474976710656 < z then 0 else if z % 2 = 1 then -((z + 1) / 2) else z / 2
def zok (z : Int) : Bool := decide (0 ≤ z ∧ z ≤ 281474976710656)
theorem zig_range (n : Int) : -1 ≤ zig n ∧ zig n ≤ 281474976710656 := by unfold zig; (repeat' split) <;> omega
theorem zig_pos (n : Int) (h1 : -140737488355328 ≤ n) (h2 : n ≤ 140737488355328) : 0 ≤ zig n := by unfold zig; (repeat' split) <;> omega
theorem unz_range (z : Int) : -140737488355328 ≤ unz z ∧ unz z ≤ 140737488355328 := by unfold unz; (repeat' split) <;> omega
theorem unz_zig (n : Int) (h1 : -140737488355328 ≤ n) (h2 : n ≤ 140737488355328) : unz (zig n) = n := by
 unfold zig
 rw [if_neg (by omega)]
 by_cases h : n < 0
 ·rw [if_pos h]; unfold unz; rw [if_neg (by omega), if_pos (by omega)]; omega
 ·rw [if_neg h]; unfold unz; rw [if_neg (by omega), if_neg (by omega)]; omega
theorem zig_unz (z : Int) (h1 : 0 ≤ z) (h2 : z ≤ 281474976710656) : zig (unz z) = z := by
 unfold unz
 rw [if_neg (by omega)]
 by_cases h : z % 2 = 1
 ·rw [if_pos h]; unfold zig; rw [if_neg (by omega), if_pos (by omega)]; omega
 ·rw [if_neg h]; unfold zig; rw [if_neg (by omega), if_neg (by omega)]; omega
set_option maxHeartbeats 400000 in
theorem impl_zig (n : Int) (w : World) (hn1 : -9223372036854775808 ≤ n) (hn2 : n ≤ 9223372036854775807) : Calls Tryz.prog 140 #[.int .i64 n] w fun e w' => e = .returned (.int .i64 (zig n)) ∧ w = w' := by
 by_cases h1 : n < -140737488355328
 ·have e : zig n = -1 := by unfold zig; rw [if_pos (by omega)]
  rw [e]
  go_enter Tryz.func140, Tryz.ntmps140
  go_wp2
  go_ret
  exact ⟨rfl, rfl⟩
 by_cases h2 : 140737488355328 < n
 ·have e : zig n = -1 := by unfold zig; rw [if_pos (by omega)]
  rw [e]
  go_enter Tryz.func140, Tryz.ntmps140
  go_wp2
  go_ret
  exact ⟨rfl, rfl⟩
 by_cases h3 : n < 0
 ·have e : zig n = -2 * n - 1 := by unfold zig; rw [if_neg (by omega), if_pos h3]
  rw [e]
  go_enter Tryz.func140, Tryz.ntmps140
  go_wp2
  go_ret
  exact ⟨by go_num, rfl⟩
 ·have e : zig n = 2 * n := by unfold zig; rw [if_neg (by omega), if_neg h3]
  rw [e]
  go_enter Tryz.func140, Tryz.ntmps140
  go_wp2
  go_ret
  exact ⟨by go_num, rfl⟩
set_option maxHeartbeats 400000 in
theorem spec_zig (n : Int) (w : World) (hn1 : -9223372036854775808 ≤ n) (hn2 : n ≤ 9223372036854775807) : Calls Tryz.prog 120 #[.int .i64 n] w fun e w' => e = .returned (.int .i64 (zig n)) ∧ w = w' := by
 by_cases h1 : n < -140737488355328 ∨ 140737488355328 < n
 ·have e : zig n = -1 := by unfold zig; rw [if_pos h1]
  rw [e]
  have c := fun wx => in_no n (-140737488355328) 140737488355328 wx h1
  go_enter Tryz.func120, Tryz.ntmps120
  go_wp2_with (go_at_call 20; refine (c _).mono ?_; rintro e w' ⟨rfl, rfl⟩)
  go_ret
  exact ⟨rfl, rfl⟩
 have c := fun wx => in_yes n (-140737488355328) 140737488355328 wx (by omega) (by omega)
 by_cases h3 : n < 0
 ·have e : zig n = -2 * n - 1 := by unfold zig; rw [if_neg (by omega), if_pos h3]
  rw [e]
  have q1 : -140737488355328 ≤ n := by omega
  clear h1
  go_enter Tryz.func120, Tryz.ntmps120
  go_wp2_with (go_at_call 20; refine (c _).mono ?_; rintro e w' ⟨rfl, rfl⟩)
  go_ret
  exact ⟨by go_num, rfl⟩
 ·have e : zig n = 2 * n := by unfold zig; rw [if_neg (by omega), if_neg h3]
  rw [e]
  have q1 : n ≤ 140737488355328 := by omega
  clear h1
  go_enter Tryz.func120, Tryz.ntmps120
  go_wp2_with (go_at_call 20; refine (c _).mono ?_; rintro e w' ⟨rfl, rfl⟩)
  go_ret
  exact ⟨by go_num, rfl⟩
set_option maxHeartbeats 400000 in
theorem impl_unz (z : Int) (w : World) (hn1 : -9223372036854775808 ≤ z) (hn2 : z ≤ 9223372036854775807) : Calls Tryz.prog 135 #[.int .i64 z] w fun e w' => e = .returned (.tuple #[.int .i64 (unz z), .bool (zok z)]) ∧ w = w' := by
 by_cases h1 : z < 0
 ·have e : unz z = 0 := by unfold unz; rw [if_pos (by omega)]
  have e2 : zok z = false := by unfold zok; exact decide_eq_false (by omega)
  rw [e, e2]
  go_enter Tryz.func135, Tryz.ntmps135
  go_wp2
  go_ret2
  exact ⟨rfl, rfl⟩
 by_cases h2 : 281474976710656 < z
 ·have e : unz z = 0 := by unfold unz; rw [if_pos (by omega)]
  have e2 : zok z = false := by unfold zok; exact decide_eq_false (by omega)
  rw [e, e2]
  go_enter Tryz.func135, Tryz.ntmps135
  go_wp2
  go_ret2
  exact ⟨rfl, rfl⟩
 have e2 : zok z = true := by unfold zok; exact decide_eq_true (by omega)
 have q0 : 0 ≤ z := by omega
 by_cases h3 : z % 2 = 1
 ·have e : unz z = -((z + 1) / 2) := by unfold unz; rw [if_neg (by omega), if_pos h3]
  have d1 : Int.tdiv (-(z + 1)) 2 = -((z + 1) / 2) := by rw [Int.neg_tdiv, Int.tdiv_eq_ediv_of_nonneg (by omega)]
  rw [e, e2]
  have d2 : wrap64 (-(z + 1)) = -(z + 1) := by unfold wrap64; omega
  go_enter Tryz.func135, Tryz.ntmps135
  go_wp2
  go_ret2
  exact ⟨by go_num, rfl⟩
 ·have e : unz z = z / 2 := by unfold unz; rw [if_neg (by omega), if_neg h3]
  rw [e, e2]
  go_enter Tryz.func135, Tryz.ntmps135
  go_wp2
  go_ret2
  exact ⟨by go_num, rfl⟩
set_option maxHeartbeats 400000 in
theorem spec_unz (z : Int) (w : World) (hn1 : -9223372036854775808 ≤ z) (hn2 : z ≤ 9223372036854775807) : Calls Tryz.prog 118 #[.int .i64 z] w fun e w' => e = .returned (.tuple #[.int .i64 (unz z), .bool (zok z)]) ∧ w = w' := by
 by_cases h1 : z < 0
 ·have e : unz z = 0 := by unfold unz; rw [if_pos (by omega)]
  have e2 : zok z = false := by unfold zok; exact decide_eq_false (by omega)
  rw [e, e2]
  go_enter Tryz.func118, Tryz.ntmps118
  go_wp2
  go_ret2
  exact ⟨rfl, rfl⟩
 by_cases h2 : 281474976710656 < z
 ·have e : unz z = 0 := by unfold unz; rw [if_pos (by omega)]
  have e2 : zok z = false := by unfold zok; exact decide_eq_false (by omega)
  rw [e, e2]
  go_enter Tryz.func118, Tryz.ntmps118
  go_wp2
  go_ret2
  exact ⟨rfl, rfl⟩
 have e2 : zok z = true := by unfold zok; exact decide_eq_true (by omega)
 have q0 : 0 ≤ z := by omega
 have c := fun wx => spec_zig (unz z) wx (by have := unz_range z; omega) (by have := unz_range z; omega)
 rw [zig_unz z (by omega) (by omega)] at c
 by_cases h3 : z % 2 = 1
 ·have e : unz z = -(z / 2) - 1 := by unfold unz; rw [if_neg (by omega), if_pos h3]; omega
  rw [e] at c
  rw [e, e2]
  go_enter Tryz.func118, Tryz.ntmps118
  go_wp2_with (go_at_call 120; refine (c _).mono ?_; rintro e w' ⟨rfl, rfl⟩)
  go_ret2
  exact ⟨by go_num, rfl⟩
 ·have e : unz z = z / 2 := by unfold unz; rw [if_neg (by omega), if_neg h3]
  rw [e] at c
  rw [e, e2]
  go_enter Tryz.func118, Tryz.ntmps118
  go_wp2_with (go_at_call 120; refine (c _).mono ?_; rintro e w' ⟨rfl, rfl⟩)
  go_ret2
  exact ⟨by go_num, rfl⟩
end Go.Proofs.YtimfnbnffibgpaaGreatDoor
namespace Go.Proofs.YtimfnbnffibgpaaGreatDoor
open Go.RowKit Go.PlainAid
def prv (l : List Int) (k : Nat) : Int := if k = 0 then 0 else l.getD (k - 1) 0
def dif (l : List Int) (k : Nat) : Int := l.getD k 0 - prv l k
theorem prv_succ (l : List Int) (k : Nat) : prv l (k + 1) = l.getD k 0 := by simp [prv]
def vPiece (l : List Int) (i : Nat) : List UInt8 := vF 6 (zig (dif l i)).toNat
def turn (l : List Int) (i : Nat) : Int := if i ≤ 1 then dif l i else zig (dif l i - dif l (i - 1))
def tPiece (l : List Int) (i : Nat) : List UInt8 := vF 6 (turn l i).toNat
def cat (f : Nat → List UInt8) (k : Nat) : List UInt8 := (List.range k).flatMap f
theorem cat_zero (f : Nat → List UInt8) : cat f 0 = [] := rfl
theorem cat_succ (f : Nat → List UInt8) (k : Nat) : cat f (k + 1) = cat f k ++ f k := by simp [cat, List.range_succ, List.flatMap_append]
theorem cat_length (f : Nat → List UInt8) (hf : ∀ i, (f i).length ≤ 7) (k : Nat) : (cat f k).length ≤ 7 * k := by
 induction k with
 | zero => simp [cat_zero]
 | succ k ih => rw [cat_succ, List.length_append]; have := hf k; omega
theorem vPiece_length (l : List Int) (i : Nat) : (vPiece l i).length ≤ 7 := by have := vF_length 6 (zig (dif l i)).toNat; unfold vPiece; omega
theorem tPiece_length (l : List Int) (i : Nat) : (tPiece l i).length ≤ 7 := by have := vF_length 6 (turn l i).toNat; unfold tPiece; omega
def VOk (l : List Int) : Prop := 1 ≤ l.length ∧ l.length ≤ 60 ∧ ∀ j, j < l.length → -1099511627776 ≤ l.getD j 0 ∧ l.getD j 0 ≤ 1099511627776
instance (l : List Int) : Decidable (VOk l) := by unfold VOk; infer_instance
def TOk (l : List Int) : Prop := 1 ≤ l.length ∧ l.length ≤ 60 ∧ ∀ j, j < l.length → (0 ≤ l.getD j 0 ∧ l.getD j 0 ≤ 1099511627776) ∧ (0 < j → l.getD (j - 1) 0 < l.getD j 0)
instance (l : List Int) : Decidable (TOk l) := by unfold TOk; infer_instance
def showV (l : List Int) : ByteArray := if VOk l then txt (cat (vPiece l) l.length) else txt []
def showT (l : List Int) : ByteArray := if TOk l then txt (cat (tPiece l) l.length) else txt []
theorem VOk.prv {l : List Int} (h : VOk l) (j : Nat) (hj : j ≤ l.length) : -1099511627776 ≤ prv l j ∧ prv l j ≤ 1099511627776 := by
 unfold Go.Proofs.YtimfnbnffibgpaaGreatDoor.prv
 split
 ·omega
 ·exact h.2.2 (j - 1) (by omega)
theorem VOk.dif {l : List Int} (h : VOk l) (j : Nat) (hj : j < l.length) : -2199023255552 ≤ dif l j ∧ dif l j ≤ 2199023255552 := by
 have h1 := h.prv j (by omega)
 have h2 := h.2.2 j hj
 unfold Go.Proofs.YtimfnbnffibgpaaGreatDoor.dif
 omega
theorem TOk.prv {l : List Int} (h : TOk l) (j : Nat) (hj : j ≤ l.length) : 0 ≤ prv l j ∧ prv l j ≤ 1099511627776 := by
 unfold Go.Proofs.YtimfnbnffibgpaaGreatDoor.prv
 split
 ·omega
 ·exact (h.2.2 (j - 1) (by omega)).1
theorem TOk.dif {l : List Int} (h : TOk l) (j : Nat) (hj : j < l.length) : 0 ≤ dif l j ∧ dif l j ≤ 1099511627776 := by
 have h1 := h.prv j (by omega)
 have h2 := h.2.2 j hj
 unfold Go.Proofs.YtimfnbnffibgpaaGreatDoor.dif
 refine ⟨?_, by omega⟩
 unfold Go.Proofs.YtimfnbnffibgpaaGreatDoor.prv
 split
 ·omega
 ·have := h2.2 (by omega)
  omega
theorem TOk.turn {l : List Int} (h : TOk l) (j : Nat) (hj : j < l.length) : 0 ≤ turn l j ∧ turn l j ≤ 281474976710656 := by
 unfold Go.Proofs.YtimfnbnffibgpaaGreatDoor.turn
 have h1 := h.dif j hj
 split
 ·omega
 ·have h2 := h.dif (j - 1) (by omega)
  exact ⟨zig_pos _ (by omega) (by omega), (zig_range _).2⟩
end Go.Proofs.YtimfnbnffibgpaaGreatDoor
namespace Go.Proofs.YtimfnbnffibgpaaGreatDoor
open Go.ChangeShapes Go.WideShapes Go.ChangeAt Go.RowKit Go.PlainAid
set_option linter.unusedVariables false
def Rd (s : ByteArray) : Nat → List Int → Nat → Prop
 | 0, l, n => l = [] ∧ n = 0
 | k + 1, l, n => ∃ l' n' m, Rd s k l' n' ∧ FindV (s.extract n' s.size) m ∧ l = l' ++ [(vvS (s.extract n' s.size) 0 m : Int)] ∧ n = n' + m
def RdNo (s : ByteArray) (k : Nat) : Prop := ∃ j l n, j < k ∧ Rd s j l n ∧ ∀ m, ¬ FindV (s.extract n s.size) m
theorem Rd.one {s : ByteArray} : ∀ {k : Nat} {l l' : List Int} {n n' : Nat}, Rd s k l n → Rd s k l' n' → l = l' ∧ n = n'
 | 0, _, _, _, _, h, h' => ⟨h.1.trans h'.1.symm, h.2.trans h'.2.symm⟩
 | k + 1, _, _, _, _, ⟨a, b, m, h1, h2, h3, h4⟩, ⟨a', b', m', h1', h2', h3', h4'⟩ => by
  obtain ⟨rfl, rfl⟩ := Rd.one h1 h1'
  have := h2.one h2'
  subst this
  exact ⟨h3.trans h3'.symm, h4.trans h4'.symm⟩
theorem Rd.before {s : ByteArray} : ∀ {k : Nat} {l : List Int} {n : Nat}, Rd s k l n → ∀ j, j < k → ∃ l' n' m, Rd s j l' n' ∧ FindV (s.extract n' s.size) m
 | 0, _, _, _, j, hj => by omega
 | k + 1, _, _, ⟨a, b, m, h1, h2, h3, h4⟩, j, hj => by
  by_cases e : j = k
  ·subst e; exact ⟨a, b, m, h1, h2⟩
  ·exact Rd.before h1 j (by omega)
theorem Rd.no {s : ByteArray} {k : Nat} {l : List Int} {n : Nat} (h : Rd s k l n) : ¬ RdNo s k := by
 rintro ⟨j, l', n', hj, h1, h2⟩
 obtain ⟨l2, n2, m, h3, h4⟩ := h.before j hj
 obtain ⟨rfl, rfl⟩ := h1.one h3
 exact h2 m h4
theorem Rd.length {s : ByteArray} : ∀ {k : Nat} {l : List Int} {n : Nat}, Rd s k l n → l.length = k
 | 0, _, _, h => by rw [h.1]; rfl
 | k + 1, _, _, ⟨a, b, m, h1, h2, h3, h4⟩ => by rw [h3, List.length_append, Rd.length h1]; rfl
theorem Rd.le {s : ByteArray} : ∀ {k : Nat} {l : List Int} {n : Nat}, Rd s k l n → k ≤ n ∧ n ≤ s.size
 | 0, _, _, h => by rw [h.2]; omega
 | k + 1, _, _, ⟨a, b, m, h1, h2, h3, h4⟩ => by
  have h5 := Rd.le h1
  obtain ⟨h6, h7, h8, _⟩ := h2
  rw [ByteArray.size_extract] at h8
  omega
theorem Rd.bound {s : ByteArray} : ∀ {k : Nat} {l : List Int} {n : Nat}, Rd s k l n → ∀ z ∈ l, 0 ≤ z ∧ z ≤ 562949953421311
 | 0, _, _, h, z, hz => by rw [h.1] at hz; cases hz
 | k + 1, _, _, ⟨a, b, m, h1, h2, h3, h4⟩, z, hz => by
  rw [h3] at hz
  rcases List.mem_append.1 hz with hz | hz
  ·exact Rd.bound h1 z hz
  ·simp at hz
   have := vvS_le (s.extract b s.size) m h2.2.1 0
   omega
theorem Rd.boundD {s : ByteArray} {k : Nat} {l : List Int} {n : Nat} (h : Rd s k l n) (j : Nat) : 0 ≤ l.getD j 0 ∧ l.getD j 0 ≤ 562949953421311 := by
 by_cases hj : j < l.length
 ·refine h.bound _ ?_
  simp [List.getD, hj]
 ·simp [List.getD, hj]
set_option maxHeartbeats 1000000 in
theorem implReadVars (s : ByteArray) (k0 : Nat) (w : World) (hs : s.size ≤ 1048576) (h1 : 1 ≤ k0) (h2 : k0 ≤ 60) :
  Calls Tryz.prog 124 #[.string s, .int .i64 (k0 : Int)] w fun e w' => ((∃ l n u, Rd s k0 l n ∧ e = .returned (.tuple #[u, .int .i64 (n : Int)]) ∧ Nums w' w.heap.size u l) ∨ (RdNo s k0 ∧ e = .returned (.tuple #[.slice none 0 0, .int .i64 0]))) ∧ Below w.heap.size w w' := by
 have q1 : (1 : Int) ≤ (k0 : Int) := by omega
 have q2 : (k0 : Int) ≤ 60 := by omega
 have HS : Hid (s.size ≤ 1048576) := hs
 have q3 : (s.size : Int) ≤ 1048576 := by omega
 clear hs
 go_enter Tryz.func124, Tryz.ntmps124
 go_wp2_with fail
 go_loopw [6, 7, 17] (fun v6 v7 v17 wr => ∃ (k n : Nat) (l : List Int), k ≤ k0 ∧ n ≤ s.size ∧ v17 = .int .i64 (k : Int) ∧ v7 = .int .i64 (n : Int) ∧ Hid (Rd s k l n) ∧ Nums wr w.heap.size v6 l ∧ Below w.heap.size w wr) (fun _ _ i _ => k0 - (intOf i).toNat)
 case atStart => exact ⟨0, 0, [], by omega, by omega, rfl, rfl, ⟨rfl, rfl⟩, Nums.nil _ _, Below.refl _ _⟩
 case round =>
  obtain ⟨k, n, l, hk, hns, rfl, rfl, HR, hN, hb⟩ := hrel
  have HN : Hid (Nums wr w.heap.size _ l) := hN
  obtain ⟨A, c, rfl, _, _⟩ := hN.shape
  have HB : Hid (Below w.heap.size w wr) := hb
  have hln := HR.out.length
  have HLN : Hid (l.length ≤ 2097152) := by unfold Hid; omega
  clear hN hb
  by_cases hlt : k < k0
  ·have q4 : (k : Int) < (k0 : Int) := by omega
   have q5 : (n : Int) ≤ (s.size : Int) := by omega
   have hsx : (s.extract n s.size).size ≤ 1048576 := by rw [ByteArray.size_extract]; have := HS.out; omega
   have c := fun wx => impl_readVar (s.extract n s.size) wx hsx
   have HX : Hid (∀ m, FindV (s.extract n s.size) m → m ≤ s.size - n) := fun m hm => by have := hm.2.2.1; rw [ByteArray.size_extract] at this; omega
   clear hsx hln
   go_wp2_with fail
   refine (c _).mono ?_
   generalize hsx' : s.extract n s.size = sx at *
   have HSX : Hid (s.extract n s.size = sx) := hsx'
   clear hsx'
   rintro e w1 ⟨hR, rfl⟩
   rcases hR with ⟨m, hm, rfl⟩ | ⟨hno, rfl⟩
   ·have hmx := HX.out m hm
    have hm1 := hm.1
    have hm7 := hm.2.1
    have q6 : (m : Int) ≤ 7 := by omega
    have q7 : (1 : Int) ≤ (m : Int) := by omega
    have q8 : ¬ (m : Int) = 0 := by omega
    have q9 : ¬ m = 0 := by omega
    have HM : Hid (FindV sx m) := hm
    have HZ : Hid (w.heap.size ≤ wr.heap.size) := HB.out.size
    generalize hz : (vvS sx 0 m : Int) = z at *
    have HR2 : Hid (Rd s (k + 1) (l ++ [z]) (n + m)) := by
     refine ⟨l, n, m, HR.out, ?_, ?_, rfl⟩
     ·rw [HSX.out]; exact HM.out
     ·rw [HSX.out, hz]
    clear hz hm
    go_wp2_with (at_builtin; refine wpList_append_num rfl (.tmp 28) (.tmp 30) 71 rfl Tryz.underlying71 Tryz.infoInt w.heap.size _ l rfl HN.out z rfl HLN.out HZ.out ?_; intro v' w1 hN1 hb1 hk1)
    go_roundw
    case rel => exact ⟨k + 1, n + m, l ++ [z], by omega, by omega, by go_num, by go_num, HR2, hN1, HB.out.trans hb1⟩
    case measure => simp [intOf]; omega
   ·have HNO : Hid (RdNo s k0) := ⟨k, l, n, hlt, HR.out, by rw [HSX.out]; exact hno⟩
    clear hno
    go_wp2_with fail
    go_ret2
    exact ⟨.inr ⟨HNO.out, rfl⟩, HB.out⟩
  ·obtain rfl : k = k0 := by omega
   go_wp2_with fail
   go_ret2
   exact ⟨.inl ⟨l, n, _, HR.out, rfl, HN.out⟩, HB.out⟩
set_option maxHeartbeats 1000000 in
theorem implReadVars_no (s : ByteArray) (n : Int) (w : World) (h : n < 1 ∨ 60 < n) : Calls Tryz.prog 124 #[.string s, .int .i64 n] w fun e w' => e = .returned (.tuple #[.slice none 0 0, .int .i64 0]) ∧ w = w' := by
 by_cases h1 : n < 1
 ·go_enter Tryz.func124, Tryz.ntmps124
  go_wp2_with fail
  go_ret2
  exact ⟨rfl, rfl⟩
 ·have h2 : 60 < n := by omega
  clear h
  go_enter Tryz.func124, Tryz.ntmps124
  go_wp2_with fail
  go_ret2
  exact ⟨rfl, rfl⟩
set_option maxHeartbeats 1000000 in
theorem specReadVars (s : ByteArray) (k0 : Nat) (w : World) (hs : s.size ≤ 1048576) (h1 : 1 ≤ k0) (h2 : k0 ≤ 60) :
  Calls Tryz.prog 107 #[.string s, .int .i64 (k0 : Int)] w fun e w' => ((∃ l n u, Rd s k0 l n ∧ e = .returned (.tuple #[u, .int .i64 (n : Int)]) ∧ Nums w' w.heap.size u l) ∨ (RdNo s k0 ∧ ∃ u, e = .returned (.tuple #[u, .int .i64 (-1)]))) ∧ Below w.heap.size w w' := by
 have q1 : (1 : Int) ≤ (k0 : Int) := by omega
 have q2 : (k0 : Int) ≤ 60 := by omega
 have HS : Hid (s.size ≤ 1048576) := hs
 have q3 : (s.size : Int) ≤ 1048576 := by omega
 clear hs
 go_enter Tryz.func107, Tryz.ntmps107
 go_wp2_with fail
 go_loopw [6, 7, 8] (fun v6 v7 v8 wr => ∃ (k n : Nat) (l : List Int), k ≤ k0 ∧ n ≤ s.size ∧ v8 = .int .i64 (k : Int) ∧ v7 = .int .i64 (n : Int) ∧ Hid (Rd s k l n) ∧ Nums wr w.heap.size v6 l ∧ Below w.heap.size w wr) (fun _ _ i _ => k0 - (intOf i).toNat)
 case atStart => exact ⟨0, 0, [], by omega, by omega, rfl, rfl, ⟨rfl, rfl⟩, Nums.empty _ _ (Nat.le_refl _), (Below.refl _ _).alloc (Nat.le_refl _) _⟩
 case round =>
  obtain ⟨k, n, l, hk, hns, rfl, rfl, HR, hN, hb⟩ := hrel
  have HN : Hid (Nums wr w.heap.size _ l) := hN
  obtain ⟨A, c, rfl, _, _⟩ := hN.shape
  have HB : Hid (Below w.heap.size w wr) := hb
  have hln := HR.out.length
  have HLN : Hid (l.length ≤ 2097152) := by unfold Hid; omega
  clear hN hb
  by_cases hlt : k < k0
  ·have q4 : (k : Int) < (k0 : Int) := by omega
   have q5 : (n : Int) ≤ (s.size : Int) := by omega
   have hsx : (s.extract n s.size).size ≤ 1048576 := by rw [ByteArray.size_extract]; have := HS.out; omega
   have c := fun wx => spec_readVar (s.extract n s.size) wx hsx
   have HX : Hid (∀ m, FindV (s.extract n s.size) m → m ≤ s.size - n) := fun m hm => by have := hm.2.2.1; rw [ByteArray.size_extract] at this; omega
   clear hsx hln
   go_wp2_with fail
   refine (c _).mono ?_
   generalize hsx' : s.extract n s.size = sx at *
   have HSX : Hid (s.extract n s.size = sx) := hsx'
   clear hsx'
   rintro e w1 ⟨hR, hb1⟩
   have HB1 : Hid (Below w.heap.size w w1) := HB.out.trans (hb1.mono HB.out.size)
   have HN1 : Hid (Nums w1 w.heap.size (.slice A l.length _) l) := HN.out.on hb1
   clear hb1
   rcases hR with ⟨m, hm, rfl⟩ | ⟨hno, rfl⟩
   ·have hmx := HX.out m hm
    have hm1 := hm.1
    have hm7 := hm.2.1
    have q6 : (m : Int) ≤ 7 := by omega
    have q7 : (1 : Int) ≤ (m : Int) := by omega
    have q8 : ¬ (m : Int) = 0 := by omega
    have q9 : ¬ m = 0 := by omega
    have HM : Hid (FindV sx m) := hm
    have HZ : Hid (w.heap.size ≤ w1.heap.size) := HB1.out.size
    generalize hz : (vvS sx 0 m : Int) = z at *
    have HR2 : Hid (Rd s (k + 1) (l ++ [z]) (n + m)) := by
     refine ⟨l, n, m, HR.out, ?_, ?_, rfl⟩
     ·rw [HSX.out]; exact HM.out
     ·rw [HSX.out, hz]
    clear hz hm
    go_wp2_with (at_builtin; refine wpList_append_num rfl (.tmp 27) (.tmp 29) 71 rfl Tryz.underlying71 Tryz.infoInt w.heap.size _ l rfl HN1.out z rfl HLN.out HZ.out ?_; intro v' w2 hN2 hb2 hk2)
    go_roundw
    case rel => exact ⟨k + 1, n + m, l ++ [z], by omega, by omega, by go_num, by go_num, HR2, hN2, HB1.out.trans hb2⟩
    case measure => simp [intOf]; omega
   ·have HNO : Hid (RdNo s k0) := ⟨k, l, n, hlt, HR.out, by rw [HSX.out]; exact hno⟩
    clear hno
    go_wp2_with fail
    go_ret2
    exact ⟨.inr ⟨HNO.out, _, rfl⟩, HB1.out⟩
  ·obtain rfl : k = k0 := by omega
   go_wp2_with fail
   go_ret2
   exact ⟨.inl ⟨l, n, _, HR.out, rfl, HN.out⟩, HB.out⟩
end Go.Proofs.YtimfnbnffibgpaaGreatDoor
namespace Go.Proofs.YtimfnbnffibgpaaGreatDoor
open Go.ChangeShapes Go.WideShapes Go.ChangeAt Go.RowKit Go.PlainAid
set_option linter.unusedVariables false
def mix (f : Nat → Int) (v : List Int) (m : Nat) : List Int := (List.range v.length).map fun i => if i < m then f i else v.getD i 0
theorem mix_length (f : Nat → Int) (v : List Int) (m : Nat) : (mix f v m).length = v.length := by simp [mix]
theorem mix_get (f : Nat → Int) (v : List Int) (m j : Nat) (h : j < v.length) : (mix f v m).getD j 0 = if j < m then f j else v.getD j 0 := by
 unfold mix
 rw [List.getD_eq_getElem?_getD, List.getElem?_map, List.getElem?_range h]
 rfl
theorem mix_set (f : Nat → Int) (v : List Int) (m : Nat) (h : m < v.length) : (mix f v m).set m (f m) = mix f v (m + 1) := by
 apply nums_ext
 ·rw [List.length_set, mix_length, mix_length]
 ·intro j hj
  rw [List.length_set, mix_length] at hj
  rw [mix_get f v (m + 1) j hj]
  by_cases e : m = j
  ·subst e
   rw [getD_set_same _ _ _ (by rw [mix_length]; exact h), if_pos (by omega)]
  ·rw [getD_set_ne _ _ _ _ e, mix_get f v m j hj]
   by_cases h2 : j < m
   ·rw [if_pos h2, if_pos (by omega)]
   ·rw [if_neg h2, if_neg (by omega)]
theorem mix_start (f : Nat → Int) (v : List Int) (m : Nat) (h : ∀ i, i < m → i < v.length → f i = v.getD i 0) : mix f v m = v := by
 apply nums_ext
 ·rw [mix_length]
 ·intro j hj
  rw [mix_length] at hj
  rw [mix_get f v m j hj]
  split
  ·exact h j (by assumption) hj
  ·rfl
def rowOf (f : Nat → Int) (n : Nat) : List Int := (List.range n).map f
theorem rowOf_length (f : Nat → Int) (n : Nat) : (rowOf f n).length = n := by simp [rowOf]
theorem rowOf_get (f : Nat → Int) (n j : Nat) (h : j < n) : (rowOf f n).getD j 0 = f j := by simp [rowOf, List.getD, h]
theorem rowOf_succ (f : Nat → Int) (n : Nat) : rowOf f (n + 1) = rowOf f n ++ [f n] := by simp [rowOf, List.range_succ]
theorem mix_all (f : Nat → Int) (v : List Int) (m : Nat) (h : v.length ≤ m) : mix f v m = rowOf f v.length := by
 apply nums_ext
 ·rw [mix_length, rowOf_length]
 ·intro j hj
  rw [mix_length] at hj
  rw [mix_get f v m j hj, rowOf_get f _ j hj, if_pos (by omega)]
def uzF (off : Nat) (v : List Int) (i : Nat) : Int := if off ≤ i then unz (v.getD i 0) else v.getD i 0
def auF (off : Nat) (v : List Int) : Nat → Int
 | 0 => v.getD 0 0
 | i + 1 => if i + 1 ≤ off then v.getD (i + 1) 0 else auF off v i + v.getD (i + 1) 0
theorem auF_le (off : Nat) (v : List Int) (i : Nat) (h : i ≤ off) : auF off v i = v.getD i 0 := by
 cases i with
 | zero => rfl
 | succ i => rw [auF, if_pos h]
theorem auF_gt (off : Nat) (v : List Int) (i : Nat) (h : off < i) : auF off v i = auF off v (i - 1) + v.getD i 0 := by
 cases i with
 | zero => omega
 | succ i => rw [auF, if_neg (by omega)]; rfl
set_option maxHeartbeats 1000000 in
theorem unzigAllV (off m : Nat) (l : List Int) (g cap base n : Nat) (A : Option Addr) (c : Nat) (w : World) (hN : Nums w base (.slice (some ⟨g, 0, none⟩) n cap) l) (hl : l.length = off + m) (hA : 0 < m → A = some ⟨g, off, none⟩) (hm : m ≤ 1000) (hg : base ≤ g)
  (hb : ∀ j, -9223372036854775808 ≤ l.getD j 0 ∧ l.getD j 0 ≤ 9223372036854775807) :
  Calls Tryz.prog 125 #[.slice A m c] w fun e w' => (∃ u, e = .returned u) ∧ Nums w' base (.slice (some ⟨g, 0, none⟩) n cap) (rowOf (uzF off l) l.length) ∧ Below base w w' := by
 have HN : Hid (Nums w base (.slice (some ⟨g, 0, none⟩) n cap) l) := hN
 have HL : Hid (l.length = off + m) := hl
 have HA : Hid (0 < m → A = some ⟨g, off, none⟩) := hA
 have HG : Hid (base ≤ g) := hg
 have HB : Hid (∀ j, -9223372036854775808 ≤ l.getD j 0 ∧ l.getD j 0 ≤ 9223372036854775807) := hb
 have q1 : (m : Int) ≤ 1000 := by omega
 clear hN hl hA hg hb
 go_enter Tryz.func125, Tryz.ntmps125
 go_wp2_with fail
 go_loopw [6] (fun v6 wr => ∃ k : Nat, k ≤ m ∧ v6 = .int .i64 (k : Int) ∧ Nums wr base (.slice (some ⟨g, 0, none⟩) n cap) (mix (uzF off l) l (off + k)) ∧ Below base w wr) (fun i _ => m - (intOf i).toNat)
 case atStart =>
  refine ⟨0, by omega, rfl, ?_, Below.refl _ _⟩
  rw [mix_start _ _ _ (fun i hi _ => by unfold uzF; rw [if_neg (by omega)])]
  exact HN.out
 case round =>
  obtain ⟨k, hk, rfl, hN1, hb1⟩ := hrel
  have HB1 : Hid (Below base w wr) := hb1
  have HN1 : Hid (Nums wr base (.slice (some ⟨g, 0, none⟩) n cap) (mix (uzF off l) l (off + k))) := hN1
  clear hb1
  by_cases hlt : k < m
  ·have q2 : (k : Int) < (m : Int) := by omega
   have hA := HA.out (by omega)
   subst hA
   have hkl : off + k < l.length := by rw [HL.out]; omega
   have e1 := hN1.cell (off + k) (by rw [mix_length]; exact hkl)
   rw [mix_get _ _ _ _ hkl, if_neg (by omega)] at e1
   have e2 := hN1.frozen (off + k)
   have hbk := HB.out (off + k)
   have cu := fun wx => impl_unz (l.getD (off + k) 0) wx hbk.1 hbk.2
   have hS := hN1.stored (off + k) (unz (l.getD (off + k) 0))
   rw [show unz (l.getD (off + k) 0) = uzF off l (off + k) by unfold uzF; rw [if_pos (by omega)], mix_set _ _ _ hkl] at hS
   rw [show uzF off l (off + k) = unz (l.getD (off + k) 0) by unfold uzF; rw [if_pos (by omega)]] at hS
   have HS : Hid (Nums (wr.setCell ⟨g, off + k, none⟩ (.int .i64 (unz (l.getD (off + k) 0)))) base (.slice (some ⟨g, 0, none⟩) n cap) (mix (uzF off l) l (off + k + 1))) := hS
   clear hS hN1 hkl hbk
   generalize zok (l.getD (off + k) 0) = zk at *
   generalize unz (l.getD (off + k) 0) = y at *
   generalize l.getD (off + k) 0 = x at *
   go_wp2_with fail
   refine (cu _).mono ?_
   rintro e w1 ⟨rfl, rfl⟩
   go_wp2_with fail
   go_roundw
   case rel => exact ⟨k + 1, by omega, by go_num, HS.out, HB1.out.setCell HG.out _⟩
   case measure => simp [intOf]; omega
  ·obtain rfl : k = m := by omega
   clear hN1
   go_wp2_with fail
   have h := HN1.out
   rw [mix_all _ _ _ (by rw [HL.out]; omega)] at h
   exact bodyPost_end (v := .tuple #[]) (by simp [results, go_sem]) rfl ⟨⟨_, rfl⟩, h, HB1.out⟩
set_option maxHeartbeats 1000000 in
theorem addUpV (off m : Nat) (l : List Int) (g cap base n : Nat) (A : Option Addr) (c : Nat) (w : World) (hN : Nums w base (.slice (some ⟨g, 0, none⟩) n cap) l) (hl : l.length = off + m) (hA : 0 < m → A = some ⟨g, off, none⟩) (hm : m ≤ 1000) (hg : base ≤ g)
  (hb : ∀ j, j < l.length → -4611686018427387904 ≤ auF off l j ∧ auF off l j ≤ 4611686018427387904) :
  Calls Tryz.prog 126 #[.slice A m c] w fun e w' => (∃ u, e = .returned u) ∧ Nums w' base (.slice (some ⟨g, 0, none⟩) n cap) (rowOf (auF off l) l.length) ∧ Below base w w' := by
 have HN : Hid (Nums w base (.slice (some ⟨g, 0, none⟩) n cap) l) := hN
 have HL : Hid (l.length = off + m) := hl
 have HA : Hid (0 < m → A = some ⟨g, off, none⟩) := hA
 have HG : Hid (base ≤ g) := hg
 have HB : Hid (∀ j, j < l.length → -4611686018427387904 ≤ auF off l j ∧ auF off l j ≤ 4611686018427387904) := hb
 have q1 : (m : Int) ≤ 1000 := by omega
 clear hN hl hA hg hb
 go_enter Tryz.func126, Tryz.ntmps126
 go_wp2_with fail
 go_loopw [2] (fun v2 wr => ∃ k : Nat, 1 ≤ k ∧ (k ≤ m ∨ k = 1) ∧ v2 = .int .i64 (k : Int) ∧ Nums wr base (.slice (some ⟨g, 0, none⟩) n cap) (mix (auF off l) l (off + k)) ∧ Below base w wr) (fun i _ => m - (intOf i).toNat)
 case atStart =>
  refine ⟨1, by omega, by omega, rfl, ?_, Below.refl _ _⟩
  rw [mix_start _ _ _ (fun i hi _ => auF_le off l i (by omega))]
  exact HN.out
 case round =>
  obtain ⟨k, hk1, hk, rfl, hN1, hb1⟩ := hrel
  have HB1 : Hid (Below base w wr) := hb1
  have HN1 : Hid (Nums wr base (.slice (some ⟨g, 0, none⟩) n cap) (mix (auF off l) l (off + k))) := hN1
  clear hb1
  by_cases hlt : k < m
  ·have q2 : (k : Int) < (m : Int) := by omega
   have q3 : (1 : Int) ≤ (k : Int) := by omega
   have hA := HA.out (by omega)
   subst hA
   have hkl : off + k < l.length := by rw [HL.out]; omega
   have e1 := hN1.cell (off + k) (by rw [mix_length]; exact hkl)
   rw [mix_get _ _ _ _ hkl, if_neg (by omega)] at e1
   have e0 := hN1.cell (off + (k - 1)) (by rw [mix_length]; omega)
   rw [mix_get _ _ _ _ (by omega), if_pos (by omega)] at e0
   have e2 := hN1.frozen (off + k)
   have hbk := HB.out (off + k) hkl
   have hbj := HB.out (off + (k - 1)) (by omega)
   have ef := auF_gt off l (off + k) (by omega)
   rw [show off + k - 1 = off + (k - 1) by omega] at ef
   have hS := hN1.stored (off + k) (auF off l (off + k))
   rw [mix_set _ _ _ hkl] at hS
   have ef2 : auF off l (off + k) = l.getD (off + k) 0 + auF off l (off + (k - 1)) := by omega
   rw [ef2] at hS hbk
   have HS : Hid (Nums (wr.setCell ⟨g, off + k, none⟩ (.int .i64 (l.getD (off + k) 0 + auF off l (off + (k - 1))))) base (.slice (some ⟨g, 0, none⟩) n cap) (mix (auF off l) l (off + k + 1))) := hS
   clear hS hN1 hkl ef ef2
   generalize auF off l (off + (k - 1)) = y at *
   generalize l.getD (off + k) 0 = x at *
   have g1 : IntKind.i64.wrap ((k : Int) - 1) = (k : Int) - 1 := by rw [IntKind.wrap_i64]; omega
   have g3 : (0 : Int) ≤ (k : Int) - 1 := by omega
   have g4 : (k : Int) - 1 < (m : Int) := by omega
   have g5 : ((k : Int) - 1).toNat = k - 1 := by omega
   have g7 : IntKind.i64.wrap (x + y) = x + y := by rw [IntKind.wrap_i64]; omega
   have S0 : Hid (wr.cell? ⟨g, off + k, none⟩ = some (.int .i64 x) ∧ wr.cell? ⟨g, off + (k - 1), none⟩ = some (.int .i64 y)) := ⟨e1, e0⟩
   go_wp2_with fail
   refine wp_region_until (fun w' => w'.cell? ⟨g, off + k, none⟩ = some (.int .i64 x) ∧ w'.cell? ⟨g, off + (k - 1), none⟩ = some (.int .i64 y)) (fun i => i == 11) 12 (by rfl) (by kernel_rfl) ?_
   refine tKf 0 S0.out ?_
   refine tKf 1 S0.out ?_
   refine tKf 2 S0.out ?_
   refine tKf 3 S0.out ?_
   refine tKf 4 S0.out ?_
   refine tKf 5 S0.out ?_
   refine tKf 6 S0.out ?_
   refine tKf 7 S0.out ?_
   refine tKf 8 S0.out ?_
   refine tKf 9 S0.out ?_
   refine tKf 10 S0.out ?_
   refine uNe 11 (fun K hK => ?_)
   go_simp
   go_wp2_with fail
   refine hK.out _ _ (fun h => absurd h (by decide)) ?_
   clear hK K
   try simp only [Act.put, zQ1, zQ2, zQ3]
   refine until_done (by kernel_rfl) ?_ _
   go_wp2_with fail
   go_roundw
   case rel => exact ⟨k + 1, by omega, by omega, by go_num, HS.out, (HB1.out.setCell (p := ⟨g, off + k, none⟩) HG.out (.int .i64 (x + y))).drew⟩
   case measure => simp [intOf]; omega
  ·clear hN1
   have q2 : (m : Int) ≤ (k : Int) := by omega
   go_wp2_with fail
   have h := HN1.out
   rw [mix_all _ _ _ (by rw [HL.out]; omega)] at h
   exact bodyPost_end (v := .tuple #[]) (by simp [results, go_sem]) rfl ⟨⟨_, rfl⟩, h, HB1.out⟩
end Go.Proofs.YtimfnbnffibgpaaGreatDoor
namespace Go.Proofs.YtimfnbnffibgpaaGreatDoor
open Go.RowKit Go.PlainAid
def rv (v : List Int) : Nat → Int
 | 0 => unz (v.getD 0 0)
 | i + 1 => rv v i + unz (v.getD (i + 1) 0)
def rowV (v : List Int) : List Int := rowOf (rv v) v.length
def gp (v : List Int) : Nat → Int
 | 0 => 0
 | i + 1 => gp v i + if i = 0 then v.getD 1 0 else unz (v.getD (i + 1) 0)
def rt (v : List Int) : Nat → Int
 | 0 => v.getD 0 0
 | i + 1 => rt v i + gp v (i + 1)
def rowT (v : List Int) : List Int := rowOf (rt v) v.length
theorem rv_bound (v : List Int) (i : Nat) : -140737488355328 * ((i : Int) + 1) ≤ rv v i ∧ rv v i ≤ 140737488355328 * ((i : Int) + 1) := by
 induction i with
 | zero => have := unz_range (v.getD 0 0); unfold rv; omega
 | succ i ih => have := unz_range (v.getD (i + 1) 0); unfold rv; omega
theorem gp_bound (v : List Int) (hv : ∀ j, 0 ≤ v.getD j 0 ∧ v.getD j 0 ≤ 562949953421311) (i : Nat) : -140737488355328 * (i : Int) ≤ gp v i ∧ gp v i ≤ 562949953421311 + 140737488355328 * (i : Int) := by
 induction i with
 | zero => unfold gp; omega
 | succ i ih =>
  have h1 := hv 1
  have h2 := unz_range (v.getD (i + 1) 0)
  by_cases h0 : i = 0
  ·subst h0
   rw [gp, if_pos rfl]
   have : gp v 0 = 0 := rfl
   omega
  ·rw [gp, if_neg h0]
   omega
theorem rt_bound (v : List Int) (hv : ∀ j, 0 ≤ v.getD j 0 ∧ v.getD j 0 ≤ 562949953421311) (i : Nat) (hi : i ≤ 60) : -9007199254740992 * ((i : Int) + 1) ≤ rt v i ∧ rt v i ≤ 9007199254740992 * ((i : Int) + 1) := by
 induction i with
 | zero => have := hv 0; unfold rt; omega
 | succ i ih =>
  have := gp_bound v hv (i + 1)
  have := ih (by omega)
  unfold rt
  omega
theorem rowV_made (v : List Int) : rowOf (auF 0 (rowOf (uzF 0 v) v.length)) v.length = rowV v := by
 have key : ∀ i, i < v.length → auF 0 (rowOf (uzF 0 v) v.length) i = rv v i := by
  intro i
  induction i with
  | zero =>
   intro h
   rw [auF, rowOf_get _ _ _ h]
   rfl
  | succ i ih =>
   intro h
   rw [auF_gt _ _ _ (by omega), Nat.add_sub_cancel, ih (by omega), rowOf_get _ _ _ h]
   rfl
 apply nums_ext
 ·rw [rowOf_length, rowV, rowOf_length]
 ·intro j hj
  rw [rowOf_length] at hj
  rw [rowOf_get _ _ _ hj, rowV, rowOf_get _ _ _ hj, key j hj]
theorem gaps_made (v : List Int) (hv : 1 ≤ v.length) (i : Nat) (hi : i < v.length) (h1 : 1 ≤ i) : auF 1 (rowOf (uzF (min 2 v.length) v) v.length) i = gp v i := by
 induction i with
 | zero => omega
 | succ i ih =>
  by_cases h0 : i = 0
  ·subst h0
   rw [auF_le _ _ _ (by omega), rowOf_get _ _ _ hi]
   unfold uzF
   rw [if_neg (by omega)]
   simp [gp]
  ·rw [auF_gt _ _ _ (by omega), Nat.add_sub_cancel, ih (by omega) (by omega), rowOf_get _ _ _ hi]
   conv => rhs; unfold gp
   rw [if_neg h0]
   unfold uzF
   rw [if_pos (by omega)]
theorem gaps_zero (v : List Int) (hv : 1 ≤ v.length) : auF 1 (rowOf (uzF (min 2 v.length) v) v.length) 0 = v.getD 0 0 := by
 rw [auF, rowOf_get _ _ _ (by omega)]
 unfold uzF
 rw [if_neg (by omega)]
theorem times_made (v : List Int) (hv : 1 ≤ v.length) (i : Nat) (hi : i < v.length) : auF 0 (rowOf (auF 1 (rowOf (uzF (min 2 v.length) v) v.length)) v.length) i = rt v i := by
 induction i with
 | zero =>
  rw [auF, rowOf_get _ _ _ hi, gaps_zero v hv]
  rfl
 | succ i ih =>
  rw [auF_gt _ _ _ (by omega), Nat.add_sub_cancel, ih (by omega), rowOf_get _ _ _ hi, gaps_made v hv _ hi (by omega)]
  rfl
theorem rowT_made (v : List Int) (hv : 1 ≤ v.length) : rowOf (auF 0 (rowOf (auF 1 (rowOf (uzF (min 2 v.length) v) v.length)) v.length)) v.length = rowT v := by
 apply nums_ext
 ·rw [rowOf_length, rowT, rowOf_length]
 ·intro j hj
  rw [rowOf_length] at hj
  rw [rowOf_get _ _ _ hj, rowT, rowOf_get _ _ _ hj, times_made v hv j hj]
def RdAns (shw : List Int → ByteArray) (row : List Int → List Int) (s : ByteArray) (n : Int) (l : List Int) (k : Nat) : Prop :=
 (∃ (m : Nat) (v : List Int), n = (m : Int) ∧ 1 ≤ m ∧ m ≤ 60 ∧ Rd s m v k ∧ shw (row v) = s.extract 0 k ∧ l = row v) ∨
 ((∀ (m : Nat) (v : List Int) (u : Nat), n = (m : Int) → 1 ≤ m → m ≤ 60 → Rd s m v u → shw (row v) ≠ s.extract 0 u) ∧ l = [] ∧ k = 0)
theorem RdAns.one {shw : List Int → ByteArray} {row : List Int → List Int} {s : ByteArray} {n : Int} {l l' : List Int} {k k' : Nat} (h : RdAns shw row s n l k) (h' : RdAns shw row s n l' k') : l = l' ∧ k = k' := by
 rcases h with ⟨m, v, h1, h2, h3, h4, h5, h6⟩ | ⟨h1, h2, h3⟩ <;> rcases h' with ⟨m', v', h1', h2', h3', h4', h5', h6'⟩ | ⟨h1', h2', h3'⟩
 ·obtain rfl : m = m' := by omega
  obtain ⟨rfl, rfl⟩ := h4.one h4'
  exact ⟨h6.trans h6'.symm, rfl⟩
 ·exact absurd h5 (h1' m v k h1 h2 h3 h4)
 ·exact absurd h5' (h1 m' v' k' h1' h2' h3' h4')
 ·exact ⟨h2.trans h2'.symm, h3.trans h3'.symm⟩
theorem extract_ne (s : ByteArray) (u : Nat) (h1 : 1 ≤ u) (h2 : u ≤ s.size) : txt [] ≠ s.extract 0 u := by
 intro h
 have := congrArg ByteArray.size h
 rw [ByteArray.size_extract, txt_size] at this
 simp at this
 omega
theorem rowV_length (v : List Int) : (rowV v).length = v.length := by rw [rowV, rowOf_length]
theorem rowT_length (v : List Int) : (rowT v).length = v.length := by rw [rowT, rowOf_length]
theorem showV_out (v : List Int) (j : Nat) (hj : j < v.length) (h : rv v j < -1099511627776 ∨ 1099511627776 < rv v j) : showV (rowV v) = txt [] := by
 unfold showV
 rw [if_neg]
 intro ho
 have := ho.2.2 j (by rw [rowV_length]; exact hj)
 rw [rowV, rowOf_get _ _ _ hj] at this
 omega
theorem showT_out (v : List Int) (j : Nat) (hj : j < v.length) (h : rt v j < 0 ∨ 1099511627776 < rt v j) : showT (rowT v) = txt [] := by
 unfold showT
 rw [if_neg]
 intro ho
 have := (ho.2.2 j (by rw [rowT_length]; exact hj)).1
 rw [rowT, rowOf_get _ _ _ hj] at this
 omega
theorem RdAns.few {shw : List Int → ByteArray} {row : List Int → List Int} {s : ByteArray} {m : Nat} (h : RdNo s m) : RdAns shw row s (m : Int) [] 0 := by
 refine .inr ⟨fun m' v u e _ _ hr => ?_, rfl, rfl⟩
 obtain rfl : m = m' := by omega
 exact absurd h hr.no
theorem RdAns.none {shw : List Int → ByteArray} {row : List Int → List Int} {s : ByteArray} {n : Int} (h : n < 1 ∨ 60 < n) : RdAns shw row s n [] 0 :=
 .inr ⟨fun m' v u e _ _ hr => by omega, rfl, rfl⟩
theorem RdAns.other {shw : List Int → ByteArray} {row : List Int → List Int} {s : ByteArray} {m : Nat} {v : List Int} {u : Nat} (hr : Rd s m v u) (h : shw (row v) ≠ s.extract 0 u) : RdAns shw row s (m : Int) [] 0 := by
 refine .inr ⟨fun m' v' u' e _ _ hr' => ?_, rfl, rfl⟩
 obtain rfl : m = m' := by omega
 obtain ⟨rfl, rfl⟩ := hr.one hr'
 exact h
theorem RdAns.yes {shw : List Int → ByteArray} {row : List Int → List Int} {s : ByteArray} {m : Nat} {v : List Int} {u : Nat} (h1 : 1 ≤ m) (h2 : m ≤ 60) (hr : Rd s m v u) (h : shw (row v) = s.extract 0 u) : RdAns shw row s (m : Int) (row v) u :=
 .inl ⟨m, v, rfl, h1, h2, hr, h, rfl⟩
theorem RdAns.short {shw : List Int → ByteArray} {row : List Int → List Int} {s : ByteArray} {n : Int} {l : List Int} {k : Nat} (hrow : ∀ v, (row v).length = v.length) (h : RdAns shw row s n l k) : l.length ≤ 60 ∧ k ≤ s.size := by
 rcases h with ⟨m, v, h1, h2, h3, h4, h5, h6⟩ | ⟨_, rfl, rfl⟩
 ·rw [h6, hrow, h4.length]
  exact ⟨h3, h4.le.2⟩
 ·simp
theorem bytes_ne {a b : ByteArray} (h : a ≠ b) : (a.toList == b.toList) = false := by
 rw [beq_eq_false_iff_ne]
 intro e
 apply h
 rw [Lib.toList_data, Lib.toList_data] at e
 cases a
 cases b
 simp only at e
 congr 1
 exact Array.ext' e
theorem bytes_eq {a b : ByteArray} (h : a = b) : (a.toList == b.toList) = true := by rw [h]; simp
end Go.Proofs.YtimfnbnffibgpaaGreatDoor
namespace Go.Proofs.YtimfnbnffibgpaaGreatDoor
open Go.RowKit Go.PlainAid
theorem cat_split (f : Nat → List UInt8) (k n : Nat) (hk : k < n) : ∃ rest, cat f n = cat f k ++ (f k ++ rest) := by
 induction n with
 | zero => omega
 | succ n ih =>
  by_cases e : k = n
  ·subst e
   exact ⟨[], by rw [cat_succ, List.append_nil]⟩
  ·obtain ⟨rest, h⟩ := ih (by omega)
   exact ⟨rest ++ f n, by rw [cat_succ, h]; simp⟩
theorem extract_back (a b : List UInt8) : (txt (a ++ b)).extract a.length (txt (a ++ b)).size = txt b := by
 rw [txt_size]
 apply ByteArray.ext
 apply Array.toList_inj.1
 rw [Lib.extract_data]
 simp [txt]
theorem extract_front (a b : List UInt8) : (txt (a ++ b)).extract 0 a.length = txt a := by
 apply ByteArray.ext
 apply Array.toList_inj.1
 rw [Lib.extract_data]
 simp [txt]
theorem rd_cat (x : Nat → Nat) (n : Nat) (hx : ∀ i, i < n → x i ≤ 562949953421311) (tl : List UInt8) (k : Nat) (hk : k ≤ n) : Rd (txt (cat (fun i => vF 6 (x i)) n ++ tl)) k (rowOf (fun i => (x i : Int)) k) (cat (fun i => vF 6 (x i)) k).length := by
 induction k with
 | zero => exact ⟨rfl, rfl⟩
 | succ k ih =>
  obtain ⟨rest, h⟩ := cat_split (fun i => vF 6 (x i)) k n (by omega)
  have e : txt (cat (fun i => vF 6 (x i)) n ++ tl) = txt (cat (fun i => vF 6 (x i)) k ++ (vF 6 (x k) ++ (rest ++ tl))) := by rw [h]; simp
  have hf := find_var (x k) (rest ++ tl) (hx k (by omega))
  refine ⟨_, _, (vF 6 (x k)).length, ih (by omega), ?_, ?_, ?_⟩
  ·rw [e, extract_back]
   exact hf.1
  ·rw [e, extract_back, hf.2, rowOf_succ]
  ·rw [cat_succ, List.length_append]
theorem rowOf_ext (f g : Nat → Int) (n : Nat) (h : ∀ i, i < n → f i = g i) : rowOf f n = rowOf g n := by
 apply nums_ext
 ·rw [rowOf_length, rowOf_length]
 ·intro j hj
  rw [rowOf_length] at hj
  rw [rowOf_get _ _ _ hj, rowOf_get _ _ _ hj, h j hj]
theorem gp_turn (l : List Int) (h : TOk l) (i : Nat) (h1 : 1 ≤ i) (hi : i < l.length) : gp (rowOf (turn l) l.length) i = dif l i := by
 induction i with
 | zero => omega
 | succ i ih =>
  by_cases h0 : i = 0
  ·subst h0
   rw [gp, if_pos rfl, rowOf_get _ _ _ hi]
   have : gp (rowOf (turn l) l.length) 0 = 0 := rfl
   rw [this]
   unfold turn
   rw [if_pos (by omega)]
   omega
  ·rw [gp, if_neg h0, ih (by omega) (by omega), rowOf_get _ _ _ hi]
   have d1 := h.dif (i + 1) hi
   have d2 := h.dif i (by omega)
   unfold turn
   rw [if_neg (by omega), Nat.add_sub_cancel, unz_zig _ (by omega) (by omega)]
   omega
theorem rt_turn (l : List Int) (h : TOk l) (i : Nat) (hi : i < l.length) : rt (rowOf (turn l) l.length) i = l.getD i 0 := by
 induction i with
 | zero =>
  rw [rt, rowOf_get _ _ _ hi]
  unfold turn dif prv
  simp
 | succ i ih =>
  rw [rt, ih (by omega), gp_turn l h (i + 1) (by omega) hi]
  unfold dif
  rw [prv_succ]
  omega
theorem rowT_turn (l : List Int) (h : TOk l) : rowT (rowOf (turn l) l.length) = l := by
 unfold rowT
 rw [rowOf_length]
 apply nums_ext
 ·rw [rowOf_length]
 ·intro j hj
  rw [rowOf_length] at hj
  rw [rowOf_get _ _ _ hj, rt_turn l h j hj]
theorem readT_back (l : List Int) (h : TOk l) (tl : List UInt8) : RdAns showT rowT (txt (cat (tPiece l) l.length ++ tl)) (l.length : Int) l (cat (tPiece l) l.length).length := by
 have hr := rd_cat (fun i => (turn l i).toNat) l.length (fun i hi => by have := h.turn i hi; omega) tl l.length (Nat.le_refl _)
 rw [rowOf_ext (fun i => (((turn l i).toNat : Nat) : Int)) (turn l) l.length (fun i hi => Int.toNat_of_nonneg (h.turn i hi).1)] at hr
 have hy := RdAns.yes (shw := showT) (row := rowT) h.1 h.2.1 hr (by rw [rowT_turn l h]; unfold showT; rw [if_pos h]; exact (extract_front _ _).symm)
 rw [rowT_turn l h] at hy
 exact hy
theorem rv_zig (l : List Int) (h : VOk l) (i : Nat) (hi : i < l.length) : rv (rowOf (fun i => zig (dif l i)) l.length) i = l.getD i 0 := by
 induction i with
 | zero =>
  have d := h.dif 0 hi
  rw [rv, rowOf_get _ _ _ hi, unz_zig _ (by omega) (by omega)]
  unfold dif prv
  simp
 | succ i ih =>
  have d := h.dif (i + 1) hi
  rw [rv, ih (by omega), rowOf_get _ _ _ hi, unz_zig _ (by omega) (by omega)]
  unfold dif
  rw [prv_succ]
  omega
theorem rowV_zig (l : List Int) (h : VOk l) : rowV (rowOf (fun i => zig (dif l i)) l.length) = l := by
 unfold rowV
 rw [rowOf_length]
 apply nums_ext
 ·rw [rowOf_length]
 ·intro j hj
  rw [rowOf_length] at hj
  rw [rowOf_get _ _ _ hj, rv_zig l h j hj]
theorem readV_back (l : List Int) (h : VOk l) (tl : List UInt8) : RdAns showV rowV (txt (cat (vPiece l) l.length ++ tl)) (l.length : Int) l (cat (vPiece l) l.length).length := by
 have hz : ∀ i, i < l.length → 0 ≤ zig (dif l i) := fun i hi => zig_pos _ (by have := h.dif i hi; omega) (by have := h.dif i hi; omega)
 have hr := rd_cat (fun i => (zig (dif l i)).toNat) l.length (fun i hi => by have := (zig_range (dif l i)).2; omega) tl l.length (Nat.le_refl _)
 rw [rowOf_ext (fun i => (((zig (dif l i)).toNat : Nat) : Int)) (fun i => zig (dif l i)) l.length (fun i hi => Int.toNat_of_nonneg (hz i hi))] at hr
 have hy := RdAns.yes (shw := showV) (row := rowV) h.1 h.2.1 hr (by rw [rowV_zig l h]; unfold showV; rw [if_pos h]; exact (extract_front _ _).symm)
 rw [rowV_zig l h] at hy
 exact hy
theorem showT_size (l : List Int) : (showT l).size ≤ 420 := by
 unfold showT
 split
 ·rename_i h
  rw [txt_size]
  have := cat_length (tPiece l) (tPiece_length l) l.length
  have := h.2.1
  omega
 ·rw [txt_size]; simp
theorem showV_size (l : List Int) : (showV l).size ≤ 420 := by
 unfold showV
 split
 ·rename_i h
  rw [txt_size]
  have := cat_length (vPiece l) (vPiece_length l) l.length
  have := h.2.1
  omega
 ·rw [txt_size]; simp
theorem cat_pos (f : Nat → List UInt8) (n : Nat) (h1 : 1 ≤ n) (h : 1 ≤ (f 0).length) : 1 ≤ (cat f n).length := by
 obtain ⟨rest, e⟩ := cat_split f 0 n (by omega)
 rw [e, cat_zero, List.nil_append, List.length_append]
 omega
end Go.Proofs.YtimfnbnffibgpaaGreatDoor
