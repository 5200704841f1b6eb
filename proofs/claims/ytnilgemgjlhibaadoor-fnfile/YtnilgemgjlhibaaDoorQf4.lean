/- FlSpanM FlFindM TnText FlWrite FlRead PtOk UntilS -/
import Derived.Test.YtnilgemgjlhibaaDoorQf3
import Derived.WalkKit
import Derived.ProofKit
import Derived.OpenShut
import Derived.Below
import Derived.WalkSmall
import Derived.BigQuiet
import Derived.Deep.QuietTactic
import Derived.Deep.RegionWith
import Derived.Handy
import Derived.Test.YtnilgemgjlhibaaDoorQf2
import Derived.Test.YtnilgemgjlhibaaDoorQf1
import Derived.Test.YtnilgemgjlhibaaDoorRows
open List (setIfInBounds_toArray set_cons_zero set_cons_succ)
namespace Go.Proofs.YtnilgemgjlhibaaDoor
open Go.ChangeShapes Go.WideShapes Go.ChangeAt Go.RowKit Go.PlainAid
set_option linter.unusedVariables false
def loT (m : List Ser) : Nat → Nat
 | 0 => fT m 0
 | k + 1 => min (loT m k) (fT m k)
def hiT (m : List Ser) : Nat → Nat
 | 0 => fT m 0
 | k + 1 => max (hiT m k) (lT m k)
theorem times_up {l : List Pnt} (h : POk l) : ∀ j, j < l.length → tAt l 0 ≤ tAt l j
 | 0, _ => Int.le_refl _
 | j + 1, hj => by
  have := times_up h j (by omega)
  have := (h.2 (j + 1) hj).2 (by omega)
  rw [Nat.add_sub_cancel] at this
  omega
theorem SOk.rise {m : List Ser} (h : SOk m) (j : Nat) (hj : j < m.length) : fT m j ≤ lT m j := by
 have h1 := (h.2 j hj).2
 have := times_up h1.2 ((sAt m j).pts.length - 1) (by omega)
 unfold fT lT
 omega
theorem loT_le {m : List Ser} (h : SOk m) (h1 : 1 ≤ m.length) : ∀ k, k ≤ m.length → loT m k ≤ 1099511627776 ∧ hiT m k ≤ 1099511627776
 | 0, _ => by
  have := (h.times 0 (by omega)).1
  unfold loT hiT fT
  omega
 | k + 1, hk => by
  have ih := loT_le h h1 k (by omega)
  have := h.times k (by omega)
  rw [loT, hiT]
  unfold fT lT
  omega
def FsAns (s : ByteArray) (a b : Nat) (ok : Bool) : Prop := (ok = true ∧ ∃ m, GoodF s m ∧ a = loT m m.length ∧ b = hiT m m.length) ∨ (ok = false ∧ a = 0 ∧ b = 0 ∧ ∀ m, ¬ GoodF s m)
theorem FsAns.one {s : ByteArray} {a b a' b' : Nat} {x y : Bool} (h : FsAns s a b x) (h' : FsAns s a' b' y) : a = a' ∧ b = b' ∧ x = y := by
 rcases h with ⟨h1, m, h2, h3, h4⟩ | ⟨h1, h2, h3, h4⟩ <;> rcases h' with ⟨h1', m', h2', h3', h4'⟩ | ⟨h1', h2', h3', h4'⟩
 ·obtain rfl := h2.one h2'
  exact ⟨h3.trans h3'.symm, h4.trans h4'.symm, h1.trans h1'.symm⟩
 ·exact absurd h2 (h4' m)
 ·exact absurd h2' (h4 m')
 ·exact ⟨h2.trans h2'.symm, h3.trans h3'.symm, h1.trans h1'.symm⟩
def FsOk (s : ByteArray) (e : Ending) : Prop := ∃ (a b : Nat) (ok : Bool), e = .returned (.tuple #[.int .i64 (a : Int), .int .i64 (b : Int), .bool ok]) ∧ FsAns s a b ok
theorem sp_tail {w : World} {base : Nat} {A : Option Addr} {n c : Nat} {P : List Spot} (h : Owns w base 52 5 (.slice A n c) (spR P)) (h1 : 1 ≤ P.length) : ∃ g, A = some ⟨g, 0, none⟩ ∧ n = P.length ∧ n ≤ c ∧ g < w.heap.size ∧ base ≤ g ∧ ∀ j, j < P.length → w.cell? ⟨g, j * 5, none⟩ = some (.string (P.getD j default).key) ∧ w.cell? ⟨g, j * 5 + 1, none⟩ = some (.int .i64 ((P.getD j default).at' : Int)) ∧ w.cell? ⟨g, j * 5 + 2, none⟩ = some (.int .i64 ((P.getD j default).size : Int)) ∧ w.cell? ⟨g, j * 5 + 3, none⟩ = some (.int .i64 ((P.getD j default).first : Int)) ∧ w.cell? ⟨g, j * 5 + 4, none⟩ = some (.int .i64 ((P.getD j default).last : Int)) := by
 have hl := h.lt
 obtain ⟨A', c', e, hlk⟩ := sp_look h.lies
 rcases h.2.2 with ⟨e0, h0⟩ | ⟨g, cap, cur, e0, hg, _, hc, _⟩
 ·rw [spR_length] at h0
  omega
 ·cases e0
  rw [spR_length] at e hc ⊢
  cases e
  refine ⟨g, rfl, rfl, hc, (hl g rfl).2, hg, fun j hj => ?_⟩
  obtain ⟨g', off', e', _, h5⟩ := hlk j hj
  cases e'
  simpa only [Nat.zero_add] using h5
end Go.Proofs.YtnilgemgjlhibaaDoor
namespace Go.Proofs.YtnilgemgjlhibaaDoor
open Go.ChangeShapes Go.WideShapes Go.ChangeAt Go.RowKit Go.PlainAid
set_option linter.unusedVariables false
def FfAns (s key : ByteArray) (l : List Pnt) (ok : Bool) : Prop := (ok = true ∧ ∃ m j, GoodF s m ∧ j < m.length ∧ (sAt m j).key = key ∧ (∀ i, i < j → (sAt m i).key ≠ key) ∧ l = (sAt m j).pts) ∨ (ok = false ∧ l = [] ∧ ∀ m, GoodF s m → ∀ j, j < m.length → (sAt m j).key ≠ key)
theorem FfAns.one {s key : ByteArray} {l l' : List Pnt} {x y : Bool} (h : FfAns s key l x) (h' : FfAns s key l' y) : l = l' ∧ x = y := by
 rcases h with ⟨h1, m, j, h2, h3, h4, h5, h6⟩ | ⟨h1, h2, h3⟩ <;> rcases h' with ⟨h1', m', j', h2', h3', h4', h5', h6'⟩ | ⟨h1', h2', h3'⟩
 ·obtain rfl := h2.one h2'
  obtain rfl : j = j' := by
   rcases Nat.lt_trichotomy j j' with e | e | e
   ·exact absurd h4 (h5' j e)
   ·exact e
   ·exact absurd h4' (h5 j' e)
  exact ⟨h6.trans h6'.symm, h1.trans h1'.symm⟩
 ·exact absurd h4 (h3' m h2 j h3)
 ·exact absurd h4' (h3 m' h2' j' h3')
 ·exact ⟨h2.trans h2'.symm, h1.trans h1'.symm⟩
theorem FfAns.len {s key : ByteArray} {l : List Pnt} {x : Bool} (h : FfAns s key l x) : l.length ≤ 60 := by
 rcases h with ⟨_, m, j, h2, h3, _, _, h6⟩ | ⟨_, h2, _⟩
 ·rw [h6]
  exact (h2.2.1.2 j h3).2.2.1
 ·rw [h2]
  simp
def FfOk (s key : ByteArray) (w' : World) (b : Nat) (e : Ending) : Prop := ∃ v l ok, e = .returned (.tuple #[v, .bool ok]) ∧ FfAns s key l ok ∧ Owns w' b 39 2 v (ptR l)
end Go.Proofs.YtnilgemgjlhibaaDoor
namespace Go.Proofs.YtnilgemgjlhibaaDoor
open Go.ChangeShapes Go.WideShapes Go.ChangeAt Go.RowKit Go.PlainAid
set_option linter.unusedVariables false
theorem bn_out (s : ByteArray) (i : Nat) (h : s.size ≤ i) : bn s i = 0 := by
 unfold bn bt
 rw [dif_neg (by omega)]
 rfl
theorem bn_append_right (a b : ByteArray) (j : Nat) (h : j < b.size) : bn (a ++ b) (a.size + j) = bn b j := by
 rw [bn_get _ _ (by rw [ByteArray.size_append]; omega), bn_get _ _ h]
 congr 1
 rw [ByteArray.getElem_append_right (by omega)]
 congr 1
 omega
def turnT (s : ByteArray) (k z : Nat) : ByteArray := s.extract 0 k ++ txt [byt z] ++ s.extract (k + 1) s.size
theorem turn_facts (s : ByteArray) (k z : Nat) (hk : k < s.size) (hz : z < 256) : (turnT s k z).size = s.size ∧ bn (turnT s k z) k = z ∧ ∀ i, i ≠ k → bn s i = bn (turnT s k z) i := by
 have z1 : (s.extract 0 k).size = k := by rw [ByteArray.size_extract]; omega
 have z2 : (txt [byt z]).size = 1 := rfl
 have z3 : (s.extract (k + 1) s.size).size = s.size - (k + 1) := by rw [ByteArray.size_extract]; omega
 have z4 : (s.extract 0 k ++ txt [byt z]).size = k + 1 := by rw [ByteArray.size_append, z1, z2]
 have zt : (turnT s k z).size = s.size := by unfold turnT; rw [ByteArray.size_append, z4, z3]; omega
 refine ⟨zt, ?_, fun i hi => ?_⟩
 ·unfold turnT
  rw [bn_append_left _ _ _ (by omega)]
  have := bn_append_right (s.extract 0 k) (txt [byt z]) 0 (by omega)
  rw [z1, Nat.add_zero] at this
  rw [this, bn_txt _ _ (by simp)]
  simp [byt_toNat]
  omega
 ·rcases Nat.lt_or_ge i k with h | h
  ·unfold turnT
   rw [bn_append_left _ _ _ (by omega), bn_append_left _ _ _ (by omega), bn_front s k i h (by omega)]
  ·rcases Nat.lt_or_ge i s.size with h2 | h2
   ·unfold turnT
    have := bn_append_right (s.extract 0 k ++ txt [byt z]) (s.extract (k + 1) s.size) (i - (k + 1)) (by omega)
    rw [z4, show k + 1 + (i - (k + 1)) = i by omega] at this
    rw [this, bn_back s (k + 1) _ (by omega), show k + 1 + (i - (k + 1)) = i by omega]
   ·rw [bn_out s i h2, bn_out _ i (by omega)]
theorem GoodF.turn {s : ByteArray} {m : List Ser} (h : GoodF s m) (k z : Nat) (hk : k < s.size) (hz : z < 256) (hne : z ≠ bn s k) : ∀ m', ¬ GoodF (turnT s k z) m' := by
 obtain ⟨h1, h2, h3⟩ := turn_facts s k z hk hz
 exact h.turned h1 k hk (by rw [h2]; exact fun e => hne e.symm) h3
theorem xor_ne (x y : Nat) (hy : y ≠ 0) : x ^^^ y ≠ x := fun e => hy (by
 have := congrArg (x ^^^ ·) e
 simpa [← Nat.xor_assoc] using this)
theorem loT_min {m : List Ser} (j : Nat) : ∀ k, j < k → loT m k ≤ fT m j ∧ lT m j ≤ hiT m k
 | 0, h => by omega
 | k + 1, h => by
  rw [loT, hiT]
  by_cases e : j = k
  ·subst e; omega
  ·have := loT_min (m := m) j k (by omega)
   omega
theorem GoodF.found {s : ByteArray} {m : List Ser} (h : GoodF s m) (k : Nat) (hk : k < m.length) : FfAns s (sAt m k).key (sAt m k).pts true := .inl ⟨rfl, m, k, h, hk, rfl, fun i hi => SOk.keys_ne h.2.1 i k hi hk, rfl⟩
theorem GoodF.empty {m : List Ser} : ¬ GoodF ⟨#[]⟩ m := fun h => by
 have := h.sum.1
 simp [ByteArray.size] at this
end Go.Proofs.YtnilgemgjlhibaaDoor
namespace Go.Proofs.YtnilgemgjlhibaaDoor
open Go.ChangeShapes Go.WideShapes Go.ChangeAt Go.RowKit Go.PlainAid
set_option linter.unusedVariables false
set_option maxHeartbeats 1000000 in
theorem placeV (w : World) (g p : Nat) (hc : w.cell? ⟨g, 1, none⟩ = some (.int .i64 (p : Int))) : Calls Tryd.prog 20 #[.pointer (some ⟨g, 0, none⟩)] w fun e w' => e = .returned (.int .i64 (p : Int)) ∧ w = w' := by
 go_enter Tryd.func20, Tryd.ntmps20
 go_wp2
 go_ret
 exact ⟨rfl, rfl⟩
set_option maxHeartbeats 1000000 in
theorem goToV (t : ByteArray) (p a : Nat) (w : World) (g : Nat) (ty : TypeId) (hb : CurB w g t p ty) (hs : t.size ≤ 1048576) (ha : a ≤ 9007199254740992) : Calls Tryd.prog 38 #[.pointer (some ⟨g, 0, none⟩), .int .i64 (a : Int)] w fun e w' => (∃ u, e = .returned u) ∧ w' = w.setCell ⟨g, 1, none⟩ (.int .i64 ((min a t.size : Nat) : Int)) := by
 have c0 : w.cell? ⟨g, 0, none⟩ = some (.string t) := Blk.cell hb 0 _ rfl
 have c1 : w.cell? ⟨g, 1, none⟩ = some (.int .i64 (p : Int)) := Blk.cell hb 1 _ rfl
 have f1 := Blk.free hb 1
 have q0 : (t.size : Int) ≤ 1048576 := by omega
 have q1 : (a : Int) ≤ 9007199254740992 := by omega
 have hm : ((min a t.size : Nat) : Int) = min (a : Int) (t.size : Int) := by omega
 clear hb
 rw [hm]
 go_enter Tryd.func38, Tryd.ntmps38
 go_wp2_with fail
 exact bodyPost_end (v := .tuple #[]) (by simp [results, go_sem]) rfl ⟨⟨_, rfl⟩, rfl⟩
set_option maxHeartbeats 1000000 in
theorem writeV (t part : ByteArray) (w : World) (g p : Nat) (hb : CurB w g t p 48) (hs : t.size + part.size ≤ 1000000) : Calls Tryd.prog 18 #[.pointer (some ⟨g, 0, none⟩), .string part] w fun e w' => (∃ u, e = .returned u) ∧ CurB w' g (t ++ part) (t ++ part).size 48 ∧ KeptBut g w w' := by
 have HB : Hid (CurB w g t p 48) := hb
 have c0 : w.cell? ⟨g, 0, none⟩ = some (.string t) := Blk.cell hb 0 _ rfl
 have f0 := Blk.free hb 0
 have q0 : (t.size : Int) + (part.size : Int) ≤ 1000000 := by omega
 have HN : Hid ((t ++ part).size = t.size + part.size) := ByteArray.size_append
 clear hb hs
 have b1 := Blk.set HB.out 0 (.string (t ++ part))
 have B1 : Hid (CurB (w.setCell ⟨g, 0, none⟩ (.string (t ++ part))) g (t ++ part) p 48) := b1
 have K1 : Hid (KeptBut g w (w.setCell ⟨g, 0, none⟩ (.string (t ++ part)))) := (KeptBut.refl g w).set 0 _
 clear b1
 have q1 : ((t ++ part).size : Int) ≤ 1048576 := by have := HN.out; omega
 generalize htp : t ++ part = tp at *
 generalize hW : w.setCell ⟨g, 0, none⟩ (.string tp) = W1 at *
 have S0 : Hid (W1.drew.cell? ⟨g, 0, none⟩ = some (.string tp)) := Blk.cell B1.out 0 _ rfl
 have c1 := goToV tp p tp.size W1.drew g 48 B1.out (by omega) (by omega)
 have HM : Hid (min tp.size tp.size = tp.size) := Nat.min_self _
 rw [HM.out] at c1
 go_enter Tryd.func18, Tryd.ntmps18
 go_wp2_with fail
 refine wp_region_until (fun w' => w'.cell? ⟨g, 0, none⟩ = some (.string tp)) (fun _ => false) 10 (by rfl) (by kernel_rfl) ?_
 refine until_take 0 (v := ?_) (by rfl) (by kernel_rfl) (by exact fun _ _ _ h => h) (by rfl) ?_ S0.out ?_
 rotate_left
 ·intro w hSw
  try dsimp only at hSw
  go_simp
  try with_reducible rfl
 try simp only [Act.put, setIfInBounds_toArray, set_cons_zero, set_cons_succ]
 refine until_take 1 (v := ?_) (by rfl) (by kernel_rfl) (by exact fun _ _ _ h => h) (by rfl) ?_ S0.out ?_
 rotate_left
 ·intro w hSw
  try dsimp only at hSw
  go_simp
  try with_reducible rfl
 try simp only [Act.put, setIfInBounds_toArray, set_cons_zero, set_cons_succ]
 refine until_take 2 (v := ?_) (by rfl) (by kernel_rfl) (by exact fun _ _ _ h => h) (by rfl) ?_ S0.out ?_
 rotate_left
 ·intro w hSw
  try dsimp only at hSw
  go_simp
  try with_reducible rfl
 try simp only [Act.put, setIfInBounds_toArray, set_cons_zero, set_cons_succ]
 refine until_take 3 (v := ?_) (by rfl) (by kernel_rfl) (by exact fun _ _ _ h => h) (by rfl) ?_ S0.out ?_
 rotate_left
 ·intro w hSw
  try dsimp only at hSw
  go_simp
  try with_reducible rfl
 try simp only [Act.put, setIfInBounds_toArray, set_cons_zero, set_cons_succ]
 refine until_take 4 (v := ?_) (by rfl) (by kernel_rfl) (by exact fun _ _ _ h => h) (by rfl) ?_ S0.out ?_
 rotate_left
 ·intro w hSw
  try dsimp only at hSw
  go_simp
  try with_reducible rfl
 try simp only [Act.put, setIfInBounds_toArray, set_cons_zero, set_cons_succ]
 refine until_take 5 (v := ?_) (by rfl) (by kernel_rfl) (by exact fun _ _ _ h => h) (by rfl) ?_ S0.out ?_
 rotate_left
 ·intro w hSw
  try dsimp only at hSw
  go_simp
  try with_reducible rfl
 try simp only [Act.put, setIfInBounds_toArray, set_cons_zero, set_cons_succ]
 refine until_take 6 (v := ?_) (by rfl) (by kernel_rfl) (by exact fun _ _ _ h => h) (by rfl) ?_ S0.out ?_
 rotate_left
 ·intro w hSw
  try dsimp only at hSw
  go_simp
  try with_reducible rfl
 try simp only [Act.put, setIfInBounds_toArray, set_cons_zero, set_cons_succ]
 refine until_take 7 (v := ?_) (by rfl) (by kernel_rfl) (by exact fun _ _ _ h => h) (by rfl) ?_ S0.out ?_
 rotate_left
 ·intro w hSw
  try dsimp only at hSw
  go_simp
  try with_reducible rfl
 try simp only [Act.put, setIfInBounds_toArray, set_cons_zero, set_cons_succ]
 refine until_take 8 (v := ?_) (by rfl) (by kernel_rfl) (by exact fun _ _ _ h => h) (by rfl) ?_ S0.out ?_
 rotate_left
 ·intro w hSw
  try dsimp only at hSw
  go_simp
  try with_reducible rfl
 try simp only [Act.put, setIfInBounds_toArray, set_cons_zero, set_cons_succ]
 refine until_one 9 (by rfl) (by kernel_rfl) (fun K hK => ?_)
 go_simp
 refine c1.mono ?_
 rintro e w2 ⟨⟨u, rfl⟩, rfl⟩
 have B2 : Hid (CurB (W1.drew.setCell ⟨g, 1, none⟩ (.int .i64 (tp.size : Int))) g tp tp.size 48) := Blk.set B1.out 1 _
 have K2 : Hid (KeptBut g w (W1.drew.setCell ⟨g, 1, none⟩ (.int .i64 (tp.size : Int)))) := K1.out.drew.set 1 _
 go_wp2_with fail
 refine hK.out _ _ (fun _ _ => Blk.cell B2.out 0 _ rfl) ?_
 clear hK K
 try simp only [Act.put, setIfInBounds_toArray, set_cons_zero, set_cons_succ]
 refine until_done (by kernel_rfl) ?_ _
 go_wp2_with fail
 exact bodyPost_end (v := .tuple #[]) (by simp [results, go_sem]) rfl ⟨⟨_, rfl⟩, B2.out, K2.out⟩
end Go.Proofs.YtnilgemgjlhibaaDoor
namespace Go.Proofs.YtnilgemgjlhibaaDoor
open Go.ChangeShapes Go.WideShapes Go.ChangeAt Go.RowKit Go.PlainAid
set_option linter.unusedVariables false
set_option maxHeartbeats 2000000 in
theorem takeVarV (s : ByteArray) (p g : Nat) (w : World) (hb : CurB w g s p 82) (hs : s.size ≤ 1048576) (hp : p ≤ s.size) : Calls Tryd.prog 55 #[.pointer (some ⟨g, 0, none⟩)] w fun e w' => e = .returned (.int .i64 (tkN s p : Int)) ∧ CurB w' g s (tkP s p) 82 ∧ KeptBut g w w' := by
 have HB : Hid (CurB w g s p 82) := hb
 have S0 : Hid (w.drew.cell? ⟨g, 0, none⟩ = some (.string s) ∧ w.drew.cell? ⟨g, 1, none⟩ = some (.int .i64 (p : Int))) := ⟨Blk.cell hb 0 _ rfl, Blk.cell hb 1 _ rfl⟩
 have S1 : Hid (w.drew.drew.cell? ⟨g, 0, none⟩ = some (.string s) ∧ w.drew.drew.cell? ⟨g, 1, none⟩ = some (.int .i64 (p : Int))) := S0.out
 have HS : Hid (s.size ≤ 1048576) := hs
 have q0 : (s.size : Int) ≤ 1048576 := by omega
 have q1 : (p : Int) ≤ (s.size : Int) := by omega
 have hk := rvK_le (rest s p)
 rw [rest_size] at hk
 have HK : Hid (tkP s p = p + rvK (rest s p) ∧ tkN s p = rvN (rest s p) ∧ tkP s p ≤ s.size) := ⟨rfl, rfl, tkP_le s p hp⟩
 have c1 : Calls Tryd.prog 57 #[.string (s.extract p s.size)] w.drew fun e w' => e = .returned (.tuple #[.int .i64 (rvN (rest s p) : Int), .int .i64 (rvK (rest s p) : Int)]) ∧ w.drew = w' := by
  refine (impl_readVar (s.extract p s.size) w.drew (by rw [ByteArray.size_extract]; omega)).mono ?_
  rintro e w' ⟨h, rfl⟩
  obtain ⟨n, k, h1, rfl⟩ := h.rd
  obtain ⟨rfl, rfl⟩ := rv_is h1
  exact ⟨rfl, rfl⟩
 clear hb hs hp
 generalize rvN (rest s p) = nn at *
 generalize rvK (rest s p) = kk at *
 have q2 : (p : Int) + (kk : Int) ≤ (s.size : Int) := by omega
 have HM : Hid (min (p + kk) s.size = p + kk) := by unfold Hid; omega
 have e8 : IntKind.i64.wrap ((p : Int) + (kk : Int)) = (p : Int) + (kk : Int) := by rw [IntKind.wrap_i64]; omega
 have cg := goToV s p (p + kk) w.drew.drew g 82 HB.out HS.out (by have := HS.out; omega)
 rw [HM.out] at cg
 rw [Int.natCast_add] at cg
 go_enter Tryd.func55, Tryd.ntmps55
 go_wp2_with fail
 refine wp_region_until (fun w' => w'.cell? ⟨g, 0, none⟩ = some (.string s) ∧ w'.cell? ⟨g, 1, none⟩ = some (.int .i64 (p : Int))) (fun _ => false) 16 (by rfl) (by kernel_rfl) ?_
 refine until_take 0 (v := ?_) (by rfl) (by kernel_rfl) (by exact fun _ _ _ h => h) (by rfl) ?_ S0.out ?_
 rotate_left
 ·intro w hSw
  try dsimp only at hSw
  go_simp
  try with_reducible rfl
 try simp only [Act.put, setIfInBounds_toArray, set_cons_zero, set_cons_succ]
 refine until_take 1 (v := ?_) (by rfl) (by kernel_rfl) (by exact fun _ _ _ h => h) (by rfl) ?_ S0.out ?_
 rotate_left
 ·intro w hSw
  try dsimp only at hSw
  go_simp
  try with_reducible rfl
 try simp only [Act.put, setIfInBounds_toArray, set_cons_zero, set_cons_succ]
 refine until_take 2 (v := ?_) (by rfl) (by kernel_rfl) (by exact fun _ _ _ h => h) (by rfl) ?_ S0.out ?_
 rotate_left
 ·intro w hSw
  try dsimp only at hSw
  go_simp
  try with_reducible rfl
 try simp only [Act.put, setIfInBounds_toArray, set_cons_zero, set_cons_succ]
 refine until_take 3 (v := ?_) (by rfl) (by kernel_rfl) (by exact fun _ _ _ h => h) (by rfl) ?_ S0.out ?_
 rotate_left
 ·intro w hSw
  try dsimp only at hSw
  go_simp
  try with_reducible rfl
 try simp only [Act.put, setIfInBounds_toArray, set_cons_zero, set_cons_succ]
 refine until_take 4 (v := ?_) (by rfl) (by kernel_rfl) (by exact fun _ _ _ h => h) (by rfl) ?_ S0.out ?_
 rotate_left
 ·intro w hSw
  try dsimp only at hSw
  go_simp
  try with_reducible rfl
 try simp only [Act.put, setIfInBounds_toArray, set_cons_zero, set_cons_succ]
 refine until_take 5 (v := ?_) (by rfl) (by kernel_rfl) (by exact fun _ _ _ h => h) (by rfl) ?_ S0.out ?_
 rotate_left
 ·intro w hSw
  try dsimp only at hSw
  go_simp
  try with_reducible rfl
 try simp only [Act.put, setIfInBounds_toArray, set_cons_zero, set_cons_succ]
 refine until_take 6 (v := ?_) (by rfl) (by kernel_rfl) (by exact fun _ _ _ h => h) (by rfl) ?_ S0.out ?_
 rotate_left
 ·intro w hSw
  try dsimp only at hSw
  go_simp
  try with_reducible rfl
 try simp only [Act.put, setIfInBounds_toArray, set_cons_zero, set_cons_succ]
 refine until_take 7 (v := ?_) (by rfl) (by kernel_rfl) (by exact fun _ _ _ h => h) (by rfl) ?_ S0.out ?_
 rotate_left
 ·intro w hSw
  try dsimp only at hSw
  go_simp
  try with_reducible rfl
 try simp only [Act.put, setIfInBounds_toArray, set_cons_zero, set_cons_succ]
 refine until_one 8 (by rfl) (by kernel_rfl) (fun K hK => ?_)
 go_simp
 refine (placeV _ g p S0.out.2).mono ?_
 rintro e w' ⟨rfl, rfl⟩
 go_wp2_with fail
 refine hK.out _ _ (fun _ h => h) ?_
 clear hK K
 try simp only [Act.put, setIfInBounds_toArray, set_cons_zero, set_cons_succ]
 refine until_pure 9 (v := ?_) (by rfl) (by kernel_rfl) (by exact fun _ _ _ h => h) (by rfl) ?_ ?_
 rotate_left
 ·intro w
  go_simp
  try with_reducible rfl
 try simp only [Act.put, setIfInBounds_toArray, set_cons_zero, set_cons_succ]
 refine until_one 10 (by rfl) (by kernel_rfl) (fun K hK => ?_)
 go_simp
 refine c1.mono ?_
 rintro e w' ⟨rfl, rfl⟩
 go_wp2_with fail
 refine hK.out _ _ (fun _ h => h) ?_
 clear hK K
 try simp only [Act.put, setIfInBounds_toArray, set_cons_zero, set_cons_succ]
 refine until_pure 11 (v := ?_) (by rfl) (by kernel_rfl) (by exact fun _ _ _ h => h) (by rfl) ?_ ?_
 rotate_left
 ·intro w
  go_simp
  try with_reducible rfl
 try simp only [Act.put, setIfInBounds_toArray, set_cons_zero, set_cons_succ]
 refine until_pure 12 (v := ?_) (by rfl) (by kernel_rfl) (by exact fun _ _ _ h => h) (by rfl) ?_ ?_
 rotate_left
 ·intro w
  go_simp
  try with_reducible rfl
 try simp only [Act.put, setIfInBounds_toArray, set_cons_zero, set_cons_succ]
 refine until_pure 13 (v := ?_) (by rfl) (by kernel_rfl) (by exact fun _ _ _ h => h) (by rfl) ?_ ?_
 rotate_left
 ·intro w
  go_simp
  try with_reducible rfl
 try simp only [Act.put, setIfInBounds_toArray, set_cons_zero, set_cons_succ]
 refine until_pure 14 (v := ?_) (by rfl) (by kernel_rfl) (by exact fun _ _ _ h => h) (by rfl) ?_ ?_
 rotate_left
 ·intro w
  go_simp
  try with_reducible rfl
 try simp only [Act.put, setIfInBounds_toArray, set_cons_zero, set_cons_succ]
 refine until_pure 15 (v := ?_) (by rfl) (by kernel_rfl) (by exact fun _ _ _ h => h) (by rfl) ?_ ?_
 rotate_left
 ·intro w
  go_simp
  try with_reducible rfl
 try simp only [Act.put, setIfInBounds_toArray, set_cons_zero, set_cons_succ]
 refine until_done (by kernel_rfl) ?_ _
 go_wp2_with fail
 refine wp_region_until (fun w' => w'.cell? ⟨g, 0, none⟩ = some (.string s) ∧ w'.cell? ⟨g, 1, none⟩ = some (.int .i64 (p : Int))) (fun i => i == 9) 10 (by rfl) (by kernel_rfl) ?_
 refine until_take 0 (v := ?_) (by rfl) (by kernel_rfl) (by exact fun _ _ _ h => h) (by rfl) ?_ S0.out ?_
 rotate_left
 ·intro w hSw
  try dsimp only at hSw
  go_simp
  try with_reducible rfl
 try simp only [Act.put, setIfInBounds_toArray, set_cons_zero, set_cons_succ]
 refine until_take 1 (v := ?_) (by rfl) (by kernel_rfl) (by exact fun _ _ _ h => h) (by rfl) ?_ S0.out ?_
 rotate_left
 ·intro w hSw
  try dsimp only at hSw
  go_simp
  try with_reducible rfl
 try simp only [Act.put, setIfInBounds_toArray, set_cons_zero, set_cons_succ]
 refine until_take 2 (v := ?_) (by rfl) (by kernel_rfl) (by exact fun _ _ _ h => h) (by rfl) ?_ S0.out ?_
 rotate_left
 ·intro w hSw
  try dsimp only at hSw
  go_simp
  try with_reducible rfl
 try simp only [Act.put, setIfInBounds_toArray, set_cons_zero, set_cons_succ]
 refine until_take 3 (v := ?_) (by rfl) (by kernel_rfl) (by exact fun _ _ _ h => h) (by rfl) ?_ S0.out ?_
 rotate_left
 ·intro w hSw
  try dsimp only at hSw
  go_simp
  try with_reducible rfl
 try simp only [Act.put, setIfInBounds_toArray, set_cons_zero, set_cons_succ]
 refine until_take 4 (v := ?_) (by rfl) (by kernel_rfl) (by exact fun _ _ _ h => h) (by rfl) ?_ S0.out ?_
 rotate_left
 ·intro w hSw
  try dsimp only at hSw
  go_simp
  try with_reducible rfl
 try simp only [Act.put, setIfInBounds_toArray, set_cons_zero, set_cons_succ]
 refine until_take 5 (v := ?_) (by rfl) (by kernel_rfl) (by exact fun _ _ _ h => h) (by rfl) ?_ S0.out ?_
 rotate_left
 ·intro w hSw
  try dsimp only at hSw
  go_simp
  try with_reducible rfl
 try simp only [Act.put, setIfInBounds_toArray, set_cons_zero, set_cons_succ]
 refine until_take 7 (v := ?_) (by rfl) (by kernel_rfl) (by exact fun _ _ _ h => h) (by rfl) ?_ S0.out ?_
 rotate_left
 ·intro w hSw
  try dsimp only at hSw
  go_simp
  try with_reducible rfl
 try simp only [Act.put, setIfInBounds_toArray, set_cons_zero, set_cons_succ]
 refine until_one 6 (by rfl) (by kernel_rfl) (fun K hK => ?_)
 go_simp
 refine (placeV w.drew.drew g p S1.out.2).mono ?_
 rintro e w' ⟨rfl, rfl⟩
 go_wp2_with fail
 refine hK.out _ _ (fun _ h => h) ?_
 clear hK K
 try simp only [Act.put, setIfInBounds_toArray, set_cons_zero, set_cons_succ]
 refine until_pure 8 (v := ?_) (by rfl) (by kernel_rfl) (by exact fun _ _ _ h => h) (by rfl) ?_ ?_
 rotate_left
 ·intro w
  go_simp
  try with_reducible rfl
 try simp only [Act.put, setIfInBounds_toArray, set_cons_zero, set_cons_succ]
 refine until_one 9 (by rfl) (by kernel_rfl) (fun K hK => ?_)
 go_simp
 refine cg.mono ?_
 rintro e w2 ⟨⟨u, rfl⟩, rfl⟩
 have B2 : Hid (CurB (w.drew.drew.setCell ⟨g, 1, none⟩ (.int .i64 ((p : Int) + (kk : Int)))) g s (tkP s p) 82) := by
  unfold Hid CurB
  rw [HK.out.1, Int.natCast_add]
  exact Blk.set HB.out 1 _
 have K2 : Hid (KeptBut g w (w.drew.drew.setCell ⟨g, 1, none⟩ (.int .i64 ((p : Int) + (kk : Int))))) := (KeptBut.refl g w).drew.drew.set 1 _
 go_wp2_with fail
 refine hK.out _ _ (fun hx _ => absurd hx (by decide)) ?_
 clear hK K
 try simp only [Act.put, setIfInBounds_toArray, set_cons_zero, set_cons_succ]
 refine until_done (by kernel_rfl) ?_ _
 go_wp2_with fail
 go_ret
 exact ⟨by rw [HK.out.2.1]; rfl, B2.out, K2.out⟩
set_option maxHeartbeats 2000000 in
theorem takeV (s : ByteArray) (p many g : Nat) (w : World) (hb : CurB w g s p 82) (hs : s.size ≤ 1048576) (hp : p ≤ s.size) (hm : many ≤ 562949953421311) : Calls Tryd.prog 47 #[.pointer (some ⟨g, 0, none⟩), .int .i64 (many : Int)] w fun e w' => e = .returned (.string (s.extract p (tk s p many))) ∧ CurB w' g s (tk s p many) 82 ∧ KeptBut g w w' := by
 have HB : Hid (CurB w g s p 82) := hb
 have m0 : w.cell? ⟨g, 1, none⟩ = some (.int .i64 (p : Int)) := Blk.cell hb 1 _ rfl
 have q0 : (s.size : Int) ≤ 1048576 := by omega
 have q1 : (p : Int) ≤ (s.size : Int) := by omega
 have q2 : (many : Int) ≤ 562949953421311 := by omega
 have HT : Hid (min (p + many) s.size = tk s p many) := rfl
 have htk : tk s p many ≤ s.size ∧ p ≤ tk s p many := by unfold tk; omega
 have cg := goToV s p (p + many) w g 82 hb hs (by omega)
 rw [HT.out, Int.natCast_add] at cg
 clear hb hs hp hm
 generalize hq : tk s p many = q at *
 have q3 : (q : Int) ≤ (s.size : Int) := by omega
 have q4 : (p : Int) ≤ (q : Int) := by omega
 have e5 : ((q : Int)).toNat = q := by omega
 have B2 : Hid (CurB (w.setCell ⟨g, 1, none⟩ (.int .i64 (q : Int))).drew g s q 82) := Blk.set HB.out 1 _
 have K2 : Hid (KeptBut g w (w.setCell ⟨g, 1, none⟩ (.int .i64 (q : Int))).drew) := ((KeptBut.refl g w).set 1 _).drew
 have S0 : Hid ((w.setCell ⟨g, 1, none⟩ (.int .i64 (q : Int))).drew.cell? ⟨g, 0, none⟩ = some (.string s) ∧ (w.setCell ⟨g, 1, none⟩ (.int .i64 (q : Int))).drew.cell? ⟨g, 1, none⟩ = some (.int .i64 (q : Int))) := ⟨Blk.cell B2.out 0 _ rfl, Blk.cell B2.out 1 _ rfl⟩
 clear hq HT htk
 go_enter Tryd.func47, Tryd.ntmps47
 go_wp2_with fail
 refine (placeV w g p m0).mono ?_
 rintro e w' ⟨rfl, rfl⟩
 go_wp2_with fail
 refine cg.mono ?_
 rintro e w2 ⟨⟨u, rfl⟩, rfl⟩
 go_wp2_with fail
 refine wp_region_until (fun w' => w'.cell? ⟨g, 0, none⟩ = some (.string s) ∧ w'.cell? ⟨g, 1, none⟩ = some (.int .i64 (q : Int))) (fun _ => false) 12 (by rfl) (by kernel_rfl) ?_
 refine until_take 0 (v := ?_) (by rfl) (by kernel_rfl) (by exact fun _ _ _ h => h) (by rfl) ?_ S0.out ?_
 rotate_left
 ·intro w hSw
  try dsimp only at hSw
  go_simp
  try with_reducible rfl
 try simp only [Act.put, setIfInBounds_toArray, set_cons_zero, set_cons_succ]
 refine until_take 1 (v := ?_) (by rfl) (by kernel_rfl) (by exact fun _ _ _ h => h) (by rfl) ?_ S0.out ?_
 rotate_left
 ·intro w hSw
  try dsimp only at hSw
  go_simp
  try with_reducible rfl
 try simp only [Act.put, setIfInBounds_toArray, set_cons_zero, set_cons_succ]
 refine until_take 2 (v := ?_) (by rfl) (by kernel_rfl) (by exact fun _ _ _ h => h) (by rfl) ?_ S0.out ?_
 rotate_left
 ·intro w hSw
  try dsimp only at hSw
  go_simp
  try with_reducible rfl
 try simp only [Act.put, setIfInBounds_toArray, set_cons_zero, set_cons_succ]
 refine until_take 3 (v := ?_) (by rfl) (by kernel_rfl) (by exact fun _ _ _ h => h) (by rfl) ?_ S0.out ?_
 rotate_left
 ·intro w hSw
  try dsimp only at hSw
  go_simp
  try with_reducible rfl
 try simp only [Act.put, setIfInBounds_toArray, set_cons_zero, set_cons_succ]
 refine until_take 4 (v := ?_) (by rfl) (by kernel_rfl) (by exact fun _ _ _ h => h) (by rfl) ?_ S0.out ?_
 rotate_left
 ·intro w hSw
  try dsimp only at hSw
  go_simp
  try with_reducible rfl
 try simp only [Act.put, setIfInBounds_toArray, set_cons_zero, set_cons_succ]
 refine until_take 5 (v := ?_) (by rfl) (by kernel_rfl) (by exact fun _ _ _ h => h) (by rfl) ?_ S0.out ?_
 rotate_left
 ·intro w hSw
  try dsimp only at hSw
  go_simp
  try with_reducible rfl
 try simp only [Act.put, setIfInBounds_toArray, set_cons_zero, set_cons_succ]
 refine until_take 6 (v := ?_) (by rfl) (by kernel_rfl) (by exact fun _ _ _ h => h) (by rfl) ?_ S0.out ?_
 rotate_left
 ·intro w hSw
  try dsimp only at hSw
  go_simp
  try with_reducible rfl
 try simp only [Act.put, setIfInBounds_toArray, set_cons_zero, set_cons_succ]
 refine until_take 7 (v := ?_) (by rfl) (by kernel_rfl) (by exact fun _ _ _ h => h) (by rfl) ?_ S0.out ?_
 rotate_left
 ·intro w hSw
  try dsimp only at hSw
  go_simp
  try with_reducible rfl
 try simp only [Act.put, setIfInBounds_toArray, set_cons_zero, set_cons_succ]
 refine until_take 8 (v := ?_) (by rfl) (by kernel_rfl) (by exact fun _ _ _ h => h) (by rfl) ?_ S0.out ?_
 rotate_left
 ·intro w hSw
  try dsimp only at hSw
  go_simp
  try with_reducible rfl
 try simp only [Act.put, setIfInBounds_toArray, set_cons_zero, set_cons_succ]
 refine until_one 9 (by rfl) (by kernel_rfl) (fun K hK => ?_)
 go_simp
 refine (placeV _ g q S0.out.2).mono ?_
 rintro e w' ⟨rfl, rfl⟩
 go_wp2_with fail
 refine hK.out _ _ (fun _ h => h) ?_
 clear hK K
 try simp only [Act.put, setIfInBounds_toArray, set_cons_zero, set_cons_succ]
 refine until_pure 10 (v := ?_) (by rfl) (by kernel_rfl) (by exact fun _ _ _ h => h) (by rfl) ?_ ?_
 rotate_left
 ·intro w
  go_simp
  try with_reducible rfl
 try simp only [Act.put, setIfInBounds_toArray, set_cons_zero, set_cons_succ]
 refine until_pure 11 (v := ?_) (by rfl) (by kernel_rfl) (by exact fun _ _ _ h => h) (by rfl) ?_ ?_
 rotate_left
 ·intro w
  go_simp
  try with_reducible rfl
 try simp only [Act.put, setIfInBounds_toArray, set_cons_zero, set_cons_succ]
 refine until_done (by kernel_rfl) ?_ _
 go_wp2_with fail
 go_ret
 exact ⟨rfl, B2.out, K2.out⟩
end Go.Proofs.YtnilgemgjlhibaaDoor
namespace Go.Proofs.YtnilgemgjlhibaaDoor
open Go.ChangeShapes Go.WideShapes Go.ChangeAt Go.RowKit Go.PlainAid
set_option linter.unusedVariables false
theorem dec_of {p : Prop} [Decidable p] (b : Bool) (h : b = true ↔ p) : decide p = b := by
 cases b
 ·exact decide_eq_false fun hp => by simp [hp] at h
 ·exact decide_eq_true (h.1 rfl)
set_option maxHeartbeats 1000000 in
theorem implPointsOk (l : List Pnt) (v : Value) (w : World) (B : Nat) (hv : Lies w B 2 v (ptR l)) (hn : l.length ≤ 1048576) (hB : B ≤ w.heap.size) : Calls Tryd.prog 37 #[v] w fun e w' => e = .returned (.bool (decide (POk l))) ∧ Below w.heap.size w w' := by
 obtain ⟨A, cap, rfl, hl⟩ := pt_look hv
 have HL : Hid (∀ j, j < l.length → ∃ g off, A = some ⟨g, off, none⟩ ∧ g < B ∧ w.cell? ⟨g, off + j * 2, none⟩ = some (.int .i64 (tAt l j)) ∧ w.cell? ⟨g, off + j * 2 + 1, none⟩ = some (.int .i64 (vAt l j))) := hl
 have HB : Hid (B ≤ w.heap.size) := hB
 have HD : Hid (∀ b, (b = true ↔ POk l) → decide (POk l) = b) := fun b hb => dec_of b hb
 have HV : Hid (POk l ↔ l.length ≤ 60 ∧ ∀ j, j < l.length → ((0 ≤ tAt l j ∧ tAt l j ≤ 1099511627776) ∧ (-1099511627776 ≤ vAt l j ∧ vAt l j ≤ 1099511627776)) ∧ (0 < j → tAt l (j - 1) < tAt l j)) := Iff.rfl
 have q0 : (l.length : Int) ≤ 1048576 := by omega
 clear hl hn hv hB
 generalize hN : l.length = n at *
 clear hN
 by_cases h2 : (60 : Int) < (n : Int)
 ·go_enter Tryd.func37, Tryd.ntmps37
  go_wp2
  go_ret
  refine ⟨?_, Below.refl _ _⟩
  rw [HD.out false]
  ·rfl
  rw [HV.out]
  exact ⟨fun h => (by cases h), fun h => by omega⟩
 have q1 : (n : Int) ≤ 60 := by omega
 clear h2
 go_enter Tryd.func37, Tryd.ntmps37
 go_wp2
 go_loopw [3, 11] (fun v3 v11 wr => ∃ (k : Nat) (m : Int), k ≤ n ∧ v11 = .int .i64 (k : Int) ∧ v3 = .int .i64 m ∧ 0 ≤ m ∧ m ≤ 1099511627777 ∧ Hid ((k = 0 → m = 0) ∧ (0 < k → m = tAt l (k - 1) + 1)) ∧ Below w.heap.size w wr ∧ Hid (∀ j, j < k → ((0 ≤ tAt l j ∧ tAt l j ≤ 1099511627776) ∧ (-1099511627776 ≤ vAt l j ∧ vAt l j ≤ 1099511627776)) ∧ (0 < j → tAt l (j - 1) < tAt l j))) (fun _ i _ => n - (intOf i).toNat)
 case atStart => exact ⟨0, 0, by omega, rfl, rfl, by omega, by omega, ⟨fun _ => rfl, fun h => by omega⟩, Below.refl _ _, fun j hj => by omega⟩
 case round =>
  obtain ⟨k, m, hk, rfl, rfl, hm0, hm1, HM, hb, HJ⟩ := hrel
  have HB1 : Hid (Below w.heap.size w wr) := hb
  clear hb
  by_cases hlt : k < n
  ·have q2 : (k : Int) < (n : Int) := by omega
   obtain ⟨g, off, rfl, hg, e1, e2⟩ := HL.out k hlt
   have hgw : g < w.heap.size := Nat.lt_of_lt_of_le hg HB.out
   rw [← HB1.out.cell (p := ⟨_, _, none⟩) hgw] at e1
   rw [← HB1.out.cell (p := ⟨_, _, none⟩) hgw] at e2
   have HBa : Hid (∀ cs cs' : Array Value, Below w.heap.size w ((wr.alloc (.cells cs 39)))) := fun cs _ => HB1.out.alloc HB1.out.size _
   generalize hx : tAt l k = x at *
   have HX : Hid (tAt l k = x) := hx
   clear hx
   generalize hy : vAt l k = y at *
   have HY : Hid (vAt l k = y) := hy
   clear hy hgw hg
   have HNo : Hid ((x < m ∨ 1099511627776 < x ∨ y < -1099511627776 ∨ 1099511627776 < y) → decide (POk l) = false) := fun h => by
    apply HD.out
    rw [HV.out]
    refine ⟨fun h => (by cases h), fun h2 => ?_⟩
    have h3 := h2.2 k hlt
    rw [HX.out, HY.out] at h3
    have h4 := HM.out
    by_cases h0 : k = 0
    ·have := h4.1 h0; omega
    ·have := h4.2 (by omega); have := h3.2 (by omega); omega
   by_cases c1 : x < m
   ·skip
    go_wp2
    go_ret
    exact ⟨by rw [HNo.out (.inl c1)]; rfl, HBa.out _ #[]⟩
   by_cases c2 : 1099511627776 < x
   ·skip
    go_wp2
    go_ret
    exact ⟨by rw [HNo.out (.inr (.inl c2))]; rfl, HBa.out _ #[]⟩
   by_cases c3 : y < -1099511627776
   ·skip
    go_wp2
    go_ret
    exact ⟨by rw [HNo.out (.inr (.inr (.inl c3)))]; rfl, HBa.out _ #[]⟩
   by_cases c4 : 1099511627776 < y
   ·skip
    go_wp2
    go_ret
    exact ⟨by rw [HNo.out (.inr (.inr (.inr c4)))]; rfl, HBa.out _ #[]⟩
   go_wp2
   go_roundw
   case rel =>
    refine ⟨k + 1, x + 1, by omega, by go_num, by go_num, by omega, by omega, ⟨fun h => by omega, fun _ => by rw [Nat.add_sub_cancel, HX.out]⟩, HBa.out _ #[], fun j hj => ?_⟩
    by_cases e : j = k
    ·subst e
     rw [HX.out, HY.out]
     have h4 := HM.out
     refine ⟨⟨⟨by omega, by omega⟩, by omega, by omega⟩, fun h => ?_⟩
     have := h4.2 h
     omega
    ·exact HJ.out j (by omega)
   case measure => simp [intOf]; omega
  ·have hkk : k = n := by omega
   subst hkk
   go_wp2
   go_ret
   refine ⟨?_, HB1.out⟩
   rw [HD.out true]
   ·rfl
   rw [HV.out]
   exact ⟨fun _ => ⟨by omega, HJ.out⟩, fun _ => rfl⟩
end Go.Proofs.YtnilgemgjlhibaaDoor
namespace Go.Proofs.YtnilgemgjlhibaaDoor
open Go
theorem until_skip {P : Program} {Q : Exit → Act → World → Prop} {md : Region.Mode} {S : World → Prop} {T : Nat → Bool} {l : List Oper} (i : Nat) {oi : Oper} {rest : List Oper} {fuel : Nat} {listed : Array Bool} {a : Act} {w : World} (hd : l.drop i = oi :: rest) (hB : pureB md l.toArray listed i = true)
  (hQ : ∀ c a w, Q (.panic c) (a.put oi.dst undef) w → Q (.panic c) a w) (hw : Region.wanted oi (yielded l.toArray a.tmps) = false)
  (h : wpUntil P md l.toArray Q S T fuel (listed.setIfInBounds i true) (a.put oi.dst undef) w) : wpUntil P md l.toArray Q S T (fuel + 1) listed a w := by
 unfold pureB at hB
 simp only [Bool.and_eq_true] at hB
 obtain ⟨⟨hs, hf⟩, hr⟩ := hB
 exact wpUntil_pure (drop_at hd) (Region.noSelect_spec hs) hQ fuel listed a w (Region.free_spec (drop_at hd) hf) (by simpa using hr) (.inr ⟨hw, rfl⟩) h
end Go.Proofs.YtnilgemgjlhibaaDoor
