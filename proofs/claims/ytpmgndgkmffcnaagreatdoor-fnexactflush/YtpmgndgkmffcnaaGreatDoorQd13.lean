/- BtRd BtRow -/
import Derived.Test.YtpmgndgkmffcnaaGreatDoorRows
import Derived.Test.YtpmgndgkmffcnaaGreatDoorQd11
import Derived.Test.YtpmgndgkmffcnaaGreatDoorQd12
import Derived.Test.YtpmgndgkmffcnaaGreatDoorQd7
open List (setIfInBounds_toArray set_cons_zero set_cons_succ)
namespace Go.Proofs.YtpmgndgkmffcnaaGreatDoor
open Go.ChangeShapes Go.WideShapes Go.ChangeAt Go.RowKit Go.PlainAid
set_option linter.unusedVariables false
def Rd (s : ByteArray) : Nat → List Int → Nat → Prop
 | 0, l, n => l = [] ∧ n = 0
 | k + 1, l, n => ∃ l' n' m, Rd s k l' n' ∧ FindV (s.extract n' s.size) m ∧ l = l' ++ [(vvS (s.extract n' s.size) 0 m : Int)] ∧ n = n' + m
def RdNo (s : ByteArray) (k : Nat) : Prop := ∃ j l n, j < k ∧ Rd s j l n ∧ ∀ m, ¬ FindV (s.extract n s.size) m
theorem Rd.one {s : ByteArray} : ∀ {k : Nat} {l l' : List Int} {n n' : Nat}, Rd s k l n → Rd s k l' n' → l = l' ∧ n = n'
 | 0, _, _, _, _, h, h' => ⟨h.1.trans h'.1.symm, h.2.trans h'.2.symm⟩
 | k + 1, _, _, _, _, ⟨a, b, m, h1, h2, h3, h4⟩, ⟨a', b', m', h1', h2', h3', h4'⟩ => by
  obtain ⟨rfl, rfl⟩ := Rd.one h1 h1'
  have := h2.one h2'
  subst this
  exact ⟨h3.trans h3'.symm, h4.trans h4'.symm⟩
theorem Rd.before {s : ByteArray} : ∀ {k : Nat} {l : List Int} {n : Nat}, Rd s k l n → ∀ j, j < k → ∃ l' n' m, Rd s j l' n' ∧ FindV (s.extract n' s.size) m
 | 0, _, _, _, j, hj => by omega
 | k + 1, _, _, ⟨a, b, m, h1, h2, h3, h4⟩, j, hj => by
  by_cases e : j = k
  ·subst e; exact ⟨a, b, m, h1, h2⟩
  ·exact Rd.before h1 j (by omega)
theorem Rd.no {s : ByteArray} {k : Nat} {l : List Int} {n : Nat} (h : Rd s k l n) : ¬ RdNo s k := by
 rintro ⟨j, l', n', hj, h1, h2⟩
 obtain ⟨l2, n2, m, h3, h4⟩ := h.before j hj
 obtain ⟨rfl, rfl⟩ := h1.one h3
 exact h2 m h4
theorem Rd.length {s : ByteArray} : ∀ {k : Nat} {l : List Int} {n : Nat}, Rd s k l n → l.length = k
 | 0, _, _, h => by rw [h.1]; rfl
 | k + 1, _, _, ⟨a, b, m, h1, h2, h3, h4⟩ => by rw [h3, List.length_append, Rd.length h1]; rfl
theorem Rd.le {s : ByteArray} : ∀ {k : Nat} {l : List Int} {n : Nat}, Rd s k l n → k ≤ n ∧ n ≤ s.size
 | 0, _, _, h => by rw [h.2]; omega
 | k + 1, _, _, ⟨a, b, m, h1, h2, h3, h4⟩ => by
  have h5 := Rd.le h1
  obtain ⟨h6, h7, h8, _⟩ := h2
  rw [ByteArray.size_extract] at h8
  omega
theorem Rd.bound {s : ByteArray} : ∀ {k : Nat} {l : List Int} {n : Nat}, Rd s k l n → ∀ z ∈ l, 0 ≤ z ∧ z ≤ 562949953421311
 | 0, _, _, h, z, hz => by rw [h.1] at hz; cases hz
 | k + 1, _, _, ⟨a, b, m, h1, h2, h3, h4⟩, z, hz => by
  rw [h3] at hz
  rcases List.mem_append.1 hz with hz | hz
  ·exact Rd.bound h1 z hz
  ·simp at hz
   have := vvS_le (s.extract b s.size) m h2.2.1 0
   omega
theorem Rd.boundD {s : ByteArray} {k : Nat} {l : List Int} {n : Nat} (h : Rd s k l n) (j : Nat) : 0 ≤ l.getD j 0 ∧ l.getD j 0 ≤ 562949953421311 := by
 by_cases hj : j < l.length
 ·refine h.bound _ ?_
  simp [List.getD, hj]
 ·simp [List.getD, hj]
set_option maxHeartbeats 1000000 in
theorem implReadVars (s : ByteArray) (k0 : Nat) (w : World) (hs : s.size ≤ 1048576) (h1 : 1 ≤ k0) (h2 : k0 ≤ 60) :
  Calls Tryz.prog 178 #[.string s, .int .i64 (k0 : Int)] w fun e w' => ((∃ l n u, Rd s k0 l n ∧ e = .returned (.tuple #[u, .int .i64 (n : Int)]) ∧ Nums w' w.heap.size u l) ∨ (RdNo s k0 ∧ e = .returned (.tuple #[.slice none 0 0, .int .i64 0]))) ∧ Below w.heap.size w w' := by
 have q1 : (1 : Int) ≤ (k0 : Int) := by omega
 have q2 : (k0 : Int) ≤ 60 := by omega
 have HS : Hid (s.size ≤ 1048576) := hs
 have q3 : (s.size : Int) ≤ 1048576 := by omega
 clear hs
 go_enter Tryz.func178, Tryz.ntmps178
 go_wp2_with fail
 go_loopw [6, 7, 17] (fun v6 v7 v17 wr => ∃ (k n : Nat) (l : List Int), k ≤ k0 ∧ n ≤ s.size ∧ v17 = .int .i64 (k : Int) ∧ v7 = .int .i64 (n : Int) ∧ Hid (Rd s k l n) ∧ Nums wr w.heap.size v6 l ∧ Below w.heap.size w wr) (fun _ _ i _ => k0 - (intOf i).toNat)
 case atStart => exact ⟨0, 0, [], by omega, by omega, rfl, rfl, ⟨rfl, rfl⟩, Nums.nil _ _, Below.refl _ _⟩
 case round =>
  obtain ⟨k, n, l, hk, hns, rfl, rfl, HR, hN, hb⟩ := hrel
  have HN : Hid (Nums wr w.heap.size _ l) := hN
  obtain ⟨A, c, rfl, _, _⟩ := hN.shape
  have HB : Hid (Below w.heap.size w wr) := hb
  have hln := HR.out.length
  have HLN : Hid (l.length ≤ 2097152) := by unfold Hid; omega
  clear hN hb
  by_cases hlt : k < k0
  ·have q4 : (k : Int) < (k0 : Int) := by omega
   have q5 : (n : Int) ≤ (s.size : Int) := by omega
   have hsx : (s.extract n s.size).size ≤ 1048576 := by rw [ByteArray.size_extract]; have := HS.out; omega
   have c := fun wx => impl_readVar (s.extract n s.size) wx hsx
   have HX : Hid (∀ m, FindV (s.extract n s.size) m → m ≤ s.size - n) := fun m hm => by have := hm.2.2.1; rw [ByteArray.size_extract] at this; omega
   clear hsx hln
   go_wp2_with fail
   refine (c _).mono ?_
   generalize hsx' : s.extract n s.size = sx at *
   have HSX : Hid (s.extract n s.size = sx) := hsx'
   clear hsx'
   rintro e w1 ⟨hR, rfl⟩
   rcases hR with ⟨m, hm, rfl⟩ | ⟨hno, rfl⟩
   ·have hmx := HX.out m hm
    have hm1 := hm.1
    have hm7 := hm.2.1
    have q6 : (m : Int) ≤ 7 := by omega
    have q7 : (1 : Int) ≤ (m : Int) := by omega
    have q8 : ¬ (m : Int) = 0 := by omega
    have q9 : ¬ m = 0 := by omega
    have HM : Hid (FindV sx m) := hm
    have HZ : Hid (w.heap.size ≤ wr.heap.size) := HB.out.size
    generalize hz : (vvS sx 0 m : Int) = z at *
    have HR2 : Hid (Rd s (k + 1) (l ++ [z]) (n + m)) := by
     refine ⟨l, n, m, HR.out, ?_, ?_, rfl⟩
     ·rw [HSX.out]; exact HM.out
     ·rw [HSX.out, hz]
    clear hz hm
    go_wp2_with (at_builtin; refine wpList_append_num rfl (.tmp 28) (.tmp 30) 130 rfl Tryz.underlying130 Tryz.infoInt w.heap.size _ l rfl HN.out z rfl HLN.out HZ.out ?_; intro v' w1 hN1 hb1 hk1)
    go_roundw
    case rel => exact ⟨k + 1, n + m, l ++ [z], by omega, by omega, by go_num, by go_num, HR2, hN1, HB.out.trans hb1⟩
    case measure => simp [intOf]; omega
   ·have HNO : Hid (RdNo s k0) := ⟨k, l, n, hlt, HR.out, by rw [HSX.out]; exact hno⟩
    clear hno
    go_wp2_with fail
    go_ret2
    exact ⟨.inr ⟨HNO.out, rfl⟩, HB.out⟩
  ·obtain rfl : k = k0 := by omega
   go_wp2_with fail
   go_ret2
   exact ⟨.inl ⟨l, n, _, HR.out, rfl, HN.out⟩, HB.out⟩
set_option maxHeartbeats 1000000 in
theorem implReadVars_no (s : ByteArray) (n : Int) (w : World) (h : n < 1 ∨ 60 < n) : Calls Tryz.prog 178 #[.string s, .int .i64 n] w fun e w' => e = .returned (.tuple #[.slice none 0 0, .int .i64 0]) ∧ w = w' := by
 by_cases h1 : n < 1
 ·go_enter Tryz.func178, Tryz.ntmps178
  go_wp2_with fail
  go_ret2
  exact ⟨rfl, rfl⟩
 ·have h2 : 60 < n := by omega
  clear h
  go_enter Tryz.func178, Tryz.ntmps178
  go_wp2_with fail
  go_ret2
  exact ⟨rfl, rfl⟩
set_option maxHeartbeats 1000000 in
theorem specReadVars (s : ByteArray) (k0 : Nat) (w : World) (hs : s.size ≤ 1048576) (h1 : 1 ≤ k0) (h2 : k0 ≤ 60) :
  Calls Tryz.prog 106 #[.string s, .int .i64 (k0 : Int)] w fun e w' => ((∃ l n u, Rd s k0 l n ∧ e = .returned (.tuple #[u, .int .i64 (n : Int)]) ∧ Nums w' w.heap.size u l) ∨ (RdNo s k0 ∧ ∃ u, e = .returned (.tuple #[u, .int .i64 (-1)]))) ∧ Below w.heap.size w w' := by
 have q1 : (1 : Int) ≤ (k0 : Int) := by omega
 have q2 : (k0 : Int) ≤ 60 := by omega
 have HS : Hid (s.size ≤ 1048576) := hs
 have q3 : (s.size : Int) ≤ 1048576 := by omega
 clear hs
 go_enter Tryz.func106, Tryz.ntmps106
 go_wp2_with fail
 go_loopw [6, 7, 8] (fun v6 v7 v8 wr => ∃ (k n : Nat) (l : List Int), k ≤ k0 ∧ n ≤ s.size ∧ v8 = .int .i64 (k : Int) ∧ v7 = .int .i64 (n : Int) ∧ Hid (Rd s k l n) ∧ Nums wr w.heap.size v6 l ∧ Below w.heap.size w wr) (fun _ _ i _ => k0 - (intOf i).toNat)
 case atStart => exact ⟨0, 0, [], by omega, by omega, rfl, rfl, ⟨rfl, rfl⟩, Nums.empty _ _ (Nat.le_refl _), (Below.refl _ _).alloc (Nat.le_refl _) _⟩
 case round =>
  obtain ⟨k, n, l, hk, hns, rfl, rfl, HR, hN, hb⟩ := hrel
  have HN : Hid (Nums wr w.heap.size _ l) := hN
  obtain ⟨A, c, rfl, _, _⟩ := hN.shape
  have HB : Hid (Below w.heap.size w wr) := hb
  have hln := HR.out.length
  have HLN : Hid (l.length ≤ 2097152) := by unfold Hid; omega
  clear hN hb
  by_cases hlt : k < k0
  ·have q4 : (k : Int) < (k0 : Int) := by omega
   have q5 : (n : Int) ≤ (s.size : Int) := by omega
   have hsx : (s.extract n s.size).size ≤ 1048576 := by rw [ByteArray.size_extract]; have := HS.out; omega
   have c := fun wx => spec_readVar (s.extract n s.size) wx hsx
   have HX : Hid (∀ m, FindV (s.extract n s.size) m → m ≤ s.size - n) := fun m hm => by have := hm.2.2.1; rw [ByteArray.size_extract] at this; omega
   clear hsx hln
   go_wp2_with fail
   refine (c _).mono ?_
   generalize hsx' : s.extract n s.size = sx at *
   have HSX : Hid (s.extract n s.size = sx) := hsx'
   clear hsx'
   rintro e w1 ⟨hR, hb1⟩
   have HB1 : Hid (Below w.heap.size w w1) := HB.out.trans (hb1.mono HB.out.size)
   have HN1 : Hid (Nums w1 w.heap.size (.slice A l.length _) l) := HN.out.on hb1
   clear hb1
   rcases hR with ⟨m, hm, rfl⟩ | ⟨hno, rfl⟩
   ·have hmx := HX.out m hm
    have hm1 := hm.1
    have hm7 := hm.2.1
    have q6 : (m : Int) ≤ 7 := by omega
    have q7 : (1 : Int) ≤ (m : Int) := by omega
    have q8 : ¬ (m : Int) = 0 := by omega
    have q9 : ¬ m = 0 := by omega
    have HM : Hid (FindV sx m) := hm
    have HZ : Hid (w.heap.size ≤ w1.heap.size) := HB1.out.size
    generalize hz : (vvS sx 0 m : Int) = z at *
    have HR2 : Hid (Rd s (k + 1) (l ++ [z]) (n + m)) := by
     refine ⟨l, n, m, HR.out, ?_, ?_, rfl⟩
     ·rw [HSX.out]; exact HM.out
     ·rw [HSX.out, hz]
    clear hz hm
    go_wp2_with (at_builtin; refine wpList_append_num rfl (.tmp 27) (.tmp 29) 130 rfl Tryz.underlying130 Tryz.infoInt w.heap.size _ l rfl HN1.out z rfl HLN.out HZ.out ?_; intro v' w2 hN2 hb2 hk2)
    go_roundw
    case rel => exact ⟨k + 1, n + m, l ++ [z], by omega, by omega, by go_num, by go_num, HR2, hN2, HB1.out.trans hb2⟩
    case measure => simp [intOf]; omega
   ·have HNO : Hid (RdNo s k0) := ⟨k, l, n, hlt, HR.out, by rw [HSX.out]; exact hno⟩
    clear hno
    go_wp2_with fail
    go_ret2
    exact ⟨.inr ⟨HNO.out, _, rfl⟩, HB1.out⟩
  ·obtain rfl : k = k0 := by omega
   go_wp2_with fail
   go_ret2
   exact ⟨.inl ⟨l, n, _, HR.out, rfl, HN.out⟩, HB.out⟩
end Go.Proofs.YtpmgndgkmffcnaaGreatDoor
namespace Go.Proofs.YtpmgndgkmffcnaaGreatDoor
open Go.ChangeShapes Go.WideShapes Go.ChangeAt Go.RowKit Go.PlainAid
set_option linter.unusedVariables false
def mix (f : Nat → Int) (v : List Int) (m : Nat) : List Int := (List.range v.length).map fun i => if i < m then f i else v.getD i 0
theorem mix_length (f : Nat → Int) (v : List Int) (m : Nat) : (mix f v m).length = v.length := by simp [mix]
theorem mix_get (f : Nat → Int) (v : List Int) (m j : Nat) (h : j < v.length) : (mix f v m).getD j 0 = if j < m then f j else v.getD j 0 := by
 unfold mix
 rw [List.getD_eq_getElem?_getD, List.getElem?_map, List.getElem?_range h]
 rfl
theorem mix_set (f : Nat → Int) (v : List Int) (m : Nat) (h : m < v.length) : (mix f v m).set m (f m) = mix f v (m + 1) := by
 apply nums_ext
 ·rw [List.length_set, mix_length, mix_length]
 ·intro j hj
  rw [List.length_set, mix_length] at hj
  rw [mix_get f v (m + 1) j hj]
  by_cases e : m = j
  ·subst e
   rw [getD_set_same _ _ _ (by rw [mix_length]; exact h), if_pos (by omega)]
  ·rw [getD_set_ne _ _ _ _ e, mix_get f v m j hj]
   by_cases h2 : j < m
   ·rw [if_pos h2, if_pos (by omega)]
   ·rw [if_neg h2, if_neg (by omega)]
theorem mix_start (f : Nat → Int) (v : List Int) (m : Nat) (h : ∀ i, i < m → i < v.length → f i = v.getD i 0) : mix f v m = v := by
 apply nums_ext
 ·rw [mix_length]
 ·intro j hj
  rw [mix_length] at hj
  rw [mix_get f v m j hj]
  split
  ·exact h j (by assumption) hj
  ·rfl
def rowOf (f : Nat → Int) (n : Nat) : List Int := (List.range n).map f
theorem rowOf_length (f : Nat → Int) (n : Nat) : (rowOf f n).length = n := by simp [rowOf]
theorem rowOf_get (f : Nat → Int) (n j : Nat) (h : j < n) : (rowOf f n).getD j 0 = f j := by simp [rowOf, List.getD, h]
theorem rowOf_succ (f : Nat → Int) (n : Nat) : rowOf f (n + 1) = rowOf f n ++ [f n] := by simp [rowOf, List.range_succ]
theorem mix_all (f : Nat → Int) (v : List Int) (m : Nat) (h : v.length ≤ m) : mix f v m = rowOf f v.length := by
 apply nums_ext
 ·rw [mix_length, rowOf_length]
 ·intro j hj
  rw [mix_length] at hj
  rw [mix_get f v m j hj, rowOf_get f _ j hj, if_pos (by omega)]
def uzF (off : Nat) (v : List Int) (i : Nat) : Int := if off ≤ i then unz (v.getD i 0) else v.getD i 0
def auF (off : Nat) (v : List Int) : Nat → Int
 | 0 => v.getD 0 0
 | i + 1 => if i + 1 ≤ off then v.getD (i + 1) 0 else auF off v i + v.getD (i + 1) 0
theorem auF_le (off : Nat) (v : List Int) (i : Nat) (h : i ≤ off) : auF off v i = v.getD i 0 := by
 cases i with
 | zero => rfl
 | succ i => rw [auF, if_pos h]
theorem auF_gt (off : Nat) (v : List Int) (i : Nat) (h : off < i) : auF off v i = auF off v (i - 1) + v.getD i 0 := by
 cases i with
 | zero => omega
 | succ i => rw [auF, if_neg (by omega)]; rfl
set_option maxHeartbeats 1000000 in
theorem unzigAllV (off m : Nat) (l : List Int) (g cap base n : Nat) (A : Option Addr) (c : Nat) (w : World) (hN : Nums w base (.slice (some ⟨g, 0, none⟩) n cap) l) (hl : l.length = off + m) (hA : 0 < m → A = some ⟨g, off, none⟩) (hm : m ≤ 1000) (hg : base ≤ g)
  (hb : ∀ j, -9223372036854775808 ≤ l.getD j 0 ∧ l.getD j 0 ≤ 9223372036854775807) :
  Calls Tryz.prog 179 #[.slice A m c] w fun e w' => (∃ u, e = .returned u) ∧ Nums w' base (.slice (some ⟨g, 0, none⟩) n cap) (rowOf (uzF off l) l.length) ∧ Below base w w' := by
 have HN : Hid (Nums w base (.slice (some ⟨g, 0, none⟩) n cap) l) := hN
 have HL : Hid (l.length = off + m) := hl
 have HA : Hid (0 < m → A = some ⟨g, off, none⟩) := hA
 have HG : Hid (base ≤ g) := hg
 have HB : Hid (∀ j, -9223372036854775808 ≤ l.getD j 0 ∧ l.getD j 0 ≤ 9223372036854775807) := hb
 have q1 : (m : Int) ≤ 1000 := by omega
 clear hN hl hA hg hb
 go_enter Tryz.func179, Tryz.ntmps179
 go_wp2_with fail
 go_loopw [6] (fun v6 wr => ∃ k : Nat, k ≤ m ∧ v6 = .int .i64 (k : Int) ∧ Nums wr base (.slice (some ⟨g, 0, none⟩) n cap) (mix (uzF off l) l (off + k)) ∧ Below base w wr) (fun i _ => m - (intOf i).toNat)
 case atStart =>
  refine ⟨0, by omega, rfl, ?_, Below.refl _ _⟩
  rw [mix_start _ _ _ (fun i hi _ => by unfold uzF; rw [if_neg (by omega)])]
  exact HN.out
 case round =>
  obtain ⟨k, hk, rfl, hN1, hb1⟩ := hrel
  have HB1 : Hid (Below base w wr) := hb1
  have HN1 : Hid (Nums wr base (.slice (some ⟨g, 0, none⟩) n cap) (mix (uzF off l) l (off + k))) := hN1
  clear hb1
  by_cases hlt : k < m
  ·have q2 : (k : Int) < (m : Int) := by omega
   have hA := HA.out (by omega)
   subst hA
   have hkl : off + k < l.length := by rw [HL.out]; omega
   have e1 := hN1.cell (off + k) (by rw [mix_length]; exact hkl)
   rw [mix_get _ _ _ _ hkl, if_neg (by omega)] at e1
   have e2 := hN1.frozen (off + k)
   have hbk := HB.out (off + k)
   have cu := fun wx => impl_unz (l.getD (off + k) 0) wx hbk.1 hbk.2
   have hS := hN1.stored (off + k) (unz (l.getD (off + k) 0))
   rw [show unz (l.getD (off + k) 0) = uzF off l (off + k) by unfold uzF; rw [if_pos (by omega)], mix_set _ _ _ hkl] at hS
   rw [show uzF off l (off + k) = unz (l.getD (off + k) 0) by unfold uzF; rw [if_pos (by omega)]] at hS
   have HS : Hid (Nums (wr.setCell ⟨g, off + k, none⟩ (.int .i64 (unz (l.getD (off + k) 0)))) base (.slice (some ⟨g, 0, none⟩) n cap) (mix (uzF off l) l (off + k + 1))) := hS
   clear hS hN1 hkl hbk
   generalize zok (l.getD (off + k) 0) = zk at *
   generalize unz (l.getD (off + k) 0) = y at *
   generalize l.getD (off + k) 0 = x at *
   go_wp2_with fail
   refine (cu _).mono ?_
   rintro e w1 ⟨rfl, rfl⟩
   go_wp2_with fail
   go_roundw
   case rel => exact ⟨k + 1, by omega, by go_num, HS.out, HB1.out.setCell HG.out _⟩
   case measure => simp [intOf]; omega
  ·obtain rfl : k = m := by omega
   clear hN1
   go_wp2_with fail
   have h := HN1.out
   rw [mix_all _ _ _ (by rw [HL.out]; omega)] at h
   exact bodyPost_end (v := .tuple #[]) (by simp [results, go_sem]) rfl ⟨⟨_, rfl⟩, h, HB1.out⟩
set_option maxHeartbeats 1000000 in
theorem addUpV (off m : Nat) (l : List Int) (g cap base n : Nat) (A : Option Addr) (c : Nat) (w : World) (hN : Nums w base (.slice (some ⟨g, 0, none⟩) n cap) l) (hl : l.length = off + m) (hA : 0 < m → A = some ⟨g, off, none⟩) (hm : m ≤ 1000) (hg : base ≤ g)
  (hb : ∀ j, j < l.length → -4611686018427387904 ≤ auF off l j ∧ auF off l j ≤ 4611686018427387904) :
  Calls Tryz.prog 180 #[.slice A m c] w fun e w' => (∃ u, e = .returned u) ∧ Nums w' base (.slice (some ⟨g, 0, none⟩) n cap) (rowOf (auF off l) l.length) ∧ Below base w w' := by
 have HN : Hid (Nums w base (.slice (some ⟨g, 0, none⟩) n cap) l) := hN
 have HL : Hid (l.length = off + m) := hl
 have HA : Hid (0 < m → A = some ⟨g, off, none⟩) := hA
 have HG : Hid (base ≤ g) := hg
 have HB : Hid (∀ j, j < l.length → -4611686018427387904 ≤ auF off l j ∧ auF off l j ≤ 4611686018427387904) := hb
 have q1 : (m : Int) ≤ 1000 := by omega
 clear hN hl hA hg hb
 go_enter Tryz.func180, Tryz.ntmps180
 go_wp2_with fail
 go_loopw [2] (fun v2 wr => ∃ k : Nat, 1 ≤ k ∧ (k ≤ m ∨ k = 1) ∧ v2 = .int .i64 (k : Int) ∧ Nums wr base (.slice (some ⟨g, 0, none⟩) n cap) (mix (auF off l) l (off + k)) ∧ Below base w wr) (fun i _ => m - (intOf i).toNat)
 case atStart =>
  refine ⟨1, by omega, by omega, rfl, ?_, Below.refl _ _⟩
  rw [mix_start _ _ _ (fun i hi _ => auF_le off l i (by omega))]
  exact HN.out
 case round =>
  obtain ⟨k, hk1, hk, rfl, hN1, hb1⟩ := hrel
  have HB1 : Hid (Below base w wr) := hb1
  have HN1 : Hid (Nums wr base (.slice (some ⟨g, 0, none⟩) n cap) (mix (auF off l) l (off + k))) := hN1
  clear hb1
  by_cases hlt : k < m
  ·have q2 : (k : Int) < (m : Int) := by omega
   have q3 : (1 : Int) ≤ (k : Int) := by omega
   have hA := HA.out (by omega)
   subst hA
   have hkl : off + k < l.length := by rw [HL.out]; omega
   have e1 := hN1.cell (off + k) (by rw [mix_length]; exact hkl)
   rw [mix_get _ _ _ _ hkl, if_neg (by omega)] at e1
   have e0 := hN1.cell (off + (k - 1)) (by rw [mix_length]; omega)
   rw [mix_get _ _ _ _ (by omega), if_pos (by omega)] at e0
   have e2 := hN1.frozen (off + k)
   have hbk := HB.out (off + k) hkl
   have hbj := HB.out (off + (k - 1)) (by omega)
   have ef := auF_gt off l (off + k) (by omega)
   rw [show off + k - 1 = off + (k - 1) by omega] at ef
   have hS := hN1.stored (off + k) (auF off l (off + k))
   rw [mix_set _ _ _ hkl] at hS
   have ef2 : auF off l (off + k) = l.getD (off + k) 0 + auF off l (off + (k - 1)) := by omega
   rw [ef2] at hS hbk
   have HS : Hid (Nums (wr.setCell ⟨g, off + k, none⟩ (.int .i64 (l.getD (off + k) 0 + auF off l (off + (k - 1))))) base (.slice (some ⟨g, 0, none⟩) n cap) (mix (auF off l) l (off + k + 1))) := hS
   clear hS hN1 hkl ef ef2
   generalize auF off l (off + (k - 1)) = y at *
   generalize l.getD (off + k) 0 = x at *
   have g1 : IntKind.i64.wrap ((k : Int) - 1) = (k : Int) - 1 := by rw [IntKind.wrap_i64]; omega
   have g3 : (0 : Int) ≤ (k : Int) - 1 := by omega
   have g4 : (k : Int) - 1 < (m : Int) := by omega
   have g5 : ((k : Int) - 1).toNat = k - 1 := by omega
   have g7 : IntKind.i64.wrap (x + y) = x + y := by rw [IntKind.wrap_i64]; omega
   have S0 : Hid (wr.cell? ⟨g, off + k, none⟩ = some (.int .i64 x) ∧ wr.cell? ⟨g, off + (k - 1), none⟩ = some (.int .i64 y)) := ⟨e1, e0⟩
   go_wp2_with fail
   refine wp_region_until (fun w' => w'.cell? ⟨g, off + k, none⟩ = some (.int .i64 x) ∧ w'.cell? ⟨g, off + (k - 1), none⟩ = some (.int .i64 y)) (fun i => i == 11) 12 (by rfl) (by kernel_rfl) ?_
   refine until_take 0 (v := ?_) (by rfl) (by kernel_rfl) (by exact fun _ _ _ h => h) (by rfl) ?_ S0.out ?_
   rotate_left
   ·intro w hSw
    try dsimp only at hSw
    go_simp
    try with_reducible rfl
   try simp only [Act.put, setIfInBounds_toArray, set_cons_zero, set_cons_succ]
   refine until_take 1 (v := ?_) (by rfl) (by kernel_rfl) (by exact fun _ _ _ h => h) (by rfl) ?_ S0.out ?_
   rotate_left
   ·intro w hSw
    try dsimp only at hSw
    go_simp
    try with_reducible rfl
   try simp only [Act.put, setIfInBounds_toArray, set_cons_zero, set_cons_succ]
   refine until_take 2 (v := ?_) (by rfl) (by kernel_rfl) (by exact fun _ _ _ h => h) (by rfl) ?_ S0.out ?_
   rotate_left
   ·intro w hSw
    try dsimp only at hSw
    go_simp
    try with_reducible rfl
   try simp only [Act.put, setIfInBounds_toArray, set_cons_zero, set_cons_succ]
   refine until_take 3 (v := ?_) (by rfl) (by kernel_rfl) (by exact fun _ _ _ h => h) (by rfl) ?_ S0.out ?_
   rotate_left
   ·intro w hSw
    try dsimp only at hSw
    go_simp
    try with_reducible rfl
   try simp only [Act.put, setIfInBounds_toArray, set_cons_zero, set_cons_succ]
   refine until_take 4 (v := ?_) (by rfl) (by kernel_rfl) (by exact fun _ _ _ h => h) (by rfl) ?_ S0.out ?_
   rotate_left
   ·intro w hSw
    try dsimp only at hSw
    go_simp
    try with_reducible rfl
   try simp only [Act.put, setIfInBounds_toArray, set_cons_zero, set_cons_succ]
   refine until_take 5 (v := ?_) (by rfl) (by kernel_rfl) (by exact fun _ _ _ h => h) (by rfl) ?_ S0.out ?_
   rotate_left
   ·intro w hSw
    try dsimp only at hSw
    go_simp
    try with_reducible rfl
   try simp only [Act.put, setIfInBounds_toArray, set_cons_zero, set_cons_succ]
   refine until_take 6 (v := ?_) (by rfl) (by kernel_rfl) (by exact fun _ _ _ h => h) (by rfl) ?_ S0.out ?_
   rotate_left
   ·intro w hSw
    try dsimp only at hSw
    go_simp
    try with_reducible rfl
   try simp only [Act.put, setIfInBounds_toArray, set_cons_zero, set_cons_succ]
   refine until_take 7 (v := ?_) (by rfl) (by kernel_rfl) (by exact fun _ _ _ h => h) (by rfl) ?_ S0.out ?_
   rotate_left
   ·intro w hSw
    try dsimp only at hSw
    go_simp
    try with_reducible rfl
   try simp only [Act.put, setIfInBounds_toArray, set_cons_zero, set_cons_succ]
   refine until_take 8 (v := ?_) (by rfl) (by kernel_rfl) (by exact fun _ _ _ h => h) (by rfl) ?_ S0.out ?_
   rotate_left
   ·intro w hSw
    try dsimp only at hSw
    go_simp
    try with_reducible rfl
   try simp only [Act.put, setIfInBounds_toArray, set_cons_zero, set_cons_succ]
   refine until_take 9 (v := ?_) (by rfl) (by kernel_rfl) (by exact fun _ _ _ h => h) (by rfl) ?_ S0.out ?_
   rotate_left
   ·intro w hSw
    try dsimp only at hSw
    go_simp
    try with_reducible rfl
   try simp only [Act.put, setIfInBounds_toArray, set_cons_zero, set_cons_succ]
   refine until_take 10 (v := ?_) (by rfl) (by kernel_rfl) (by exact fun _ _ _ h => h) (by rfl) ?_ S0.out ?_
   rotate_left
   ·intro w hSw
    try dsimp only at hSw
    go_simp
    try with_reducible rfl
   try simp only [Act.put, setIfInBounds_toArray, set_cons_zero, set_cons_succ]
   refine until_one 11 (by rfl) (by kernel_rfl) (fun K hK => ?_)
   go_simp
   go_wp2_with fail
   refine hK.out _ _ (fun h => absurd h (by decide)) ?_
   clear hK K
   try simp only [Act.put, setIfInBounds_toArray, set_cons_zero, set_cons_succ]
   refine until_done (by kernel_rfl) ?_ _
   go_wp2_with fail
   go_roundw
   case rel => exact ⟨k + 1, by omega, by omega, by go_num, HS.out, (HB1.out.setCell (p := ⟨g, off + k, none⟩) HG.out (.int .i64 (x + y))).drew⟩
   case measure => simp [intOf]; omega
  ·clear hN1
   have q2 : (m : Int) ≤ (k : Int) := by omega
   go_wp2_with fail
   have h := HN1.out
   rw [mix_all _ _ _ (by rw [HL.out]; omega)] at h
   exact bodyPost_end (v := .tuple #[]) (by simp [results, go_sem]) rfl ⟨⟨_, rfl⟩, h, HB1.out⟩
end Go.Proofs.YtpmgndgkmffcnaaGreatDoor
