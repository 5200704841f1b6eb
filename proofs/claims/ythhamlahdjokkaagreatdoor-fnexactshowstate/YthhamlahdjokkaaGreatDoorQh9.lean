/- SrMk StrEqL EgL1 EgL2 StLaw BuOf EgS1 EgS3 FlMathS BkReadS -/
import Derived.Test.YthhamlahdjokkaaGreatDoorQh5
import Derived.Test.YthhamlahdjokkaaGreatDoorRows
import Derived.Test.YthhamlahdjokkaaGreatDoorQh0
import Derived.Test.YthhamlahdjokkaaGreatDoorQh4
import Derived.WalkKit
import Derived.ProofKit
import Derived.OpenShut
import Derived.Below
import Derived.WalkSmall
import Derived.WalkLawsBesides
import Derived.Outline
import Derived.BigQuiet
import Derived.Deep.QuietTactic
import Derived.Deep.RegionWith
import Derived.Test.YthhamlahdjokkaaGreatDoorQh1
import Derived.Handy
import Derived.Test.YthhamlahdjokkaaGreatDoorQh8
import Derived.Test.YthhamlahdjokkaaGreatDoorQh2
import Derived.WalkMore
import Derived.Test.YthhamlahdjokkaaGreatDoorQh7
open List (setIfInBounds_toArray set_cons_zero set_cons_succ)
namespace Go.Proofs.YthhamlahdjokkaaGreatDoor
open Go.ChangeShapes Go.WideShapes Go.ChangeAt Go.RowKit Go.PlainAid
set_option linter.unusedVariables false
def kAt (k : Nat) (L : List (Ser × Value)) : Nat → Nat
 | 0 => k
 | j + 1 => kAt k L j + 1 + 2 * (L.getD j default).1.pts.length
def smR (k : Nat) (L : List (Ser × Value)) (j : Nat) : List Value := [.string (mark (kAt k L j)), (L.getD j default).2]
def SMk (w : World) (base k : Nat) (v : Value) (L : List (Ser × Value)) : Prop := Owns w base 101 2 v (newR (smR k L) L.length) ∧ ∀ j, j < L.length → Owns w base 98 2 (L.getD j default).2 (newR (mkPt (kAt k L j + 1)) (L.getD j default).1.pts.length)
theorem SMk.on {w w' : World} {base k : Nat} {v : Value} {L : List (Ser × Value)} (h : SMk w base k v L) (hb : Below w.heap.size w w') : SMk w' base k v L := ⟨h.1.on hb, fun j hj => (h.2 j hj).on hb⟩
end Go.Proofs.YthhamlahdjokkaaGreatDoor
namespace Go.Proofs.YthhamlahdjokkaaGreatDoor
open Go.ChangeShapes Go.WideShapes Go.ChangeAt Go.RowKit Go.PlainAid
set_option linter.unusedVariables false
theorem Strs.heap {w w' : World} {base : Nat} {v : Value} {l : List ByteArray} (h : Strs w base v l) (hh : w'.heap = w.heap) : Strs w' base v l := h.kept fun g _ _ => by rw [hh]
set_option maxHeartbeats 1000000 in
theorem eq_same (a b : Nat) (va vb : Value) (l : List ByteArray) (w : World) (ha : Strs w a va l) (hb : Strs w b vb l) (hl : l.length ≤ 2097152) :
  Calls Tryz.prog 74 #[va, vb] w fun e w' => e = .returned (.bool true) ∧ Like w w' := by
 by_cases h0 : l.length = 0
 ·obtain ⟨A, ca, rfl⟩ : ∃ A ca, va = .slice A 0 ca := by
   rcases ha.form with ⟨rfl, _⟩ | ⟨g, c, rfl, _⟩
   ·exact ⟨_, _, rfl⟩
   ·rw [h0]; exact ⟨_, _, rfl⟩
  obtain ⟨B, cb, rfl⟩ : ∃ B cb, vb = .slice B 0 cb := by
   rcases hb.form with ⟨rfl, _⟩ | ⟨g, c, rfl, _⟩
   ·exact ⟨_, _, rfl⟩
   ·rw [h0]; exact ⟨_, _, rfl⟩
  clear ha hb h0 hl
  go_enter Tryz.func74, Tryz.ntmps74
  go_wp2
  go_loop [5] (fun v5 => v5 = .int .i64 0) (fun _ => 0)
  case atStart => rfl
  case round =>
   subst hrel
   go_wp2
   go_ret
   exact ⟨rfl, Like.refl _⟩
 ·obtain ⟨g, ca, rfl, _, _⟩ : ∃ g cap, va = .slice (some ⟨g, 0, none⟩) l.length cap ∧ a ≤ g ∧ g < w.heap.size := by
   rcases ha.form with ⟨rfl, rfl⟩ | h
   ·exact absurd rfl h0
   ·exact h
  obtain ⟨g', cb, rfl, _, _⟩ : ∃ g cap, vb = .slice (some ⟨g, 0, none⟩) l.length cap ∧ b ≤ g ∧ g < w.heap.size := by
   rcases hb.form with ⟨rfl, rfl⟩ | h
   ·exact absurd rfl h0
   ·exact h
  have HA : Hid (Strs w a (.slice (some ⟨g, 0, none⟩) l.length ca) l) := ha
  have HB : Hid (Strs w b (.slice (some ⟨g', 0, none⟩) l.length cb) l) := hb
  have q1 : (l.length : Int) ≤ 2097152 := by omega
  clear ha hb hl
  generalize hn : l.length = n at *
  have HN : Hid (l.length = n) := hn
  clear hn
  go_enter Tryz.func74, Tryz.ntmps74
  go_wp2
  go_loopw [5] (fun v5 wr => ∃ k : Nat, k ≤ n ∧ v5 = .int .i64 k ∧ Like w wr) (fun i _ => n - (intOf i).toNat)
  case atStart => exact ⟨0, by omega, rfl, Like.refl _⟩
  case round =>
   obtain ⟨k, hk, rfl, hL⟩ := hrel
   by_cases hlt : k < n
   ·have q2 : (k : Int) < (n : Int) := by omega
    have hkl : k < l.length := by rw [HN.out]; exact hlt
    have c1 := HA.out
    have c2 := HB.out
    rw [← HN.out] at c1 c2
    have e1 := c1.cell k hkl
    have e2 := c2.cell k hkl
    rw [← cell?_heap hL.1] at e1 e2
    generalize l[k] = x at *
    clear c1 c2 hkl
    go_wp2
    go_quiet (fail)
    go_wp2
    go_roundw
    case rel => exact ⟨k + 1, by omega, by go_num, hL.drewN _⟩
    case measure => simp [intOf]; omega
   ·have hkk : k = n := by omega
    subst hkk
    go_wp2
    go_ret
    exact ⟨rfl, hL⟩
end Go.Proofs.YthhamlahdjokkaaGreatDoor
namespace Go.Proofs.YthhamlahdjokkaaGreatDoor
open Go.ChangeShapes Go.WideShapes Go.ChangeAt Go.RowKit Go.PlainAid
set_option linter.unusedVariables false
def wtT (l : List ByteArray) : Nat := (l.map fun s => s.size).sum
theorem wtT_snoc (l : List ByteArray) (k : Nat) (h : k < l.length) : wtT (l.take (k + 1)) = wtT (l.take k) + (l.getD k default).size := by
 unfold wtT
 rw [take_getD l k h, List.map_append, List.sum_append]
 simp
theorem wtT_mem (l : List ByteArray) (x : ByteArray) (h : x ∈ l) : x.size ≤ wtT l := by
 induction l with
 | nil => cases h
 | cons y l ih =>
  unfold wtT at ih ⊢
  rw [List.map_cons, List.sum_cons]
  rcases List.mem_cons.1 h with rfl | h
  ·omega
  ·have := ih h
   omega
set_option maxHeartbeats 1000000 in
theorem szStringS (l : List ByteArray) (v : Value) (left : Int) (w : World) (B : Nat) (hv : Lies w B 1 v (stR l)) (hn : l.length ≤ maxLen) (hm : ∀ s ∈ l, s.size ≤ maxLen) (h0 : 0 ≤ left) (h1 : left ≤ 1048576) :
  Calls Tryz.prog 56 #[v, .int .i64 left] w fun e w' => ∃ r : Int, e = .returned (.int .i64 r) ∧ (r = -1 ∨ 0 ≤ r ∧ r + ((l.length + wtT l : Nat) : Int) = left) ∧ w = w' := by
 obtain ⟨A, cap, rfl, hl⟩ := st_look hv
 have HL : Hid (∀ j, j < l.length → ∃ g off, A = some ⟨g, off, none⟩ ∧ g < B ∧ w.cell? ⟨g, off + j, none⟩ = some (.string (l.getD j default))) := hl
 have HS : Hid (∀ k, k < l.length → wtT (l.take (k + 1)) = wtT (l.take k) + (l.getD k default).size) := fun k hk => wtT_snoc l k hk
 have HM : Hid (∀ k, k < l.length → (l.getD k default).size ≤ 9223372036854775807) := fun k hk => by have := hm _ (getD_mem l k hk); unfold maxLen at this; omega
 have HT : Hid (wtT (l.take l.length) = wtT l) := by unfold Hid; rw [List.take_length]
 unfold maxLen at hn
 have q1 : (l.length : Int) ≤ 9223372036854775807 := by omega
 clear hl hv hm
 generalize hN : l.length = n at *
 clear hN
 have w2 : wrap64 (left - (n : Int)) = left - (n : Int) := by unfold wrap64; omega
 by_cases hs : left < (n : Int)
 ·have q2 : left - (n : Int) < 0 := by omega
  go_enter Tryz.func56, Tryz.ntmps56
  go_wp2_with fail
  go_ret
  exact ⟨-1, rfl, .inl rfl, rfl⟩
 ·have q2 : 0 ≤ left - (n : Int) := by omega
  have q3 : decide (left - (n : Int) < 0) = false := decide_eq_false (by omega)
  have HQ : Hid (0 ≤ left - (n : Int)) := q2
  go_enter Tryz.func56, Tryz.ntmps56
  go_wp2_with fail
  clear q2 q3 w2
  go_loop [1, 5] (fun v1 v5 => ∃ (k : Nat) (r : Int), k ≤ n ∧ v5 = .int .i64 (k : Int) ∧ v1 = .int .i64 r ∧ 0 ≤ r ∧ r + ((n + wtT (l.take k) : Nat) : Int) = left) (fun _ i => n - (intOf i).toNat)
  case atStart => exact ⟨0, left - (n : Int), by omega, rfl, rfl, HQ.out, by simp [wtT]⟩
  case round =>
   obtain ⟨k, r, hk, rfl, rfl, hr0, hr⟩ := hrel
   have HR : Hid (r + ((n + wtT (l.take k) : Nat) : Int) = left) := hr
   have q9 : r ≤ 1048576 := by omega
   clear hr
   by_cases hlt : k < n
   ·have q4 : (k : Int) < (n : Int) := by omega
    obtain ⟨g, off, rfl, hg, hc0⟩ := HL.out k hlt
    have HW : Hid (wtT (l.take (k + 1)) = wtT (l.take k) + (l.getD k default).size) := HS.out k hlt
    have hmk := HM.out k hlt
    generalize l.getD k default = x at *
    generalize hz : x.size = t at *
    have q10 : (t : Int) ≤ 9223372036854775807 := by omega
    have w3 : wrap64 (r - (t : Int)) = r - (t : Int) := by unfold wrap64; omega
    by_cases hlow : r < (t : Int)
    ·have q11 : r - (t : Int) < 0 := by omega
     go_wp2_with fail
     go_ret
     exact ⟨-1, rfl, .inl rfl, rfl⟩
    ·have q11 : decide (r - (t : Int) < 0) = false := decide_eq_false (by omega)
     have q12 : 0 ≤ r - (t : Int) := by omega
     have HQ2 : Hid (0 ≤ r - (t : Int)) := q12
     go_wp2_with fail
     go_round
     case rel => exact ⟨k + 1, r - (t : Int), by omega, by go_num, rfl, HQ2.out, by have := HR.out; rw [HW.out]; omega⟩
     case measure => simp [intOf]; omega
   ·obtain rfl : k = n := by omega
    go_wp2_with fail
    go_ret
    exact ⟨r, rfl, .inr ⟨hr0, by have := HR.out; rw [HT.out] at this; exact this⟩, rfl⟩
def EFits (e : Eng) : Prop := SFits e.cache ∧ e.files.length ≤ maxLen ∧ ∀ s ∈ e.files, s.size ≤ maxLen
def wtE (e : Eng) : Nat := e.cache.length + wtS e.cache + (e.files.length + wtT e.files)
theorem EFits.short {e : Eng} {n : Nat} (h : wtE e ≤ n) (hn : n ≤ 1048576) : EShort e := by
 unfold wtE at h
 refine ⟨SShort.of (n := n) (by omega) hn, fun x hx => ?_, by omega, fun s hs => ?_⟩
 ·have := wtS_mem e.cache x hx
  unfold wtS1 at this
  unfold maxLen
  omega
 ·have := wtT_mem e.files s hs
  omega
set_option maxHeartbeats 1000000 in
theorem szEngine (e : Eng) (v : Value) (left : Int) (w : World) (B : Nat) (hv : EngV w B v e) (hf : EFits e) (h0 : 0 ≤ left) (h1 : left ≤ 1048576) (hB : B ≤ w.heap.size) :
  Calls Tryz.prog 18 #[v, .int .i64 left] w fun b w' => ∃ r : Int, b = .returned (.int .i64 r) ∧ Hid (r = -1 ∨ 0 ≤ r ∧ r + (wtE e : Int) = left) ∧ Below w.heap.size w w' := by
 obtain ⟨vc, vf, rfl, hc, hl⟩ := hv
 unfold vE
 obtain ⟨Ac, cc, rfl, _⟩ := hc.look
 obtain ⟨A, cap, rfl, _⟩ := st_look hl
 have HF : Hid (EFits e) := hf
 have HLs : Hid (Lies w B 1 (.slice A e.files.length cap) (stR e.files)) := hl
 have HB : Hid (B ≤ w.heap.size) := hB
 have HW : Hid (wtE e = e.cache.length + wtS e.cache + (e.files.length + wtT e.files)) := rfl
 obtain ⟨X0, hX0⟩ : ∃ X0, X0 = w.alloc (.cells #[.int .i64 e.floor, .slice Ac e.cache.length cc, .slice A e.files.length cap] 26) := ⟨_, rfl⟩
 have BX : Hid (Below w.heap.size w X0) := by unfold Hid; rw [hX0]; exact (Below.refl _ w).alloc (Nat.le_refl _) _
 have KX : Hid (Blk X0 w.heap.size #[.int .i64 e.floor, .slice Ac e.cache.length cc, .slice A e.files.length cap] 26) := by unfold Hid; rw [hX0]; exact Blk.new w _ _
 have c1 := szSeriesS e.cache _ left X0 B (hc.on (BX.out.mono hB)) hf.1 h0 h1 (Nat.le_trans hB BX.out.size)
 have k1 := KX.out.cell 1 _ rfl
 clear hc hl hf hB
 generalize e.floor = f at *
 generalize hcl : e.cache.length = cl at *
 have q1 : left ≤ 1048576 := h1
 go_enter Tryz.func18, Tryz.ntmps18
 go_wp2_with fail
 rw [← hX0]
 clear hX0
 refine c1.mono ?_
 rintro b X1 ⟨r, rfl, hr, hb1⟩
 have B1 : Hid (Below w.heap.size w X1) := BX.out.trans (hb1.mono BX.out.size)
 have K1 := KX.out.on hb1 KX.out.lt
 have m2 := K1.cell 2 _ rfl
 clear hb1 c1 k1 K1
 rcases hr with rfl | ⟨hr0, hr1⟩
 ·go_wp2_with fail
  go_ret
  exact ⟨-1, rfl, .inl rfl, B1.out⟩
 ·have q2 : decide (r < 0) = false := decide_eq_false (by omega)
  have HR1 : Hid (r + ((cl + wtS e.cache : Nat) : Int) = left) := hr1
  have q3 : r ≤ 1048576 := by omega
  have c2 := szStringS e.files _ r X1 B (HLs.out.on (B1.out.mono HB.out)) HF.out.2.1 HF.out.2.2 hr0 q3
  clear hr1
  generalize hfl : e.files.length = fl at *
  go_wp2_with fail
  refine c2.mono ?_
  rintro b X2 ⟨r2, rfl, hr2, rfl⟩
  rcases hr2 with rfl | ⟨hr20, hr21⟩
  ·go_wp2_with fail
   go_ret
   exact ⟨-1, rfl, .inl rfl, B1.out⟩
  ·have q4 : decide (r2 < 0) = false := decide_eq_false (by omega)
   have HR2 : Hid (r2 + ((fl + wtT e.files : Nat) : Int) = r) := hr21
   clear hr21 c2
   go_wp2_with fail
   go_ret
   exact ⟨r2, rfl, .inr ⟨hr20, by have := HR1.out; have := HR2.out; rw [HW.out]; omega⟩, B1.out⟩
def stZ : List Value := [.string ⟨#[]⟩]
theorem st_made (n : Nat) : madeCells #[.string ⟨#[]⟩] (n * 1) = (List.replicate n stZ).flatten.toArray := by
 apply Array.ext'
 rw [List.toList_toArray]
 apply List.ext_getElem?
 intro k
 have hz : ∀ r ∈ List.replicate n stZ, r.length = 1 := fun r hr => by rw [List.eq_of_mem_replicate hr]; rfl
 by_cases hk : k < n * 1
 ·have hj : k < n := by omega
  have := flat_at 1 (List.replicate n stZ) hz k 0 (by simpa using hj) (by omega)
  rw [Nat.mul_one, Nat.add_zero] at this
  have hr : (List.replicate n stZ)[k]'(by simpa using hj) = stZ := by simp
  rw [this, hr]
  have hs : (madeCells #[.string ⟨#[]⟩] (n * 1)).toList[k]? = some (#[Value.string ⟨#[]⟩].getD (k % 1) default) := by simp [madeCells, hj]
  rw [hs, Nat.mod_one]
  rfl
 ·have hl : (List.replicate n stZ).flatten.length = n * 1 := by rw [flat_length 1 _ hz]; simp
  have hr : (List.replicate n stZ).flatten[k]? = none := List.getElem?_eq_none (by omega)
  rw [hr]
  apply List.getElem?_eq_none
  rw [Array.length_toList, size_madeCells]
  omega
def laidT (l : List ByteArray) (k : Nat) : List ByteArray := l.take k ++ List.replicate (l.length - k) ⟨#[]⟩
theorem laidT_length (l : List ByteArray) (k : Nat) (h : k ≤ l.length) : (laidT l k).length = l.length := by unfold laidT; rw [List.length_append, List.length_take, List.length_replicate]; omega
theorem laidT_set (l : List ByteArray) (k : Nat) (h : k < l.length) : (laidT l k).set k (l.getD k default) = laidT l (k + 1) := by
 unfold laidT
 rw [List.set_append_right _ _ (by rw [List.length_take]; omega), List.length_take, Nat.min_eq_left (by omega), Nat.sub_self, take_getD l k h]
 obtain ⟨m, hm⟩ : ∃ m, l.length - k = m + 1 := ⟨l.length - k - 1, by omega⟩
 rw [hm, show l.length - (k + 1) = m by omega, List.replicate_succ, List.set_cons_zero, List.append_assoc]
 rfl
theorem laidT_all (l : List ByteArray) : laidT l l.length = l := by unfold laidT; rw [List.take_length, Nat.sub_self]; simp
set_option maxHeartbeats 2000000 in
theorem toStringS (l : List ByteArray) (v : Value) (w : World) (B : Nat) (hv : Lies w B 1 v (stR l)) (hn : l.length ≤ 1048576) (hB : B ≤ w.heap.size) :
  Calls Tryz.prog 64 #[v] w fun e w' => (∃ u, e = .returned u ∧ Strs w' w.heap.size u l) ∧ Below w.heap.size w w' := by
 obtain ⟨A, cap, rfl, hl⟩ := st_look hv
 have HL : Hid (∀ wx, Below w.heap.size w wx → ∀ j, j < l.length → ∃ g off, A = some ⟨g, off, none⟩ ∧ g < B ∧ wx.cell? ⟨g, off + j, none⟩ = some (.string (l.getD j default))) := fun wx hx => st_cells (hv.on (hx.mono hB))
 have HSt : Hid (∀ k, k < l.length → (laidT l k).set k (l.getD k default) = laidT l (k + 1)) := laidT_set l
 have HLe : Hid (∀ k, k ≤ l.length → (laidT l k).length = l.length) := laidT_length l
 have HA : Hid (laidT l l.length = l) := laidT_all l
 have q1 : (l.length : Int) ≤ 1048576 := by omega
 clear hl hv hB
 obtain ⟨i0, hi, hz0, hz1, hz2⟩ := info_parts infoStr
 have hmk : ∀ wx : World, (Instr.makeSlice 24 (.int .i64 (l.length : Int)) (.int .i64 (l.length : Int))).run Tryz.prog wx = .ok (.slice (some ⟨wx.heap.size, 0, none⟩) l.length l.length) (wx.alloc (.cells (List.replicate l.length stZ).flatten.toArray 9)) := fun wx => by
  have h := run_make (P := Tryz.prog) wx 24 9 i0 _ Tryz.underlying24 hi hz0 .i64 .i64 (l.length : Int) (l.length : Int) (by omega) (by omega) (by rw [hz2]; omega) (by omega)
  rw [hz1] at h
  have e : (Value.string ⟨#[]⟩).cells = #[.string ⟨#[]⟩] := rfl
  rw [e, Int.toNat_natCast, st_made] at h
  exact h
 clear hi hz0 hz1 hz2
 have OM : Hid (Strs (w.alloc (.cells (List.replicate l.length stZ).flatten.toArray 9)) w.heap.size (.slice (some ⟨w.heap.size, 0, none⟩) l.length l.length) (laidT l 0)) := by
  have e : laidT l 0 = List.replicate l.length ⟨#[]⟩ := by unfold laidT; simp
  have e2 : strCells (List.replicate l.length ⟨#[]⟩) = (List.replicate l.length stZ).flatten := by
   rw [← stR_flat]
   unfold stR stC stZ
   rw [List.map_replicate]
  unfold Hid Strs
  rw [e, e2, List.length_replicate]
  have hfl : (List.replicate l.length stZ).flatten.length = l.length := by
   rw [flat_length 1 _ (fun r hr => by rw [List.eq_of_mem_replicate hr]; rfl)]; simp
  exact World.ownsRow_lit w _ l.length (Nat.le_refl _) (by unfold maxLen; omega) (by rw [List.size_toArray, hfl]; omega)
 have BM : Hid (Below w.heap.size w (w.alloc (.cells (List.replicate l.length stZ).flatten.toArray 9))) := (Below.refl _ w).alloc (Nat.le_refl _) _
 generalize hN : l.length = n at *
 clear hN
 go_enter Tryz.func64, Tryz.ntmps64
 go_wp2_with fail
 go_loopw [4] (fun v4 wr => ∃ k : Nat, k ≤ n ∧ v4 = .int .i64 (k : Int) ∧ Strs wr w.heap.size (.slice (some ⟨w.heap.size, 0, none⟩) n n) (laidT l k) ∧ Below w.heap.size w wr) (fun i _ => n - (intOf i).toNat)
 case atStart => exact ⟨0, by omega, rfl, OM.out, BM.out⟩
 case round =>
  obtain ⟨k, hk, rfl, hS, hb⟩ := hrel
  have HS : Hid (Strs wr w.heap.size (.slice (some ⟨w.heap.size, 0, none⟩) n n) (laidT l k)) := hS
  have HBr : Hid (Below w.heap.size w wr) := hb
  clear hS hb
  by_cases hlt : k < n
  ·have q4 : (k : Int) < (n : Int) := by omega
   obtain ⟨g, off, rfl, hg, e1⟩ := HL.out wr HBr.out k hlt
   have hll := HLe.out k hk
   have hS : Strs wr w.heap.size (.slice (some ⟨w.heap.size, 0, none⟩) (laidT l k).length n) (laidT l k) := by rw [hll]; exact HS.out
   have s0 := hS.cell k (by omega)
   have f0 := hS.frozen k
   have hS2 := hS.stored k (l.getD k default)
   rw [hll, HSt.out k hlt] at hS2
   generalize hx : l.getD k default = x at *
   have HS2 : Hid (Strs (wr.setCell ⟨w.heap.size, k, none⟩ (.string x)) w.heap.size (.slice (some ⟨w.heap.size, 0, none⟩) n n) (laidT l (k + 1))) := hS2
   have HB2 : Hid (Below w.heap.size w (wr.setCell ⟨w.heap.size, k, none⟩ (.string x))) := HBr.out.setCell (Nat.le_refl _) _
   generalize (laidT l k)[k] = y at *
   clear hS hS2 hll hx
   go_wp2_with fail
   go_roundw
   case rel => exact ⟨k + 1, by omega, by go_num, HS2.out, HB2.out⟩
   case measure => simp [intOf]; omega
  ·obtain rfl : k = n := by omega
   go_wp2_with fail
   go_ret
   exact ⟨⟨_, rfl, by have := HS.out; rw [HA.out] at this; exact this⟩, HBr.out⟩
end Go.Proofs.YthhamlahdjokkaaGreatDoor
namespace Go.Proofs.YthhamlahdjokkaaGreatDoor
open Go.ChangeShapes Go.WideShapes Go.ChangeAt Go.RowKit Go.PlainAid
set_option linter.unusedVariables false
set_option maxHeartbeats 4000000 in
theorem toEngine (e : Eng) (v : Value) (w : World) (B : Nat) (hv : EngV w B v e) (hs : EShort e) (hB : B ≤ w.heap.size) :
  Calls Tryz.prog 27 #[v] w fun b w' => (∃ u, b = .returned u ∧ EngO w' w.heap.size u e) ∧ Below w.heap.size w w' := by
 obtain ⟨vc, vf, rfl, hc, hl⟩ := hv
 unfold vE
 obtain ⟨Ac, cc, rfl, _⟩ := hc.look
 obtain ⟨A, cap, rfl, _⟩ := st_look hl
 have HLs : Hid (Lies w B 1 (.slice A e.files.length cap) (stR e.files)) := hl
 have HC : Hid (SerV w B (.slice Ac e.cache.length cc) e.cache) := hc
 have HB : Hid (B ≤ w.heap.size) := hB
 have HS : Hid (EShort e) := hs
 have HFl : Hid (e.floor = e.floor) := rfl
 clear hc hl hB hs
 generalize hcl : e.cache.length = cl at *
 clear hcl
 generalize hfl : e.files.length = fl at *
 clear hfl
 generalize hf : e.floor = f at *
 have HF : Hid (e.floor = f) := hf
 clear hf HFl
 obtain ⟨X1, hX1⟩ : ∃ X1, X1 = w.alloc (.cells #[.int .i64 f, .slice Ac cl cc, .slice A fl cap] 26) := ⟨_, rfl⟩
 obtain ⟨X2, hX2⟩ : ∃ X2, X2 = X1.alloc (.cells #[.int .i64 0, .slice none 0 0, .slice none 0 0] 35) := ⟨_, rfl⟩
 obtain ⟨X3, hX3⟩ : ∃ X3, X3 = X2.alloc (.cells #[.int .i64 f, .slice none 0 0, .slice none 0 0] 35) := ⟨_, rfl⟩
 have z1 : X1.heap.size = w.heap.size + 1 := by rw [hX1, World.size_alloc]
 have z2 : X2.heap.size = w.heap.size + 1 + 1 := by rw [hX2, World.size_alloc, z1]
 have z3 : X3.heap.size = w.heap.size + 1 + 1 + 1 := by rw [hX3, World.size_alloc, z2]
 have BX : Hid (Below w.heap.size w X3) := by
  unfold Hid
  rw [hX3, hX2, hX1]
  exact below_alloc3 _ _ _ _
 have KA : Hid (Blk X3 w.heap.size #[.int .i64 f, .slice Ac cl cc, .slice A fl cap] 26) := by
  unfold Hid
  rw [hX3, hX2, hX1]
  exact ((Blk.new w _ _).alloc _).alloc _
 have KR : Hid (Blk X3 (w.heap.size + 1) #[.int .i64 0, .slice none 0 0, .slice none 0 0] 35) := by
  unfold Hid
  rw [hX3, hX2, ← z1]
  exact (Blk.new X1 _ _).alloc _
 have KO : Hid (Blk X3 (w.heap.size + 1 + 1) #[.int .i64 f, .slice none 0 0, .slice none 0 0] 35) := by
  unfold Hid
  rw [hX3, ← z2]
  exact Blk.new X2 _ _
 have c1 := toSeriesS e.cache _ X3 B (HC.out.on (BX.out.mono HB.out)) HS.out.1 (Nat.le_trans HB.out BX.out.size)
 have ka := KA.out.cell 1 _ rfl
 go_enter Tryz.func27, Tryz.ntmps27
 go_wp2_with fail
 rw [← hX1, ← hX2, ← hX3]
 clear hX1 hX2 hX3 z1 z2
 refine c1.mono ?_
 rintro b X4 ⟨u4, L, rfl, hL, hS4, hb4⟩
 have HL : Hid (L.map Prod.fst = e.cache) := hL
 have S4 : Hid (SerO X4 X3.heap.size u4 L) := hS4
 have B4 : Hid (Below w.heap.size w X4) := BX.out.trans (hb4.mono BX.out.size)
 have KA4 : Hid (Blk X4 w.heap.size #[.int .i64 f, .slice Ac cl cc, .slice A fl cap] 26) := KA.out.on hb4 KA.out.lt
 have KR4 : Hid (Blk X4 (w.heap.size + 1) #[.int .i64 0, .slice none 0 0, .slice none 0 0] 35) := KR.out.on hb4 KR.out.lt
 have KO4 : Hid (Blk X4 (w.heap.size + 1 + 1) #[.int .i64 f, .slice none 0 0, .slice none 0 0] 35) := KO.out.on hb4 KO.out.lt
 obtain ⟨A4, n4, c4, rfl⟩ := hS4.1.shape
 have HZ : Hid (X3.heap.size = w.heap.size + 1 + 1 + 1) := z3
 clear hL hS4 hb4 c1 ka KA KR KO z3
 generalize hG : w.heap.size + 1 + 1 = G at *
 generalize hR : w.heap.size + 1 = R at *
 have HG : Hid (R + 1 = G ∧ w.heap.size + 1 = R) := ⟨hG, hR⟩
 clear hG hR
 obtain ⟨X5, hX5⟩ : ∃ X5, X5 = X4.setCell ⟨G, 1, none⟩ (.slice A4 n4 c4) := ⟨_, rfl⟩
 have m1 : _ = some (Value.slice none 0 0) := KO4.out.cell 1 _ rfl
 have f1 := KO4.out.free 1
 have KO5 : Hid (Blk X5 G #[.int .i64 f, .slice A4 n4 c4, .slice none 0 0] 35) := by unfold Hid; rw [hX5]; exact KO4.out.set 1 _
 have KR5 : Hid (Blk X5 R #[.int .i64 0, .slice none 0 0, .slice none 0 0] 35) := by unfold Hid; rw [hX5]; exact KR4.out.other (by have := HG.out; omega) 1 _
 have KA5 : Hid (Blk X5 w.heap.size #[.int .i64 f, .slice Ac cl cc, .slice A fl cap] 26) := by unfold Hid; rw [hX5]; exact KA4.out.other (by have := HG.out; omega) 1 _
 have S5 : Hid (SerO X5 X3.heap.size (.slice A4 n4 c4) L) := by unfold Hid; rw [hX5]; exact S4.out.others ((KeptBut.refl G X4).set 1 _) (by have := HG.out; have := HZ.out; omega)
 have B5 : Hid (Below w.heap.size w X5) := by unfold Hid; rw [hX5]; exact B4.out.setCell (show w.heap.size ≤ G by have := HG.out; omega) _
 have k2 := KA5.out.cell 2 _ rfl
 have c2 := toStringS e.files _ X5 B (HLs.out.on (B5.out.mono HB.out)) HS.out.2.2.1 (Nat.le_trans HB.out B5.out.size)
 rw [hX5] at k2
 clear KO4 KR4 KA4 S4 B4
 go_wp2_with fail
 rw [← hX5]
 clear hX5 m1 f1 k2
 refine c2.mono ?_
 rintro b X6 ⟨⟨u6, rfl, hS6⟩, hb6⟩
 obtain ⟨A6, n6, c6, rfl⟩ := (strs_owns hS6).shape
 have T6 : Hid (Strs X6 X5.heap.size (.slice A6 n6 c6) e.files) := hS6
 have S6 : Hid (SerO X6 X3.heap.size (.slice A4 n4 c4) L) := S5.out.on hb6
 have B6 : Hid (Below w.heap.size w X6) := B5.out.trans (hb6.mono B5.out.size)
 have KO6 := KO5.out.on hb6 KO5.out.lt
 have KR6 := KR5.out.on hb6 KR5.out.lt
 have HGz : Hid (G < X5.heap.size ∧ R < X5.heap.size) := ⟨KO5.out.lt, KR5.out.lt⟩
 clear hS6 hb6 c2 KO5 KR5 KA5 S5 B5
 have m2 : _ = some (Value.slice none 0 0) := KO6.cell 2 _ rfl
 have f2 := KO6.free 2
 have KO7 := KO6.set 2 (.slice A6 n6 c6)
 have o0 : _ = some (Value.int .i64 f) := KO7.cell 0 _ rfl
 have o1 : _ = some (Value.slice A4 n4 c4) := KO7.cell 1 _ rfl
 have o2 : _ = some (Value.slice A6 n6 c6) := KO7.cell 2 _ rfl
 have KR7 := KR6.other (show R ≠ G by have := HG.out; omega) 2 (.slice A6 n6 c6)
 have r0 : _ = some (Value.int .i64 0) := KR7.cell 0 _ rfl
 have g0 := KR7.free 0
 have KR8 := KR7.set 0 (.int .i64 f)
 have r1 : _ = some (Value.slice none 0 0) := KR8.cell 1 _ rfl
 have g1 := KR8.free 1
 have KR9 := KR8.set 1 (.slice A4 n4 c4)
 have r2 : _ = some (Value.slice none 0 0) := KR9.cell 2 _ rfl
 have g2 := KR9.free 2
 have KRx := KR9.set 2 (.slice A6 n6 c6)
 have e0 : _ = some (Value.int .i64 f) := KRx.cell 0 _ rfl
 have e1 : _ = some (Value.slice A4 n4 c4) := KRx.cell 1 _ rfl
 have e2 : _ = some (Value.slice A6 n6 c6) := KRx.cell 2 _ rfl
 have kG : KeptBut G X6 (X6.setCell ⟨G, 2, none⟩ (.slice A6 n6 c6)) := (KeptBut.refl G X6).set 2 _
 have kR : KeptBut R (X6.setCell ⟨G, 2, none⟩ (.slice A6 n6 c6)) ((((X6.setCell ⟨G, 2, none⟩ (.slice A6 n6 c6)).setCell ⟨R, 0, none⟩ (.int .i64 f)).setCell ⟨R, 1, none⟩ (.slice A4 n4 c4)).setCell ⟨R, 2, none⟩ (.slice A6 n6 c6)) := (((KeptBut.refl R _).set 0 _).set 1 _).set 2 _
 have SF : Hid (EngO ((((X6.setCell ⟨G, 2, none⟩ (.slice A6 n6 c6)).setCell ⟨R, 0, none⟩ (.int .i64 f)).setCell ⟨R, 1, none⟩ (.slice A4 n4 c4)).setCell ⟨R, 2, none⟩ (.slice A6 n6 c6)) w.heap.size (.agg #[.int .i64 f, .slice A4 n4 c4, .slice A6 n6 c6]) e) := by
  refine ⟨_, _, L, by rw [HF.out]; rfl, HL.out, ((S6.out.others kG (by have := HG.out; have := HZ.out; omega)).others kR (by have := HG.out; have := HZ.out; omega)).mono (by have := HG.out; have := HZ.out; omega), ?_⟩
  have h1 := kG.owns (strs_owns T6.out) ((strs_owns T6.out).below HGz.out.1)
  have h2 := kR.owns h1 (h1.below HGz.out.2)
  exact owns_strs (h2.mono (by have := HGz.out; have := HG.out; omega))
 have BF : Hid (Below w.heap.size w ((((X6.setCell ⟨G, 2, none⟩ (.slice A6 n6 c6)).setCell ⟨R, 0, none⟩ (.int .i64 f)).setCell ⟨R, 1, none⟩ (.slice A4 n4 c4)).setCell ⟨R, 2, none⟩ (.slice A6 n6 c6))) := (((B6.out.setCell (show w.heap.size ≤ G by have := HG.out; omega) _).setCell (show w.heap.size ≤ R by have := HG.out; omega) _).setCell (show w.heap.size ≤ R by have := HG.out; omega) _).setCell (show w.heap.size ≤ R by have := HG.out; omega) _
 clear KO6 KR6 KO7 KR7 KR8 KR9 KRx kG kR
 go_wp2_with fail
 exact bodyPost_ret (v := .agg #[.int .i64 f, .slice A4 n4 c4, .slice A6 n6 c6]) (by simp [results, go_sem, e0, e1, e2]) rfl ⟨⟨_, rfl, SF.out⟩, BF.out⟩
set_option maxHeartbeats 2000000 in
theorem eqEngine (e : Eng) (va vb : Value) (b1 b2 : Nat) (w : World) (ha : EngO w b1 va e) (hb : EngO w b2 vb e) (hs : EShort e) :
  Calls Tryz.prog 33 #[va, vb] w fun b w' => b = .returned (.bool true) ∧ Below w.heap.size w w' := by
 obtain ⟨vc, vf, L, rfl, hL, hS, hT⟩ := ha
 obtain ⟨vc', vf', L', rfl, hL', hS', hT'⟩ := hb
 unfold vE
 have S1 : Hid (SerV w w.heap.size vc e.cache) := by unfold Hid; rw [← hL]; exact hS.view
 have S2 : Hid (SerV w w.heap.size vc' e.cache) := by unfold Hid; rw [← hL']; exact hS'.view
 have T1 : Hid (Strs w b1 vf e.files) := hT
 have T2 : Hid (Strs w b2 vf' e.files) := hT'
 have HSh : Hid (EShort e) := hs
 obtain ⟨A1, n1, c1, rfl⟩ := hS.1.shape
 obtain ⟨A2, n2, c2, rfl⟩ := hS'.1.shape
 obtain ⟨A3, n3, c3, rfl⟩ := (strs_owns hT).shape
 obtain ⟨A4, n4, c4, rfl⟩ := (strs_owns hT').shape
 clear hL hL' hS hS' hT hT' hs
 generalize e.floor = f at *
 obtain ⟨X0, hX0⟩ : ∃ X0, X0 = (w.alloc (.cells #[.int .i64 f, .slice A1 n1 c1, .slice A3 n3 c3] 35)).alloc (.cells #[.int .i64 f, .slice A2 n2 c2, .slice A4 n4 c4] 35) := ⟨_, rfl⟩
 have BX : Hid (Below w.heap.size w X0) := by unfold Hid; rw [hX0]; exact below_alloc2 _ _ _
 have K1 : Hid (Blk X0 w.heap.size #[.int .i64 f, .slice A1 n1 c1, .slice A3 n3 c3] 35) := by unfold Hid; rw [hX0]; exact (Blk.new w _ _).alloc _
 have K2 : Hid (Blk X0 (w.heap.size + 1) #[.int .i64 f, .slice A2 n2 c2, .slice A4 n4 c4] 35) := by
  unfold Hid
  rw [hX0]
  have := Blk.new (w.alloc (.cells #[.int .i64 f, .slice A1 n1 c1, .slice A3 n3 c3] 35)) #[.int .i64 f, .slice A2 n2 c2, .slice A4 n4 c4] 35
  rw [World.size_alloc] at this
  exact this
 have cS := eqSeriesS e.cache (.slice A1 n1 c1) (.slice A2 n2 c2) X0 w.heap.size (S1.out.on BX.out) (S2.out.on BX.out) HSh.out.1 BX.out.size
 have a0 := K1.out.cell 0 _ rfl
 have a1 := K1.out.cell 1 _ rfl
 have d0 := K2.out.cell 0 _ rfl
 have d1 := K2.out.cell 1 _ rfl
 go_enter Tryz.func33, Tryz.ntmps33
 go_wp2_with fail
 rw [← hX0]
 clear hX0
 refine cS.mono ?_
 rintro b X1 ⟨rfl, hb1⟩
 have B1 : Hid (Below w.heap.size w X1) := BX.out.trans (hb1.mono BX.out.size)
 have K3 := K1.out.on hb1 K1.out.lt
 have K4 := K2.out.on hb1 K2.out.lt
 have a2 := K3.cell 2 _ rfl
 have d2 := K4.cell 2 _ rfl
 have cT := eq_same b1 b2 (.slice A3 n3 c3) (.slice A4 n4 c4) e.files X1 (T1.out.on B1.out) (T2.out.on B1.out) (by have := HSh.out.2.2.1; omega)
 clear hb1 cS a0 a1 d0 d1 K3 K4
 go_wp2_with fail
 refine cT.mono ?_
 rintro b X2 ⟨rfl, hlk⟩
 have B2 : Hid (Below w.heap.size w X2) := B1.out.trans (hlk.below.mono B1.out.size)
 clear hlk cT a2 d2
 go_wp2_with fail
 go_ret
 exact ⟨rfl, B2.out⟩
def EMk (w : World) (base k : Nat) (v : Value) (L : List (Ser × Value)) (n : Nat) : Prop := ∃ f vc vf, v = vE f vc vf ∧ SMk w base k vc L ∧ Strs w base vf (marks (kAt k L L.length) n)
theorem EMk.on {w w' : World} {base k : Nat} {v : Value} {L : List (Ser × Value)} {n : Nat} (h : EMk w base k v L n) (hb : Below w.heap.size w w') : EMk w' base k v L n := by
 obtain ⟨f, vc, vf, h1, h2, h3⟩ := h
 exact ⟨f, vc, vf, h1, h2.on hb, h3.on hb⟩
section
variable {H : Type} {enc : TypeId × Value → H} {w : World} {base : Nat} {spare : Nat → Bool} {held : Bool}
theorem cStr9 : Tryz.prog.cellsOf 9 = 1 := by kernel_rfl
theorem open_text (n : Nat) (cs : List Value) (y : DataW H × List MemPlace) (h : DataW.trod enc Tryz.prog w base spare held n 9 cs = some y) : ∃ s : ByteArray, cs = stC s ∧ s.size ≤ maxLen := by
 obtain ⟨s0, e0, _, hs⟩ := DataW.trod_string Tryz.underlying9 h
 exact ⟨s0, e0, hs⟩
end
end Go.Proofs.YthhamlahdjokkaaGreatDoor
namespace Go.Proofs.YthhamlahdjokkaaGreatDoor
open Go.ChangeShapes Go.WideShapes Go.ChangeAt Go.RowKit Go.PlainAid
set_option linter.unusedVariables false
theorem res8 {w : World} {g : Nat} {a0 a1 a2 a3 a4 a5 a6 a7 x0 x1 x2 x3 x4 x5 x6 x7 : Value} {t : TypeId} (h0 : Blk w g #[a0, a1, a2, a3, a4, a5, a6, a7] t) :
  (w.cell? ⟨g, 0, none⟩ = some a0 ∧ w.frozen? ⟨g, 0, none⟩ = false) ∧ ((w.setCell ⟨g, 0, none⟩ x0).cell? ⟨g, 1, none⟩ = some a1 ∧ (w.setCell ⟨g, 0, none⟩ x0).frozen? ⟨g, 1, none⟩ = false) ∧ (((w.setCell ⟨g, 0, none⟩ x0).setCell ⟨g, 1, none⟩ x1).cell? ⟨g, 2, none⟩ = some a2 ∧ ((w.setCell ⟨g, 0, none⟩ x0).setCell ⟨g, 1, none⟩ x1).frozen? ⟨g, 2, none⟩ = false) ∧ ((((w.setCell ⟨g, 0, none⟩ x0).setCell ⟨g, 1, none⟩ x1).setCell ⟨g, 2, none⟩ x2).cell? ⟨g, 3, none⟩ = some a3 ∧ (((w.setCell ⟨g, 0, none⟩ x0).setCell ⟨g, 1, none⟩ x1).setCell ⟨g, 2, none⟩ x2).frozen? ⟨g, 3, none⟩ = false) ∧ (((((w.setCell ⟨g, 0, none⟩ x0).setCell ⟨g, 1, none⟩ x1).setCell ⟨g, 2, none⟩ x2).setCell ⟨g, 3, none⟩ x3).cell? ⟨g, 4, none⟩ = some a4 ∧ ((((w.setCell ⟨g, 0, none⟩ x0).setCell ⟨g, 1, none⟩ x1).setCell ⟨g, 2, none⟩ x2).setCell ⟨g, 3, none⟩ x3).frozen? ⟨g, 4, none⟩ = false) ∧ ((((((w.setCell ⟨g, 0, none⟩ x0).setCell ⟨g, 1, none⟩ x1).setCell ⟨g, 2, none⟩ x2).setCell ⟨g, 3, none⟩ x3).setCell ⟨g, 4, none⟩ x4).cell? ⟨g, 5, none⟩ = some a5 ∧ (((((w.setCell ⟨g, 0, none⟩ x0).setCell ⟨g, 1, none⟩ x1).setCell ⟨g, 2, none⟩ x2).setCell ⟨g, 3, none⟩ x3).setCell ⟨g, 4, none⟩ x4).frozen? ⟨g, 5, none⟩ = false) ∧ (((((((w.setCell ⟨g, 0, none⟩ x0).setCell ⟨g, 1, none⟩ x1).setCell ⟨g, 2, none⟩ x2).setCell ⟨g, 3, none⟩ x3).setCell ⟨g, 4, none⟩ x4).setCell ⟨g, 5, none⟩ x5).cell? ⟨g, 6, none⟩ = some a6 ∧ ((((((w.setCell ⟨g, 0, none⟩ x0).setCell ⟨g, 1, none⟩ x1).setCell ⟨g, 2, none⟩ x2).setCell ⟨g, 3, none⟩ x3).setCell ⟨g, 4, none⟩ x4).setCell ⟨g, 5, none⟩ x5).frozen? ⟨g, 6, none⟩ = false) ∧ ((((((((w.setCell ⟨g, 0, none⟩ x0).setCell ⟨g, 1, none⟩ x1).setCell ⟨g, 2, none⟩ x2).setCell ⟨g, 3, none⟩ x3).setCell ⟨g, 4, none⟩ x4).setCell ⟨g, 5, none⟩ x5).setCell ⟨g, 6, none⟩ x6).cell? ⟨g, 7, none⟩ = some a7 ∧ (((((((w.setCell ⟨g, 0, none⟩ x0).setCell ⟨g, 1, none⟩ x1).setCell ⟨g, 2, none⟩ x2).setCell ⟨g, 3, none⟩ x3).setCell ⟨g, 4, none⟩ x4).setCell ⟨g, 5, none⟩ x5).setCell ⟨g, 6, none⟩ x6).frozen? ⟨g, 7, none⟩ = false) ∧ Blk ((((((((w.setCell ⟨g, 0, none⟩ x0).setCell ⟨g, 1, none⟩ x1).setCell ⟨g, 2, none⟩ x2).setCell ⟨g, 3, none⟩ x3).setCell ⟨g, 4, none⟩ x4).setCell ⟨g, 5, none⟩ x5).setCell ⟨g, 6, none⟩ x6).setCell ⟨g, 7, none⟩ x7) g #[x0, x1, x2, x3, x4, x5, x6, x7] t ∧ KeptBut g w ((((((((w.setCell ⟨g, 0, none⟩ x0).setCell ⟨g, 1, none⟩ x1).setCell ⟨g, 2, none⟩ x2).setCell ⟨g, 3, none⟩ x3).setCell ⟨g, 4, none⟩ x4).setCell ⟨g, 5, none⟩ x5).setCell ⟨g, 6, none⟩ x6).setCell ⟨g, 7, none⟩ x7) ∧ (((((((((w.setCell ⟨g, 0, none⟩ x0).setCell ⟨g, 1, none⟩ x1).setCell ⟨g, 2, none⟩ x2).setCell ⟨g, 3, none⟩ x3).setCell ⟨g, 4, none⟩ x4).setCell ⟨g, 5, none⟩ x5).setCell ⟨g, 6, none⟩ x6).setCell ⟨g, 7, none⟩ x7).cell? ⟨g, 0, none⟩ = some x0 ∧ ((((((((w.setCell ⟨g, 0, none⟩ x0).setCell ⟨g, 1, none⟩ x1).setCell ⟨g, 2, none⟩ x2).setCell ⟨g, 3, none⟩ x3).setCell ⟨g, 4, none⟩ x4).setCell ⟨g, 5, none⟩ x5).setCell ⟨g, 6, none⟩ x6).setCell ⟨g, 7, none⟩ x7).cell? ⟨g, 1, none⟩ = some x1 ∧ ((((((((w.setCell ⟨g, 0, none⟩ x0).setCell ⟨g, 1, none⟩ x1).setCell ⟨g, 2, none⟩ x2).setCell ⟨g, 3, none⟩ x3).setCell ⟨g, 4, none⟩ x4).setCell ⟨g, 5, none⟩ x5).setCell ⟨g, 6, none⟩ x6).setCell ⟨g, 7, none⟩ x7).cell? ⟨g, 2, none⟩ = some x2 ∧ ((((((((w.setCell ⟨g, 0, none⟩ x0).setCell ⟨g, 1, none⟩ x1).setCell ⟨g, 2, none⟩ x2).setCell ⟨g, 3, none⟩ x3).setCell ⟨g, 4, none⟩ x4).setCell ⟨g, 5, none⟩ x5).setCell ⟨g, 6, none⟩ x6).setCell ⟨g, 7, none⟩ x7).cell? ⟨g, 3, none⟩ = some x3 ∧ ((((((((w.setCell ⟨g, 0, none⟩ x0).setCell ⟨g, 1, none⟩ x1).setCell ⟨g, 2, none⟩ x2).setCell ⟨g, 3, none⟩ x3).setCell ⟨g, 4, none⟩ x4).setCell ⟨g, 5, none⟩ x5).setCell ⟨g, 6, none⟩ x6).setCell ⟨g, 7, none⟩ x7).cell? ⟨g, 4, none⟩ = some x4 ∧ ((((((((w.setCell ⟨g, 0, none⟩ x0).setCell ⟨g, 1, none⟩ x1).setCell ⟨g, 2, none⟩ x2).setCell ⟨g, 3, none⟩ x3).setCell ⟨g, 4, none⟩ x4).setCell ⟨g, 5, none⟩ x5).setCell ⟨g, 6, none⟩ x6).setCell ⟨g, 7, none⟩ x7).cell? ⟨g, 5, none⟩ = some x5 ∧ ((((((((w.setCell ⟨g, 0, none⟩ x0).setCell ⟨g, 1, none⟩ x1).setCell ⟨g, 2, none⟩ x2).setCell ⟨g, 3, none⟩ x3).setCell ⟨g, 4, none⟩ x4).setCell ⟨g, 5, none⟩ x5).setCell ⟨g, 6, none⟩ x6).setCell ⟨g, 7, none⟩ x7).cell? ⟨g, 6, none⟩ = some x6 ∧ ((((((((w.setCell ⟨g, 0, none⟩ x0).setCell ⟨g, 1, none⟩ x1).setCell ⟨g, 2, none⟩ x2).setCell ⟨g, 3, none⟩ x3).setCell ⟨g, 4, none⟩ x4).setCell ⟨g, 5, none⟩ x5).setCell ⟨g, 6, none⟩ x6).setCell ⟨g, 7, none⟩ x7).cell? ⟨g, 7, none⟩ = some x7) := by
 have h1 : Blk (w.setCell ⟨g, 0, none⟩ x0) g #[x0, a1, a2, a3, a4, a5, a6, a7] t := h0.set 0 x0
 have h2 : Blk ((w.setCell ⟨g, 0, none⟩ x0).setCell ⟨g, 1, none⟩ x1) g #[x0, x1, a2, a3, a4, a5, a6, a7] t := h1.set 1 x1
 have h3 : Blk (((w.setCell ⟨g, 0, none⟩ x0).setCell ⟨g, 1, none⟩ x1).setCell ⟨g, 2, none⟩ x2) g #[x0, x1, x2, a3, a4, a5, a6, a7] t := h2.set 2 x2
 have h4 : Blk ((((w.setCell ⟨g, 0, none⟩ x0).setCell ⟨g, 1, none⟩ x1).setCell ⟨g, 2, none⟩ x2).setCell ⟨g, 3, none⟩ x3) g #[x0, x1, x2, x3, a4, a5, a6, a7] t := h3.set 3 x3
 have h5 : Blk (((((w.setCell ⟨g, 0, none⟩ x0).setCell ⟨g, 1, none⟩ x1).setCell ⟨g, 2, none⟩ x2).setCell ⟨g, 3, none⟩ x3).setCell ⟨g, 4, none⟩ x4) g #[x0, x1, x2, x3, x4, a5, a6, a7] t := h4.set 4 x4
 have h6 : Blk ((((((w.setCell ⟨g, 0, none⟩ x0).setCell ⟨g, 1, none⟩ x1).setCell ⟨g, 2, none⟩ x2).setCell ⟨g, 3, none⟩ x3).setCell ⟨g, 4, none⟩ x4).setCell ⟨g, 5, none⟩ x5) g #[x0, x1, x2, x3, x4, x5, a6, a7] t := h5.set 5 x5
 have h7 : Blk (((((((w.setCell ⟨g, 0, none⟩ x0).setCell ⟨g, 1, none⟩ x1).setCell ⟨g, 2, none⟩ x2).setCell ⟨g, 3, none⟩ x3).setCell ⟨g, 4, none⟩ x4).setCell ⟨g, 5, none⟩ x5).setCell ⟨g, 6, none⟩ x6) g #[x0, x1, x2, x3, x4, x5, x6, a7] t := h6.set 6 x6
 have h8 : Blk ((((((((w.setCell ⟨g, 0, none⟩ x0).setCell ⟨g, 1, none⟩ x1).setCell ⟨g, 2, none⟩ x2).setCell ⟨g, 3, none⟩ x3).setCell ⟨g, 4, none⟩ x4).setCell ⟨g, 5, none⟩ x5).setCell ⟨g, 6, none⟩ x6).setCell ⟨g, 7, none⟩ x7) g #[x0, x1, x2, x3, x4, x5, x6, x7] t := h7.set 7 x7
 exact ⟨⟨h0.cell 0 _ rfl, h0.free 0⟩, ⟨h1.cell 1 _ rfl, h1.free 1⟩, ⟨h2.cell 2 _ rfl, h2.free 2⟩, ⟨h3.cell 3 _ rfl, h3.free 3⟩, ⟨h4.cell 4 _ rfl, h4.free 4⟩, ⟨h5.cell 5 _ rfl, h5.free 5⟩, ⟨h6.cell 6 _ rfl, h6.free 6⟩, ⟨h7.cell 7 _ rfl, h7.free 7⟩, h8, (((((((((KeptBut.refl g w).set 0 x0).set 1 x1).set 2 x2).set 3 x3).set 4 x4).set 5 x5).set 6 x6).set 7 x7), h8.cell 0 _ rfl, h8.cell 1 _ rfl, h8.cell 2 _ rfl, h8.cell 3 _ rfl, h8.cell 4 _ rfl, h8.cell 5 _ rfl, h8.cell 6 _ rfl, h8.cell 7 _ rfl⟩
set_option maxHeartbeats 8000000 in
theorem toState (x : Sta) (v : Value) (w : World) (B : Nat) (hv : StaV w B v x) (hs : StShort x) (hB : B ≤ w.heap.size) :
  Calls Tryz.prog 8 #[v] w fun b w' => (∃ u, b = .returned u ∧ StaO w' w.heap.size u x) ∧ Below w.heap.size w w' := by
 obtain ⟨Ab, nb, cb, Ac, nc, cc, Af, nf, cf, As, ns, cs, rfl⟩ := hv.shape
 obtain ⟨hb0, he0, hs0⟩ := hv.parts
 have HB : Hid (B ≤ w.heap.size) := hB
 have HS : Hid (StShort x) := hs
 have LB : Hid (Lies w B 2 (.slice Ab nb cb) (ptR x.bks)) := hb0
 have LE : Hid (EngV w B (.agg #[.int .i64 x.eng.floor, .slice Ac nc cc, .slice Af nf cf]) x.eng) := he0
 have LQ : Hid (Lies w B 6 (.slice As ns cs) (sesR x.ses)) := hs0
 clear hv hb0 he0 hs0 hB hs
 unfold vSt
 generalize hsk : x.kind = sk at *
 generalize hsh : x.hold = sh at *
 generalize hsm : x.mark = sm at *
 generalize hsf : x.eng.floor = sf at *
 have HX : Hid (x.kind = sk ∧ x.hold = sh ∧ x.mark = sm ∧ x.eng.floor = sf) := ⟨hsk, hsh, hsm, hsf⟩
 clear hsk hsh hsm hsf
 obtain ⟨X1, hX1⟩ : ∃ X1, X1 = w.alloc (.cells #[.int .i64 sk, .int .i64 sh, .int .i64 sm, .slice Ab nb cb, .int .i64 sf, .slice Ac nc cc, .slice Af nf cf, .slice As ns cs] 29) := ⟨_, rfl⟩
 obtain ⟨X2, hX2⟩ : ∃ X2, X2 = X1.alloc (.cells #[.int .i64 0, .int .i64 0, .int .i64 0, .slice none 0 0, .int .i64 0, .slice none 0 0, .slice none 0 0, .slice none 0 0] 38) := ⟨_, rfl⟩
 obtain ⟨X3, hX3⟩ : ∃ X3, X3 = X2.alloc (.cells #[.int .i64 sk, .int .i64 sh, .int .i64 sm, .slice none 0 0, .int .i64 0, .slice none 0 0, .slice none 0 0, .slice none 0 0] 38) := ⟨_, rfl⟩
 have z1 : X1.heap.size = w.heap.size + 1 := by rw [hX1, World.size_alloc]
 have z2 : X2.heap.size = w.heap.size + 1 + 1 := by rw [hX2, World.size_alloc, z1]
 have z3 : X3.heap.size = w.heap.size + 1 + 1 + 1 := by rw [hX3, World.size_alloc, z2]
 have BX : Hid (Below w.heap.size w X3) := by
  unfold Hid
  rw [hX3, hX2, hX1]
  exact below_a3 _ _ _ _
 have KA : Hid (Blk X3 w.heap.size #[.int .i64 sk, .int .i64 sh, .int .i64 sm, .slice Ab nb cb, .int .i64 sf, .slice Ac nc cc, .slice Af nf cf, .slice As ns cs] 29) := by
  unfold Hid
  rw [hX3, hX2, hX1]
  exact ((Blk.new w _ _).alloc _).alloc _
 have KR : Hid (Blk X3 (w.heap.size + 1) #[.int .i64 0, .int .i64 0, .int .i64 0, .slice none 0 0, .int .i64 0, .slice none 0 0, .slice none 0 0, .slice none 0 0] 38) := by
  unfold Hid
  rw [hX3, hX2, ← z1]
  exact (Blk.new X1 _ _).alloc _
 have KO : Hid (Blk X3 (w.heap.size + 1 + 1) #[.int .i64 sk, .int .i64 sh, .int .i64 sm, .slice none 0 0, .int .i64 0, .slice none 0 0, .slice none 0 0, .slice none 0 0] 38) := by
  unfold Hid
  rw [hX3, ← z2]
  exact Blk.new X2 _ _
 have c1 := toBucketS x.bks _ X3 B (LB.out.on (BX.out.mono HB.out)) HS.out.1 (Nat.le_trans HB.out BX.out.size)
 have ka := KA.out.cell 3 _ rfl
 go_enter Tryz.func8, Tryz.ntmps8
 go_wp2_with fail
 rw [← hX1, ← hX2, ← hX3]
 clear hX1 hX2 hX3 z1 z2
 refine c1.mono ?_
 rintro b X4 ⟨u4, rfl, hO4, hb4⟩
 obtain ⟨A4, n4, c4, rfl⟩ := hO4.shape
 have Q4 : Hid (Owns X4 X3.heap.size 58 2 (.slice A4 n4 c4) (ptR x.bks)) := hO4
 have B4 : Hid (Below w.heap.size w X4) := BX.out.trans (hb4.mono BX.out.size)
 have KA4 : Hid (Blk X4 w.heap.size #[.int .i64 sk, .int .i64 sh, .int .i64 sm, .slice Ab nb cb, .int .i64 sf, .slice Ac nc cc, .slice Af nf cf, .slice As ns cs] 29) := KA.out.on hb4 KA.out.lt
 have KR4 : Hid (Blk X4 (w.heap.size + 1) #[.int .i64 0, .int .i64 0, .int .i64 0, .slice none 0 0, .int .i64 0, .slice none 0 0, .slice none 0 0, .slice none 0 0] 38) := KR.out.on hb4 KR.out.lt
 have KO4 : Hid (Blk X4 (w.heap.size + 1 + 1) #[.int .i64 sk, .int .i64 sh, .int .i64 sm, .slice none 0 0, .int .i64 0, .slice none 0 0, .slice none 0 0, .slice none 0 0] 38) := KO.out.on hb4 KO.out.lt
 have HZ : Hid (X3.heap.size = w.heap.size + 1 + 1 + 1) := z3
 clear hO4 hb4 c1 ka KA KR KO z3
 generalize hG : w.heap.size + 1 + 1 = G at *
 generalize hR : w.heap.size + 1 = R at *
 have HG : Hid (R + 1 = G ∧ w.heap.size + 1 = R) := ⟨hG, hR⟩
 clear hG hR
 obtain ⟨X5, hX5⟩ : ∃ X5, X5 = X4.setCell ⟨G, 3, none⟩ (.slice A4 n4 c4) := ⟨_, rfl⟩
 have m1 : _ = some (Value.slice none 0 0) := KO4.out.cell 3 _ rfl
 have f1 := KO4.out.free 3
 have KO5 : Hid (Blk X5 G #[.int .i64 sk, .int .i64 sh, .int .i64 sm, .slice A4 n4 c4, .int .i64 0, .slice none 0 0, .slice none 0 0, .slice none 0 0] 38) := by unfold Hid; rw [hX5]; exact KO4.out.set 3 _
 have KR5 : Hid (Blk X5 R #[.int .i64 0, .int .i64 0, .int .i64 0, .slice none 0 0, .int .i64 0, .slice none 0 0, .slice none 0 0, .slice none 0 0] 38) := by unfold Hid; rw [hX5]; exact KR4.out.other (by have := HG.out; omega) 3 _
 have KA5 : Hid (Blk X5 w.heap.size #[.int .i64 sk, .int .i64 sh, .int .i64 sm, .slice Ab nb cb, .int .i64 sf, .slice Ac nc cc, .slice Af nf cf, .slice As ns cs] 29) := by unfold Hid; rw [hX5]; exact KA4.out.other (by have := HG.out; omega) 3 _
 have Q5 : Hid (Owns X5 X3.heap.size 58 2 (.slice A4 n4 c4) (ptR x.bks)) := by unfold Hid; rw [hX5]; exact ((KeptBut.refl G X4).set 3 _).owns Q4.out (Q4.out.below (by have := HG.out; have := HZ.out; omega))
 have B5 : Hid (Below w.heap.size w X5) := by unfold Hid; rw [hX5]; exact B4.out.setCell (show w.heap.size ≤ G by have := HG.out; omega) _
 have k4 := KA5.out.cell 4 _ rfl
 have k5 := KA5.out.cell 5 _ rfl
 have k6 := KA5.out.cell 6 _ rfl
 have c2 := toEngine x.eng _ X5 B (LE.out.on (B5.out.mono HB.out)) HS.out.2.1 (Nat.le_trans HB.out B5.out.size)
 rw [hX5] at k4 k5 k6
 clear KO4 KR4 KA4 Q4 B4
 go_wp2_with fail
 rw [← hX5]
 clear hX5 m1 f1 k4 k5 k6
 refine c2.mono ?_
 rintro b X6 ⟨⟨u6, rfl, hE6⟩, hb6⟩
 obtain ⟨vc6, vf6, L6, ev6, hL6, hS6, hT6⟩ := hE6
 unfold vE at ev6
 rw [HX.out.2.2.2] at ev6
 subst ev6
 obtain ⟨A6, n6, c6, rfl⟩ := hS6.1.shape
 obtain ⟨A7, n7, c7, rfl⟩ := (strs_owns hT6).shape
 have HL : Hid (L6.map Prod.fst = x.eng.cache) := hL6
 have S6 : Hid (SerO X6 X5.heap.size (.slice A6 n6 c6) L6) := hS6
 have T6 : Hid (Strs X6 X5.heap.size (.slice A7 n7 c7) x.eng.files) := hT6
 have Q6 : Hid (Owns X6 X3.heap.size 58 2 (.slice A4 n4 c4) (ptR x.bks)) := Q5.out.on hb6
 have B6 : Hid (Below w.heap.size w X6) := B5.out.trans (hb6.mono B5.out.size)
 have KA6 : Hid (Blk X6 w.heap.size #[.int .i64 sk, .int .i64 sh, .int .i64 sm, .slice Ab nb cb, .int .i64 sf, .slice Ac nc cc, .slice Af nf cf, .slice As ns cs] 29) := KA5.out.on hb6 KA5.out.lt
 have KR6 : Hid (Blk X6 R #[.int .i64 0, .int .i64 0, .int .i64 0, .slice none 0 0, .int .i64 0, .slice none 0 0, .slice none 0 0, .slice none 0 0] 38) := KR5.out.on hb6 KR5.out.lt
 have KO6 : Hid (Blk X6 G #[.int .i64 sk, .int .i64 sh, .int .i64 sm, .slice A4 n4 c4, .int .i64 0, .slice none 0 0, .slice none 0 0, .slice none 0 0] 38) := KO5.out.on hb6 KO5.out.lt
 have HG5 : Hid (G < X5.heap.size ∧ R < X5.heap.size) := ⟨KO5.out.lt, KR5.out.lt⟩
 clear hL6 hS6 hT6 hb6 c2 KA5 KR5 KO5 Q5 B5
 obtain ⟨X7, hX7⟩ : ∃ X7, X7 = ((X6.setCell ⟨G, 4, none⟩ (.int .i64 sf)).setCell ⟨G, 5, none⟩ (.slice A6 n6 c6)).setCell ⟨G, 6, none⟩ (.slice A7 n7 c7) := ⟨_, rfl⟩
 have m4 : _ = some (Value.int .i64 0) := KO6.out.cell 4 _ rfl
 have f4 := KO6.out.free 4
 have KOa := KO6.out.set 4 (.int .i64 sf)
 have m5 : _ = some (Value.slice none 0 0) := KOa.cell 5 _ rfl
 have f5 := KOa.free 5
 have KOb := KOa.set 5 (.slice A6 n6 c6)
 have m6 : _ = some (Value.slice none 0 0) := KOb.cell 6 _ rfl
 have f6 := KOb.free 6
 have KO7 : Hid (Blk X7 G #[.int .i64 sk, .int .i64 sh, .int .i64 sm, .slice A4 n4 c4, .int .i64 sf, .slice A6 n6 c6, .slice A7 n7 c7, .slice none 0 0] 38) := by unfold Hid; rw [hX7]; exact KOb.set 6 _
 have kG7 : Hid (KeptBut G X6 X7) := by unfold Hid; rw [hX7]; exact (((KeptBut.refl G X6).set 4 _).set 5 _).set 6 _
 have KR7 : Hid (Blk X7 R #[.int .i64 0, .int .i64 0, .int .i64 0, .slice none 0 0, .int .i64 0, .slice none 0 0, .slice none 0 0, .slice none 0 0] 38) := kG7.out.blk KR6.out (by have := HG.out; omega)
 have KA7 : Hid (Blk X7 w.heap.size #[.int .i64 sk, .int .i64 sh, .int .i64 sm, .slice Ab nb cb, .int .i64 sf, .slice Ac nc cc, .slice Af nf cf, .slice As ns cs] 29) := kG7.out.blk KA6.out (by have := HG.out; omega)
 have Q7 : Hid (Owns X7 X3.heap.size 58 2 (.slice A4 n4 c4) (ptR x.bks)) := kG7.out.owns Q6.out (Q6.out.below (by have := HG.out; have := HZ.out; omega))
 have S7 : Hid (SerO X7 X5.heap.size (.slice A6 n6 c6) L6) := S6.out.others kG7.out HG5.out.1
 have T7 : Hid (Strs X7 X5.heap.size (.slice A7 n7 c7) x.eng.files) := owns_strs (kG7.out.owns (strs_owns T6.out) ((strs_owns T6.out).below HG5.out.1))
 have B7 : Hid (Below w.heap.size w X7) := B6.out.trans (kG7.out.1.mono (by have := HG.out; omega))
 have k7 := KA7.out.cell 7 _ rfl
 have c3 := toSessionS x.ses _ X7 B (LQ.out.on (B7.out.mono HB.out)) HS.out.2.2.1 (Nat.le_trans HB.out B7.out.size)
 rw [hX7] at k7
 clear KOa KOb KO6 KR6 KA6 Q6 S6 T6 B6 kG7
 go_wp2_with fail
 rw [← hX7]
 clear hX7 m4 m5 m6 f4 f5 f6 k7
 refine c3.mono ?_
 rintro b X8 ⟨u8, rfl, hO8, hb8⟩
 obtain ⟨A9, n9, c9, rfl⟩ := hO8.shape
 have Y8 : Hid (Owns X8 X7.heap.size 53 6 (.slice A9 n9 c9) (sesR x.ses)) := hO8
 have Q8 : Hid (Owns X8 X3.heap.size 58 2 (.slice A4 n4 c4) (ptR x.bks)) := Q7.out.on hb8
 have S8 : Hid (SerO X8 X5.heap.size (.slice A6 n6 c6) L6) := S7.out.on hb8
 have T8 : Hid (Strs X8 X5.heap.size (.slice A7 n7 c7) x.eng.files) := owns_strs ((strs_owns T7.out).on hb8)
 have B8 : Hid (Below w.heap.size w X8) := B7.out.trans (hb8.mono B7.out.size)
 have KR8 := KR7.out.on hb8 KR7.out.lt
 have KO8 := KO7.out.on hb8 KO7.out.lt
 have HG7 : Hid (G < X7.heap.size ∧ R < X7.heap.size) := ⟨KO7.out.lt, KR7.out.lt⟩
 clear hO8 hb8 c3 KA7 KR7 KO7 Q7 S7 T7 B7
 have m7 : _ = some (Value.slice none 0 0) := KO8.cell 7 _ rfl
 have f7 := KO8.free 7
 have KO9 : Blk (X8.setCell ⟨G, 7, none⟩ (.slice A9 n9 c9)) G #[.int .i64 sk, .int .i64 sh, .int .i64 sm, .slice A4 n4 c4, .int .i64 sf, .slice A6 n6 c6, .slice A7 n7 c7, .slice A9 n9 c9] 38 := KO8.set 7 (.slice A9 n9 c9)
 have o0 := KO9.cell 0 _ rfl
 have o1 := KO9.cell 1 _ rfl
 have o2 := KO9.cell 2 _ rfl
 have o3 := KO9.cell 3 _ rfl
 have o4 := KO9.cell 4 _ rfl
 have o5 := KO9.cell 5 _ rfl
 have o6 := KO9.cell 6 _ rfl
 have o7 := KO9.cell 7 _ rfl
 have KRa : Blk (X8.setCell ⟨G, 7, none⟩ (.slice A9 n9 c9)) R #[.int .i64 0, .int .i64 0, .int .i64 0, .slice none 0 0, .int .i64 0, .slice none 0 0, .slice none 0 0, .slice none 0 0] 38 := KR8.other (show R ≠ G by have := HG.out; omega) 7 (.slice A9 n9 c9)
 obtain ⟨⟨r0, g0⟩, ⟨r1, g1⟩, ⟨r2, g2⟩, ⟨r3, g3⟩, ⟨r4, g4⟩, ⟨r5, g5⟩, ⟨r6, g6⟩, ⟨r7, g7⟩, _, kR, e0, e1, e2, e3, e4, e5, e6, e7⟩ := res8 (w := (X8.setCell ⟨G, 7, none⟩ (.slice A9 n9 c9))) (g := R) (x0 := .int .i64 sk) (x1 := .int .i64 sh) (x2 := .int .i64 sm) (x3 := .slice A4 n4 c4) (x4 := .int .i64 sf) (x5 := .slice A6 n6 c6) (x6 := .slice A7 n7 c7) (x7 := .slice A9 n9 c9) KRa
 have kG : KeptBut G X8 (X8.setCell ⟨G, 7, none⟩ (.slice A9 n9 c9)) := (KeptBut.refl G X8).set 7 _
 have SF : Hid (StaO (((((((((X8.setCell ⟨G, 7, none⟩ (.slice A9 n9 c9)).setCell ⟨R, 0, none⟩ (.int .i64 sk)).setCell ⟨R, 1, none⟩ (.int .i64 sh)).setCell ⟨R, 2, none⟩ (.int .i64 sm)).setCell ⟨R, 3, none⟩ (.slice A4 n4 c4)).setCell ⟨R, 4, none⟩ (.int .i64 sf)).setCell ⟨R, 5, none⟩ (.slice A6 n6 c6)).setCell ⟨R, 6, none⟩ (.slice A7 n7 c7)).setCell ⟨R, 7, none⟩ (.slice A9 n9 c9)) w.heap.size (.agg #[.int .i64 sk, .int .i64 sh, .int .i64 sm, .slice A4 n4 c4, .int .i64 sf, .slice A6 n6 c6, .slice A7 n7 c7, .slice A9 n9 c9]) x) := by
  have q1 := kG.owns Q8.out (Q8.out.below (by have := HG.out; have := HZ.out; omega))
  have q2 := kR.owns q1 (q1.below (by have := HG.out; have := HZ.out; omega))
  have s2 := (S8.out.others kG HG5.out.1).others kR HG5.out.2
  have t1 := kG.owns (strs_owns T8.out) ((strs_owns T8.out).below HG5.out.1)
  have t2 := kR.owns t1 (t1.below HG5.out.2)
  have y1 := kG.owns Y8.out (Y8.out.below HG7.out.1)
  have y2 := kR.owns y1 (y1.below HG7.out.2)
  have hx := HX.out
  have hz := HZ.out
  have hg := HG.out
  have h5 := HG5.out
  have h7 := HG7.out
  exact ⟨_, _, _, _, L6, by unfold vSt; rw [hx.1, hx.2.1, hx.2.2.1, hx.2.2.2], q2.mono (by omega), ⟨HL.out, s2.mono (by omega), owns_strs (t2.mono (by omega))⟩, y2.mono (by omega)⟩
 have BF : Hid (Below w.heap.size w (((((((((X8.setCell ⟨G, 7, none⟩ (.slice A9 n9 c9)).setCell ⟨R, 0, none⟩ (.int .i64 sk)).setCell ⟨R, 1, none⟩ (.int .i64 sh)).setCell ⟨R, 2, none⟩ (.int .i64 sm)).setCell ⟨R, 3, none⟩ (.slice A4 n4 c4)).setCell ⟨R, 4, none⟩ (.int .i64 sf)).setCell ⟨R, 5, none⟩ (.slice A6 n6 c6)).setCell ⟨R, 6, none⟩ (.slice A7 n7 c7)).setCell ⟨R, 7, none⟩ (.slice A9 n9 c9))) := (B8.out.trans (kG.1.mono (by have := HG.out; omega))).trans (kR.1.mono (by have := HG.out; omega))
 clear KO8 KO9 KR8 KRa kG kR
 go_wp2_with fail
 exact bodyPost_ret (v := .agg #[.int .i64 sk, .int .i64 sh, .int .i64 sm, .slice A4 n4 c4, .int .i64 sf, .slice A6 n6 c6, .slice A7 n7 c7, .slice A9 n9 c9]) (by simp [results, go_sem, e0, e1, e2, e3, e4, e5, e6, e7]) rfl ⟨⟨_, rfl, SF.out⟩, BF.out⟩
end Go.Proofs.YthhamlahdjokkaaGreatDoor
namespace Go.Proofs.YthhamlahdjokkaaGreatDoor
open Go.ChangeShapes Go.WideShapes Go.ChangeAt Go.RowKit Go.PlainAid
set_option linter.unusedVariables false
def bkt (t : Int) : Int := if 0 ≤ t ∧ t ≤ 1099511627776 then t / 100 else -1
theorem bkt_in {t : Int} (h0 : 0 ≤ t) (h1 : t ≤ 1099511627776) : bkt t = t / 100 := if_pos ⟨h0, h1⟩
set_option maxHeartbeats 400000 in
theorem implBucket (t : Int) (w : World) :
  Calls Tryz.prog 107 #[.int .i64 t] w fun e w' => e = .returned (.int .i64 (bkt t)) ∧ w = w' := by
 by_cases h0 : t < 0
 ·have e : bkt t = -1 := if_neg (by omega)
  rw [e]
  go_enter Tryz.func107, Tryz.ntmps107
  go_wp2
  go_ret
  exact ⟨rfl, rfl⟩
 ·by_cases h1 : 1099511627776 < t
  ·have e : bkt t = -1 := if_neg (by omega)
   have h2 : ¬ t < 0 := h0
   rw [e]
   go_enter Tryz.func107, Tryz.ntmps107
   go_wp2
   go_ret
   exact ⟨rfl, rfl⟩
  ·have e : bkt t = t / 100 := bkt_in (by omega) (by omega)
   have h2 : decide (1099511627776 < t) = false := by simp; omega
   have h3 : Int.tdiv t 100 = t / 100 := Int.tdiv_eq_ediv_of_nonneg (by omega)
   have h4 : IntKind.i64.wrap (t / 100) = t / 100 := by rw [IntKind.wrap_i64]; omega
   rw [e]
   go_enter Tryz.func107, Tryz.ntmps107
   go_wp2
   go_ret
   exact ⟨rfl, rfl⟩
set_option maxHeartbeats 400000 in
theorem specBucket (t : Int) (w : World) :
  Calls Tryz.prog 23 #[.int .i64 t] w fun e w' => e = .returned (.int .i64 (bkt t)) ∧ w = w' := by
 by_cases h0 : 0 ≤ t ∧ t ≤ 1099511627776
 ·have e : bkt t = t / 100 := if_pos h0
  have cI := in_yes t 0 1099511627776 w h0.1 h0.2
  have h3 : Int.tdiv t 100 = t / 100 := Int.tdiv_eq_ediv_of_nonneg (by omega)
  have h4 : IntKind.i64.wrap (t / 100) = t / 100 := by rw [IntKind.wrap_i64]; omega
  rw [e]
  go_enter Tryz.func23, Tryz.ntmps23
  go_wp2_with fail
  refine cI.mono ?_
  rintro _ _ ⟨rfl, rfl⟩
  go_wp2
  go_ret
  exact ⟨rfl, rfl⟩
 ·have e : bkt t = -1 := if_neg h0
  have cI := in_no t 0 1099511627776 w (by omega)
  rw [e]
  go_enter Tryz.func23, Tryz.ntmps23
  go_wp2_with fail
  refine cI.mono ?_
  rintro _ _ ⟨rfl, rfl⟩
  go_wp2
  go_ret
  exact ⟨rfl, rfl⟩
end Go.Proofs.YthhamlahdjokkaaGreatDoor
namespace Go.Proofs.YthhamlahdjokkaaGreatDoor
open Go.ChangeShapes Go.WideShapes Go.ChangeAt Go.RowKit Go.PlainAid
set_option linter.unusedVariables false
def AtR (l : List Ser) (k : ByteArray) (r : Int) : Prop := (r = -1 ∧ ∀ x ∈ l, x.key ≠ k) ∨ ∃ j : Nat, r = (j : Int) ∧ j < l.length ∧ (l.getD j default).key = k ∧ ∀ i, i < j → (l.getD i default).key ≠ k
theorem ptsAt_at {k : ByteArray} : ∀ {l : List Ser} {j : Nat}, j < l.length → (l.getD j default).key = k → (∀ i, i < j → (l.getD i default).key ≠ k) → ptsAt l k = (l.getD j default).pts
 | x :: l, 0, _, h, _ => by
  have hx : x.key = k := h
  rw [ptsAt, if_pos hx]
  rfl
 | x :: l, j + 1, hj, h, hi => by
  have hx : x.key ≠ k := hi 0 (by omega)
  rw [ptsAt, if_neg hx]
  exact ptsAt_at (l := l) (by simpa using hj) h fun i h' => hi (i + 1) (by omega)
set_option maxHeartbeats 1000000 in
theorem specAt (l : List Ser) (key : ByteArray) (v : Value) (w : World) (B : Nat) (hv : SerV w B v l) (hn : l.length ≤ 1048576) :
  Calls Tryz.prog 145 #[v, .string key] w fun e w' => (∃ r : Int, e = .returned (.int .i64 r) ∧ Hid (AtR l key r)) ∧ w = w' := by
 obtain ⟨A, cap, rfl, hl⟩ := hv.look
 have HL : Hid (∀ j, j < l.length → ∃ g off u, A = some ⟨g, off, none⟩ ∧ g < B ∧ w.cell? ⟨g, off + j * 2, none⟩ = some (.string (l.getD j default).key) ∧ w.cell? ⟨g, off + j * 2 + 1, none⟩ = some u ∧ Lies w B 2 u (ptR (l.getD j default).pts)) := hl
 have q1 : (l.length : Int) ≤ 1048576 := by omega
 clear hl hv hn
 generalize hN : l.length = n at *
 have HN : Hid (l.length = n) := hN
 clear hN
 go_enter Tryz.func145, Tryz.ntmps145
 go_wp2_with fail
 go_loop [5] (fun v5 => ∃ k : Nat, k ≤ n ∧ v5 = .int .i64 (k : Int) ∧ Hid (∀ i, i < k → (l.getD i default).key ≠ key)) (fun i => n - (intOf i).toNat)
 case atStart => exact ⟨0, by omega, rfl, fun i hi => by omega⟩
 case round =>
  obtain ⟨k, hk, rfl, HJ⟩ := hrel
  by_cases hlt : k < n
  ·have q4 : (k : Int) < (n : Int) := by omega
   obtain ⟨g, off, u, rfl, hg, e1, e2, _⟩ := HL.out k hlt
   by_cases hkey : (l.getD k default).key = key
   ·have HF : Hid (AtR l key (k : Int)) := .inr ⟨k, rfl, by rw [HN.out]; exact hlt, hkey, HJ.out⟩
    rw [hkey] at e1
    clear hkey
    go_wp2_with fail
    go_ret
    exact ⟨⟨_, rfl, HF⟩, rfl⟩
   ·have HK : Hid ((l.getD k default).key ≠ key) := hkey
    have hne := bytes_ne hkey
    clear hkey
    generalize (l.getD k default).key = xk at e1 hne
    go_wp2_with fail
    go_round
    case rel =>
     refine ⟨k + 1, by omega, by go_num, fun i hi => ?_⟩
     by_cases e : i = k
     ·rw [e]; exact HK.out
     ·exact HJ.out i (by omega)
    case measure => simp [intOf]; omega
  ·obtain rfl : k = n := by omega
   have HF : Hid (AtR l key (-1)) := .inl ⟨rfl, fun x hx => by
    obtain ⟨j, hj, rfl⟩ := List.getElem_of_mem hx
    rw [getD_at l j hj]
    exact HJ.out j (by rw [← HN.out]; exact hj)⟩
   go_wp2_with fail
   go_ret
   exact ⟨⟨_, rfl, HF⟩, rfl⟩
theorem cntS_le (l : List Ser) (h : ∀ x ∈ l, x.pts.length ≤ 1000) : ∀ k, k ≤ l.length → cntS (l.take k) ≤ 1000 * k
 | 0, _ => by simp [cntS]
 | k + 1, hk => by
  have ih := cntS_le l h k (by omega)
  have := h _ (getD_mem l k (by omega))
  rw [cntS_snoc l k (by omega)]
  omega
set_option maxHeartbeats 1000000 in
theorem specCount (l : List Ser) (v : Value) (w : World) (B : Nat) (hv : SerV w B v l) (hn : l.length ≤ 1000) (hs : ∀ x ∈ l, x.pts.length ≤ 1000) :
  Calls Tryz.prog 59 #[v] w fun e w' => e = .returned (.int .i64 (cntS l : Int)) ∧ w = w' := by
 obtain ⟨A, cap, rfl, hl⟩ := hv.look
 have HL : Hid (∀ j, j < l.length → ∃ g off u, A = some ⟨g, off, none⟩ ∧ g < B ∧ w.cell? ⟨g, off + j * 2, none⟩ = some (.string (l.getD j default).key) ∧ w.cell? ⟨g, off + j * 2 + 1, none⟩ = some u ∧ Lies w B 2 u (ptR (l.getD j default).pts)) := hl
 have HC : Hid (∀ k, k ≤ l.length → cntS (l.take k) ≤ 1000 * k) := cntS_le l hs
 have HS : Hid (∀ k, k < l.length → cntS (l.take (k + 1)) = cntS (l.take k) + (l.getD k default).pts.length) := fun k hk => cntS_snoc l k hk
 have HT : Hid (∀ k, k = l.length → cntS (l.take k) = cntS l) := fun k hk => by rw [hk, List.take_length]
 have HM : Hid (∀ k, k < l.length → (l.getD k default).pts.length ≤ 1000) := fun k hk => hs _ (getD_mem l k hk)
 have H0 : Hid (cntS (l.take 0) = 0) := by simp [Hid, cntS]
 have q1 : (l.length : Int) ≤ 1000 := by omega
 clear hl hv hs
 generalize hN : l.length = n at *
 clear hN
 go_enter Tryz.func59, Tryz.ntmps59
 go_wp2_with fail
 go_loop [3, 4] (fun v3 v4 => ∃ k : Nat, k ≤ n ∧ v4 = .int .i64 (k : Int) ∧ v3 = .int .i64 (cntS (l.take k) : Int)) (fun _ i => n - (intOf i).toNat)
 case atStart => exact ⟨0, by omega, rfl, by rw [H0.out]; rfl⟩
 case round =>
  obtain ⟨k, hk, rfl, rfl⟩ := hrel
  by_cases hlt : k < n
  ·have q4 : (k : Int) < (n : Int) := by omega
   obtain ⟨g, off, u, rfl, hg, e1, e2, hu⟩ := HL.out k hlt
   obtain ⟨A', c', rfl, _⟩ := pt_look hu
   have h1 := HC.out k hk
   have h2 := HM.out k hlt
   have h3 := HS.out k hlt
   have HE : Hid (cntS (l.take (k + 1)) = cntS (l.take k) + (l.getD k default).pts.length) := h3
   clear hu h3
   generalize cntS (l.take k) = c at *
   generalize (l.getD k default).pts.length = p at *
   have q5 : (c : Int) ≤ 1000000 := by omega
   have q6 : (p : Int) ≤ 1000 := by omega
   have w2 : wrap64 ((c : Int) + (p : Int)) = (c : Int) + (p : Int) := by unfold wrap64; omega
   go_wp2_with fail
   go_round
   case rel => exact ⟨k + 1, by omega, by go_num, by rw [HE.out]; go_num⟩
   case measure => simp [intOf]; omega
  ·obtain rfl : k = n := by omega
   have HE := HT.out k rfl
   go_wp2_with fail
   go_ret
   exact ⟨rfl, rfl⟩
end Go.Proofs.YthhamlahdjokkaaGreatDoor
namespace Go.Proofs.YthhamlahdjokkaaGreatDoor
open Go.ChangeShapes Go.WideShapes Go.ChangeAt Go.RowKit Go.PlainAid
set_option linter.unusedVariables false
def preK (ls : List (List Ser)) (i k : Nat) : List ByteArray := keysOf (ls.take i) ++ ((ls.getD i []).take k).map Ser.key
theorem keysOf_snoc (ls : List (List Ser)) (l : List Ser) : keysOf (ls ++ [l]) = keysOf ls ++ l.map Ser.key := by unfold keysOf; rw [List.flatten_append, List.map_append]; simp
theorem preK_zero (ls : List (List Ser)) : preK ls 0 0 = [] := by simp [preK, keysOf]
theorem preK_step (ls : List (List Ser)) (i k : Nat) (h : k < (ls.getD i []).length) : preK ls i (k + 1) = preK ls i k ++ [((ls.getD i []).getD k default).key] := by
 unfold preK
 rw [take_getD _ k h, List.map_append, List.append_assoc]
 rfl
theorem preK_next (ls : List (List Ser)) (i : Nat) (h : i < ls.length) : preK ls i (ls.getD i []).length = preK ls (i + 1) 0 := by
 unfold preK
 rw [List.take_length, List.take_zero, List.map_nil, List.append_nil]
 have e : ls.take (i + 1) = ls.take i ++ [ls.getD i []] := by
  rw [List.take_add_one, List.getElem?_eq_getElem h, List.getD_eq_getElem?_getD, List.getElem?_eq_getElem h]
  rfl
 rw [e, keysOf_snoc]
theorem preK_all (ls : List (List Ser)) : preK ls ls.length 0 = keysOf ls := by
 unfold preK
 rw [List.take_length, List.take_zero, List.map_nil, List.append_nil]
theorem allK_snoc (ks : List ByteArray) (k : ByteArray) : allK (ks ++ [k]) = insK (allK ks) k := by unfold allK; rw [List.foldl_append]; rfl
theorem insK_len (k : ByteArray) : ∀ l : List ByteArray, (insK l k).length ≤ l.length + 1
 | [] => by simp [insK]
 | x :: l => by
  have ih := insK_len k l
  rw [insK]
  split
  ·omega
  ·split
   ·simp
   ·simp; omega
theorem foldK_len : ∀ (ks a : List ByteArray), (ks.foldl insK a).length ≤ a.length + ks.length
 | [], a => by simp
 | k :: ks, a => by
  have h1 := foldK_len ks (insK a k)
  have h2 := insK_len k a
  rw [List.foldl_cons, List.length_cons]
  omega
theorem keysOf_len : ∀ (ls : List (List Ser)), (∀ l ∈ ls, l.length ≤ 10) → (keysOf ls).length ≤ 10 * ls.length
 | [], _ => by simp [keysOf]
 | l :: ls, h => by
  have h1 := keysOf_len ls fun m hm => h m (by simp [hm])
  have h2 := h l (by simp)
  have e : keysOf (l :: ls) = l.map Ser.key ++ keysOf ls := by simp [keysOf]
  rw [e, List.length_append, List.length_map, List.length_cons]
  omega
theorem getD_memL (ls : List (List Ser)) (i : Nat) (h : i < ls.length) : ls.getD i [] ∈ ls := by
 rw [List.getD_eq_getElem?_getD, List.getElem?_eq_getElem h]
 exact List.getElem_mem h
theorem preK_len (ls : List (List Ser)) (hl : ∀ l ∈ ls, l.length ≤ 10) (hn : ls.length ≤ 10) (i k : Nat) (hi : i ≤ ls.length) : (allK (preK ls i k)).length ≤ 200 := by
 have h1 := foldK_len (preK ls i k) []
 have h2 := keysOf_len (ls.take i) fun l hm => hl l (List.mem_of_mem_take hm)
 have h3 : (ls.take i).length ≤ 10 := by rw [List.length_take]; omega
 have h4 : ((ls.getD i []).take k).length ≤ 10 := by
  rw [List.length_take]
  by_cases h : i < ls.length
  ·have := hl _ (getD_memL ls i h)
   omega
  ·have e : ls.getD i [] = [] := by rw [List.getD_eq_getElem?_getD, List.getElem?_eq_none (by omega)]; rfl
   rw [e]; simp
 have h5 : (preK ls i k).length ≤ 200 := by
  unfold preK
  rw [List.length_append, List.length_map]
  omega
 unfold allK
 simp only [List.length_nil] at h1
 omega
set_option maxHeartbeats 2000000 in
theorem specKeys (ls : List (List Ser)) (v : Value) (w : World) (B : Nat) (hv : LayV w B v ls) (hn : ls.length ≤ 10) (hs : ∀ l ∈ ls, l.length ≤ 10) (hB : B ≤ w.heap.size) :
  Calls Tryz.prog 103 #[v] w fun e w' => (∃ u, e = .returned u ∧ Owns w' w.heap.size 9 1 u (stR (keysL ls))) ∧ Below w.heap.size w w' := by
 obtain ⟨A, cap, rfl, hl⟩ := hv.look
 have HL : Hid (∀ j, j < ls.length → ∃ g off u, A = some ⟨g, off, none⟩ ∧ g < B ∧ w.cell? ⟨g, off + j, none⟩ = some u ∧ SerV w B u (ls.getD j [])) := hl
 have HB : Hid (B ≤ w.heap.size) := hB
 have HP : Hid (∀ i k, i ≤ ls.length → (allK (preK ls i k)).length ≤ 200) := fun i k hi => preK_len ls hs hn i k hi
 have H0 : Hid (allK (preK ls 0 0) = []) := by unfold Hid; rw [preK_zero]; rfl
 have HSt : Hid (∀ i k, k < (ls.getD i []).length → allK (preK ls i (k + 1)) = insK (allK (preK ls i k)) ((ls.getD i []).getD k default).key) := fun i k h => by rw [preK_step ls i k h, allK_snoc]
 have HNx : Hid (∀ i, i < ls.length → allK (preK ls i (ls.getD i []).length) = allK (preK ls (i + 1) 0)) := fun i h => by rw [preK_next ls i h]
 have HA : Hid (allK (preK ls ls.length 0) = keysL ls) := by unfold Hid; rw [preK_all]; rfl
 have HL1 : Hid (∀ i, i < ls.length → (ls.getD i []).length ≤ 10) := fun i hi => hs _ (getD_memL ls i hi)
 have q1 : (ls.length : Int) ≤ 10 := by omega
 clear hl hv hs hB hn
 generalize hN : ls.length = n at *
 clear hN
 have BE : Hid (Below w.heap.size w (w.alloc (.cells #[] 9))) := (Below.refl _ w).alloc (Nat.le_refl _) _
 have OE : Hid (Owns (w.alloc (.cells #[] 9)) w.heap.size 9 1 (.slice (some ⟨w.heap.size, 0, none⟩) 0 0) (stR [])) := Owns.empty w w.heap.size 9 1 (Nat.le_refl _)
 go_enter Tryz.func103, Tryz.ntmps103
 go_wp2_with fail
 go_loopw [3, 4] (fun v3 v4 wr => ∃ i : Nat, i ≤ n ∧ v4 = .int .i64 (i : Int) ∧ Owns wr w.heap.size 9 1 v3 (stR (allK (preK ls i 0))) ∧ Below w.heap.size w wr) (fun _ i _ => n - (intOf i).toNat)
 case atStart => exact ⟨0, by omega, rfl, by rw [H0.out]; exact OE.out, BE.out⟩
 case round =>
  obtain ⟨i, hi, rfl, hO, hb⟩ := hrel
  have HO : Hid (Owns wr w.heap.size 9 1 u3 (stR (allK (preK ls i 0)))) := hO
  have HBr : Hid (Below w.heap.size w wr) := hb
  obtain ⟨A3, n3, c3, rfl⟩ := hO.shape
  clear hO hb
  by_cases hlt : i < n
  ·have q4 : (i : Int) < (n : Int) := by omega
   obtain ⟨g, off, u, rfl, hg, e1, hu⟩ := HL.out i hlt
   have hgw : g < w.heap.size := Nat.lt_of_lt_of_le hg HB.out
   have HE1 : Hid (w.cell? ⟨g, off + i, none⟩ = some u) := e1
   obtain ⟨A', c', rfl, hlu⟩ := hu.look
   have HU : Hid (∀ j, j < (ls.getD i []).length → ∃ g off u, A' = some ⟨g, off, none⟩ ∧ g < B ∧ w.cell? ⟨g, off + j * 2, none⟩ = some (.string ((ls.getD i []).getD j default).key) ∧ w.cell? ⟨g, off + j * 2 + 1, none⟩ = some u ∧ Lies w B 2 u (ptR ((ls.getD i []).getD j default).pts)) := hlu
   have hmm := HL1.out i hlt
   have HNi : Hid (allK (preK ls i (ls.getD i []).length) = allK (preK ls (i + 1) 0)) := HNx.out i hlt
   have HSi : Hid (∀ k, k < (ls.getD i []).length → allK (preK ls i (k + 1)) = insK (allK (preK ls i k)) ((ls.getD i []).getD k default).key) := fun k h => HSt.out i k h
   have HPi : Hid (∀ k, (allK (preK ls i k)).length ≤ 200) := fun k => HP.out i k hi
   clear e1 hu hlu
   generalize ls.getD i [] = li at *
   generalize hm : li.length = m at *
   clear hm
   go_wp2_with fail
   go_loopw [3, 5] (fun v3 v5 wr' => ∃ k : Nat, k ≤ m ∧ v5 = .int .i64 (k : Int) ∧ Owns wr' w.heap.size 9 1 v3 (stR (allK (preK ls i k))) ∧ Below w.heap.size w wr') (fun _ i _ => m - (intOf i).toNat)
   case atStart => exact ⟨0, by omega, rfl, HO.out, HBr.out⟩
   case round =>
    obtain ⟨k, hk, rfl, hO, hb⟩ := hrel
    have HO2 : Hid (Owns wr w.heap.size 9 1 u3 (stR (allK (preK ls i k)))) := hO
    have HB2 : Hid (Below w.heap.size w wr) := hb
    obtain ⟨A4, n4, c4, rfl⟩ := hO.shape
    clear hO hb
    have e1 := HE1.out
    rw [← HB2.out.cell (p := ⟨_, _, none⟩) hgw] at e1
    by_cases hkm : k < m
    ·have q5 : (k : Int) < (m : Int) := by omega
     obtain ⟨g2, off2, u2, rfl, hg2, d1, d2, _⟩ := HU.out k hkm
     rw [← HB2.out.cell (p := ⟨_, _, none⟩) (Nat.lt_of_lt_of_le hg2 HB.out)] at d1
     have c1 := specName (allK (preK ls i k)) (li.getD k default).key (.slice A4 n4 c4) wr w.heap.size HO2.out (by have := HPi.out k; omega) (rise_allK _) HB2.out.size
     have HE : Hid (allK (preK ls i (k + 1)) = insK (allK (preK ls i k)) (li.getD k default).key) := HSi.out k hkm
     generalize (li.getD k default).key = x at d1 c1 HE
     go_wp2_with fail
     refine c1.mono ?_
     rintro e w2 ⟨⟨u, rfl, hO⟩, hb⟩
     have O3 : Hid (Owns w2 w.heap.size 9 1 u (stR (allK (preK ls i (k + 1))))) := by unfold Hid; rw [HE.out]; exact hO
     have B3 : Hid (Below w.heap.size w w2) := HB2.out.trans (hb.mono HB2.out.size)
     clear hO hb c1
     go_wp2_with fail
     go_roundw
     case rel => exact ⟨k + 1, by omega, by go_num, O3.out, B3.out⟩
     case measure => simp [intOf]; omega
    ·obtain rfl : k = m := by omega
     go_wp2_with fail
     go_roundw
     case rel => exact ⟨i + 1, by omega, by go_num, by rw [← HNi.out]; exact HO2.out, HB2.out⟩
     case measure => simp [intOf]; omega
  ·obtain rfl : i = n := by omega
   go_wp2_with fail
   go_ret
   refine ⟨⟨_, rfl, ?_⟩, HBr.out⟩
   rw [← HA.out]
   exact HO.out
theorem hasAll_take (ls : List (List Ser)) (key : ByteArray) (i : Nat) (h : i < ls.length) : hasAll (ls.take (i + 1)) key = mrg (hasAll (ls.take i) key) (ptsAt (ls.getD i []) key) := by
 have e : ls.take (i + 1) = ls.take i ++ [ls.getD i []] := by
  rw [List.take_add_one, List.getElem?_eq_getElem h, List.getD_eq_getElem?_getD, List.getElem?_eq_getElem h]
  rfl
 rw [e, hasAll_snoc]
def LFew (ls : List (List Ser)) : Prop := ls.length ≤ 10 ∧ ∀ l ∈ ls, l.length ≤ 10 ∧ ∀ x ∈ l, x.pts.length ≤ 200
theorem ptsAt_few {l : List Ser} (h : ∀ x ∈ l, x.pts.length ≤ 200) (k : ByteArray) : (ptsAt l k).length ≤ 200 := by
 rcases ptsAt_some (k := k) (l := l) with e | ⟨x, hx, _, e⟩
 ·rw [e]; simp
 ·rw [e]; exact h x hx
theorem LFew.has {ls : List (List Ser)} (h : LFew ls) (key : ByteArray) (i : Nat) : (hasAll (ls.take i) key).length ≤ 2000 := by
 have h1 := hasAll_len key 200 (ls.take i) [] fun l hl => ptsAt_few (h.2 l (List.mem_of_mem_take hl)).2 key
 have h2 : (ls.take i).length ≤ 10 := by rw [List.length_take]; have := h.1; omega
 unfold hasAll
 simp only [List.length_nil] at h1
 omega
set_option maxHeartbeats 2000000 in
theorem specHas (ls : List (List Ser)) (f : Int) (key : ByteArray) (v : Value) (w : World) (B : Nat) (hv : LayV w B v ls) (hf : LFew ls) (hB : B ≤ w.heap.size) :
  Calls Tryz.prog 104 #[v, .int .i64 f, .string key] w fun e w' => (∃ u, e = .returned u ∧ Owns w' w.heap.size 98 2 u (ptR ((hasAll ls key).filter (inP f 1099511627777)))) ∧ Below w.heap.size w w' := by
 obtain ⟨A, cap, rfl, hl⟩ := hv.look
 have HL : Hid (∀ j, j < ls.length → ∃ g off u, A = some ⟨g, off, none⟩ ∧ g < B ∧ w.cell? ⟨g, off + j, none⟩ = some u ∧ SerV w B u (ls.getD j [])) := hl
 have HB : Hid (B ≤ w.heap.size) := hB
 have HF : Hid (LFew ls) := hf
 have HH : Hid (∀ i, (hasAll (ls.take i) key).length ≤ 2000) := hf.has key
 have HT : Hid (∀ i, i < ls.length → hasAll (ls.take (i + 1)) key = mrg (hasAll (ls.take i) key) (ptsAt (ls.getD i []) key)) := hasAll_take ls key
 have HA : Hid (hasAll (ls.take ls.length) key = hasAll ls key) := by unfold Hid; rw [List.take_length]
 have H0 : Hid (hasAll (ls.take 0) key = []) := rfl
 have q1 : (ls.length : Int) ≤ 10 := by have := hf.1; omega
 clear hl hv hB hf
 generalize hN : ls.length = n at *
 have HN : Hid (ls.length = n) := hN
 clear hN
 have BE : Hid (Below w.heap.size w (w.alloc (.cells #[] 98))) := (Below.refl _ w).alloc (Nat.le_refl _) _
 have OE : Hid (Owns (w.alloc (.cells #[] 98)) w.heap.size 98 2 (.slice (some ⟨w.heap.size, 0, none⟩) 0 0) (ptR [])) := Owns.empty w w.heap.size 98 2 (Nat.le_refl _)
 go_enter Tryz.func104, Tryz.ntmps104
 go_wp2_with fail
 go_loopw [7, 8] (fun v7 v8 wr => ∃ i : Nat, i ≤ n ∧ v8 = .int .i64 (i : Int) ∧ Owns wr w.heap.size 98 2 v7 (ptR (hasAll (ls.take i) key)) ∧ Below w.heap.size w wr) (fun _ i _ => n - (intOf i).toNat)
 case atStart => exact ⟨0, by omega, rfl, by rw [H0.out]; exact OE.out, BE.out⟩
 case round =>
  obtain ⟨i, hi, rfl, hO, hb⟩ := hrel
  have HO : Hid (Owns wr w.heap.size 98 2 u7 (ptR (hasAll (ls.take i) key))) := hO
  have HBr : Hid (Below w.heap.size w wr) := hb
  obtain ⟨A3, n3, c3, rfl⟩ := hO.shape
  clear hO hb
  by_cases hlt : i < n
  ·have q4 : (i : Int) < (n : Int) := by omega
   obtain ⟨g, off, u, rfl, hg, e1, hu⟩ := HL.out i hlt
   have hgw : g < w.heap.size := Nat.lt_of_lt_of_le hg HB.out
   rw [← HBr.out.cell (p := ⟨_, _, none⟩) hgw] at e1
   have hfi := HF.out.2 _ (getD_memL ls i (by rw [HN.out]; exact hlt))
   have huw : SerV wr B u (ls.getD i []) := hu.on (HBr.out.mono HB.out)
   have c1 := specAt (ls.getD i []) key u wr B huw (by have := hfi.1; omega)
   obtain ⟨A', c', rfl, hlu⟩ := huw.look
   have HU : Hid (∀ j, j < (ls.getD i []).length → ∃ g off u, A' = some ⟨g, off, none⟩ ∧ g < B ∧ wr.cell? ⟨g, off + j * 2, none⟩ = some (.string ((ls.getD i []).getD j default).key) ∧ wr.cell? ⟨g, off + j * 2 + 1, none⟩ = some u ∧ Lies wr B 2 u (ptR ((ls.getD i []).getD j default).pts)) := hlu
   have HTi : Hid (hasAll (ls.take (i + 1)) key = mrg (hasAll (ls.take i) key) (ptsAt (ls.getD i []) key)) := HT.out i hlt
   have HFi : Hid (∀ x ∈ ls.getD i [], x.pts.length ≤ 200) := hfi.2
   have HHi : Hid ((hasAll (ls.take i) key).length ≤ 2000) := HH.out i
   have qm := hfi.1
   clear hu huw hlu hfi
   generalize ls.getD i [] = li at *
   generalize hasAll (ls.take i) key = a at *
   generalize hm : li.length = m at *
   have HM : Hid (li.length = m) := hm
   clear hm
   have qm' : (m : Int) ≤ 10 := by omega
   go_wp2_with fail
   refine c1.mono ?_
   rintro e w2 ⟨⟨r, rfl, HR⟩, rfl⟩
   rcases HR.out with ⟨rfl, hno⟩ | ⟨j, rfl, hj, hk, hnk⟩
   ·have HE : Hid (hasAll (ls.take (i + 1)) key = a) := by unfold Hid; rw [HTi.out, ptsAt_none hno, mrg_nil]
    clear hno HTi c1 HR
    go_wp2_with fail
    go_roundw
    case rel => exact ⟨i + 1, by omega, by go_num, by rw [HE.out]; exact HO.out, HBr.out⟩
    case measure => simp [intOf]; omega
   ·rw [HM.out] at hj
    have q5 : (j : Int) < (m : Int) := by omega
    obtain ⟨g2, off2, u2, rfl, hg2, d1, d2, hu2⟩ := HU.out j hj
    have HE : Hid (hasAll (ls.take (i + 1)) key = mrg a (li.getD j default).pts) := by unfold Hid; rw [HTi.out, ptsAt_at (by rw [HM.out]; exact hj) hk hnk]
    have hpl := HFi.out _ (getD_mem li j (by rw [HM.out]; exact hj))
    have c2 := specMergeL a (li.getD j default).pts (.slice A3 n3 c3) u2 wr wr.heap.size HO.out.lies (hu2.mono (Nat.le_trans HB.out HBr.out.size)) (by have := HHi.out; omega) (Nat.le_refl _)
    obtain ⟨A6, c6, rfl, _⟩ := pt_look hu2
    have Z : Hid (w.heap.size ≤ wr.heap.size) := HBr.out.size
    clear hk hnk HTi c1 HR d1 hu2
    generalize (li.getD j default).pts = pj at *
    generalize pj.length = pl at *
    go_wp2_with fail
    refine c2.mono ?_
    rintro e w2 ⟨⟨u, rfl, hO⟩, hb⟩
    have O3 : Hid (Owns w2 w.heap.size 98 2 u (ptR (hasAll (ls.take (i + 1)) key))) := by unfold Hid; rw [HE.out]; exact hO.mono Z.out
    have B3 : Hid (Below w.heap.size w w2) := HBr.out.trans (hb.mono Z.out)
    clear hO hb c2
    go_wp2_with fail
    go_roundw
    case rel => exact ⟨i + 1, by omega, by go_num, O3.out, B3.out⟩
    case measure => simp [intOf]; omega
  ·obtain rfl : i = n := by omega
   have c2 := specSliceL (hasAll (ls.take i) key) f 1099511627777 (.slice A3 n3 c3) wr wr.heap.size HO.out.lies (by have := HH.out i; omega) (Nat.le_refl _)
   rw [HA.out] at c2
   have Z : Hid (w.heap.size ≤ wr.heap.size) := HBr.out.size
   go_wp2_with fail
   refine c2.mono ?_
   rintro e w2 ⟨⟨u, rfl, hO⟩, hb⟩
   have O3 : Hid (Owns w2 w.heap.size 98 2 u (ptR ((hasAll ls key).filter (inP f 1099511627777)))) := hO.mono Z.out
   have B3 : Hid (Below w.heap.size w w2) := HBr.out.trans (hb.mono Z.out)
   clear hO hb c2
   go_wp2_with fail
   go_ret
   exact ⟨⟨_, rfl, O3.out⟩, B3.out⟩
end Go.Proofs.YthhamlahdjokkaaGreatDoor
namespace Go.Proofs.YthhamlahdjokkaaGreatDoor
open Go.RowKit Go.PlainAid
def fourN (l : List Ser) (j i : Nat) : Nat := if i = 0 then atB l j else if i = 1 then (blkB l j).length else if i = 2 then fT l j else lT l j
theorem four_cat (l : List Ser) (j : Nat) : cat (fun i => vF 6 (fourN l j i)) 4 = vF 6 (atB l j) ++ (vF 6 (blkB l j).length ++ (vF 6 (fT l j) ++ vF 6 (lT l j))) := by
 rw [cat_succ, cat_succ, cat_succ, cat_succ, cat_zero]
 simp only [fourN, List.nil_append, List.append_assoc]
 rfl
theorem GoodF.ends {s : ByteArray} {m : List Ser} (h : GoodF s m) : s.size - 8 = posF m m.length ∧ 12 ≤ s.size ∧ rdv (rest s (s.size - 8)) 4 = posF m 0 ∧ posF m 0 ≤ s.size - 8 := by
 have hp := posF_end h.2.1
 obtain ⟨h1, h2⟩ := begin_read h.2.1
 rw [h.text] at *
 have ee : (txt (fileB m)).size - 8 = posF m m.length := by rw [txt_size]; omega
 have h0 : posF m 0 = atB m m.length := by unfold posF idxB; rw [cat_zero]; rfl
 refine ⟨ee, h2, by rw [h1, h0], ?_⟩
 rw [ee]
 rcases Nat.eq_zero_or_pos m.length with h3 | h3
 ·rw [h3]; exact Nat.le_refl _
 ·exact Nat.le_of_lt (posF_lt h.2.1 0 h3)
theorem GoodF.more {s : ByteArray} {m : List Ser} (h : GoodF s m) (k : Nat) (hk : k ≤ m.length) (hp : posF m k < s.size - 8) : k < m.length := by
 rcases Nat.lt_or_ge k m.length with h1 | h1
 ·exact h1
 ·exfalso
  have : k = m.length := by omega
  subst this
  rw [h.ends.1] at hp
  omega
theorem GoodF.last {s : ByteArray} {m : List Ser} (h : GoodF s m) (k : Nat) (hk : k ≤ m.length) (hp : ¬ posF m k < s.size - 8) : k = m.length := by
 rcases Nat.lt_or_ge k m.length with h1 | h1
 ·exfalso
  rw [h.ends.1] at hp
  exact hp (posF_lt h.2.1 k h1)
 ·omega
theorem GoodF.step {s : ByteArray} {m : List Ser} (h : GoodF s m) (k : Nat) (hk : k < m.length) (p : Nat) (hp : p = posF m k) :
  rvN (s.extract p (s.size - 8)) = (sAt m k).key.size ∧ 1 ≤ rvK (s.extract p (s.size - 8)) ∧ p + rvK (s.extract p (s.size - 8)) + (sAt m k).key.size ≤ s.size - 8 ∧
  s.extract (p + rvK (s.extract p (s.size - 8))) (p + rvK (s.extract p (s.size - 8)) + (sAt m k).key.size) = (sAt m k).key ∧
  Rd (s.extract (p + rvK (s.extract p (s.size - 8)) + (sAt m k).key.size) (s.size - 8)) 4 (rowOf (fun i => (fourN m k i : Int)) 4) (cat (fun i => vF 6 (fourN m k i)) 4).length ∧
  p + rvK (s.extract p (s.size - 8)) + (sAt m k).key.size + (cat (fun i => vF 6 (fourN m k i)) 4).length = posF m (k + 1) ∧
  atB m k ≤ s.size ∧ (blkB m k).length ≤ s.size - atB m k ∧ s.extract (atB m k) (atB m k + (blkB m k).length) = showB (sAt m k).pts := by
 have hok := h.2.1
 obtain ⟨hend, h12, _, _⟩ := h.ends
 obtain ⟨a, b, hf, ha, hb⟩ := file_at m k hk
 obtain ⟨n1, n2, n3, n4, n5⟩ := nums_le hok k hk
 have hs := h.text
 have hblk := blk_read (l := m) k hk
 have hsp : spB m k = vF 6 (sAt m k).key.size ++ (bl (sAt m k).key ++ cat (fun i => vF 6 (fourN m k i)) 4) := by rw [four_cat]; rfl
 have hlen : posF m m.length = a.length + (spB m k ++ b).length := by
  rw [ha]
  unfold posF
  rw [hb]
  simp only [List.length_append]
  omega
 subst hp
 rw [← ha]
 generalize hK : (sAt m k).key = K at *
 generalize hC : cat (fun i => vF 6 (fourN m k i)) 4 = C at *
 generalize hT : low (atB m m.length) 4 ++ low (crc (txt (bodyF m))) 4 = T at *
 have e0 : fileB m = a ++ ((spB m k ++ b) ++ T) := by rw [hf]; simp only [List.append_assoc]
 have x0 : s.extract a.length (s.size - 8) = txt (vF 6 K.size ++ (bl K ++ (C ++ b))) := by
  rw [hend, hlen, hs, e0, extract_mid, hsp]
  simp only [List.append_assoc]
 have hr := rv_var K.size (bl K ++ (C ++ b)) n1
 rw [← x0] at hr
 rw [hr.1, hr.2]
 have hpos : 1 ≤ (vF 6 K.size).length := vF_pos _ _
 have hsl : (spB m k ++ b).length = (vF 6 K.size).length + (K.size + (C.length + b.length)) := by rw [hsp]; simp only [List.length_append, bl_length]; omega
 have e1 : fileB m = (a ++ vF 6 K.size) ++ (bl K ++ (C ++ b ++ T)) := by rw [e0, hsp]; simp only [List.append_assoc]
 have e2 : fileB m = (a ++ vF 6 K.size ++ bl K) ++ ((C ++ b) ++ T) := by rw [e0, hsp]; simp only [List.append_assoc]
 have x1 := extract_mid (a ++ vF 6 K.size) (bl K) (C ++ b ++ T)
 rw [← e1, ← hs, List.length_append, bl_length, txt_bl] at x1
 have x2 := extract_mid (a ++ vF 6 K.size ++ bl K) (C ++ b) T
 rw [← e2, ← hs, List.length_append, List.length_append, bl_length] at x2
 have e3 : a.length + (vF 6 K.size).length + K.size + (C ++ b).length = s.size - 8 := by rw [hend, hlen, hsl, List.length_append]; omega
 rw [e3] at x2
 have hrd := rd_cat (fourN m k) 4 (fun i _ => by unfold fourN; split; exact n2; split; exact n3; split; exact n4; exact n5) b 4 (Nat.le_refl _)
 rw [hC] at hrd
 have hat : atB m k + (blkB m k).length ≤ s.size := by
  obtain ⟨c, hc⟩ := cat_split (blkB m) k m.length hk
  have e4 : (blks m m.length).length = (blks m k).length + ((blkB m k).length + c.length) := by
   show (cat (blkB m) m.length).length = _
   rw [hc]
   simp only [List.length_append]
   rfl
  have := bodyF_length hok
  rw [hs, txt_size, fileB_length, this.1]
  unfold atB
  omega
 refine ⟨rfl, hpos, ?_, x1, ?_, ?_, by omega, by omega, ?_⟩
 ·rw [hend, hlen, hsl]
  omega
 ·rw [x2]
  exact hrd
 ·rw [posF_succ, ← ha, hsp]
  simp only [List.length_append, bl_length]
  omega
 ·rw [← hs] at hblk
  rw [← hblk]
  unfold blkA spotOf tk
  simp only
  rw [show min (atB m k) s.size = atB m k by omega, show min (atB m k + (blkB m k).length) s.size = atB m k + (blkB m k).length by omega]
theorem four_at (m : List Ser) (k : Nat) : (rowOf (fun i => (fourN m k i : Int)) 4).getD 0 0 = (atB m k : Int) ∧ (rowOf (fun i => (fourN m k i : Int)) 4).getD 1 0 = ((blkB m k).length : Int) := ⟨rfl, rfl⟩
theorem take_sAt {m : List Ser} (k : Nat) (hk : k < m.length) : m.take (k + 1) = m.take k ++ [sAt m k] := take_getD m k hk
theorem GoodF.pts {s : ByteArray} {m : List Ser} (h : GoodF s m) (k : Nat) (hk : k < m.length) : Good (showB (sAt m k).pts) (sAt m k).pts := ⟨(h.2.1.2 k hk).2.1, (h.2.1.2 k hk).2.2, rfl⟩
end Go.Proofs.YthhamlahdjokkaaGreatDoor
namespace Go.Proofs.YthhamlahdjokkaaGreatDoor
open Go.ChangeShapes Go.WideShapes Go.ChangeAt Go.RowKit Go.PlainAid
set_option linter.unusedVariables false
set_option maxRecDepth 20000 in
set_option maxHeartbeats 4000000 in
theorem specReadBlock (s : ByteArray) (w : World) (hs : s.size ≤ 1048576) : Calls Tryz.prog 165 #[.string s] w fun e w' => (∃ u l ok, RbAns s l ok ∧ e = .returned (.tuple #[u, .bool ok]) ∧ Owns w' w.heap.size 98 2 u (ptR l)) ∧ Below w.heap.size w w' := by
 obtain ⟨k0, c0, hu, hk0⟩ := unf_body s
 have HK0 : Hid ((code s = 0 ∧ k0 = 8 + rdv s 4) ∨ (code s ≠ 0 ∧ k0 = 0 ∧ bodyR s = ⟨#[]⟩)) := hk0
 have cU := fun wx => spec_unframe s wx hs
 rw [hu] at cU
 have hbz := bodyR_size s
 have qs : (s.size : Int) ≤ 1048576 := by omega
 have q0 : (k0 : Int) ≤ 3000 := by
  rcases hk0 with ⟨h1, h2⟩ | ⟨_, h2, _⟩
  ·have := ((code_zero s).1 h1).2.2.1; omega
  ·omega
 have E0 : Hid (Owns (w.alloc (.cells #[] 98)) w.heap.size 98 2 (.slice (some ⟨w.heap.size, 0, none⟩) 0 0) (ptR [])) := Owns.empty w _ _ _ (Nat.le_refl _)
 have B0 : Hid (Below w.heap.size w (w.alloc (.cells #[] 98))) := (Below.refl _ _).alloc (Nat.le_refl _) _
 clear hu hk0
 go_enter Tryz.func165, Tryz.ntmps165
 go_wp2_with fail
 generalize w.alloc (.cells #[] 98) = w0 at *
 refine (cU w0).mono ?_
 rintro e w1 ⟨rfl, hb⟩
 have B1 : Hid (Below w.heap.size w w1) := B0.out.trans (hb.mono B0.out.size)
 have E1 : Hid (Owns w1 w.heap.size 98 2 (.slice (some ⟨w.heap.size, 0, none⟩) 0 0) (ptR [])) := E0.out.on hb
 clear hb cU
 have cV := spec_readVar (bodyR s) w1 (by omega)
 go_wp2_with fail
 refine cV.mono ?_
 rintro e w2 ⟨hRV, hb⟩
 obtain ⟨n, k, hRd, rfl⟩ := hRV.rd
 have hle := hRd.le
 have HR : Hid (RdV (bodyR s) n k) := hRd
 have B2 : Hid (Below w.heap.size w w2) := B1.out.trans (hb.mono B1.out.size)
 have E2 : Hid (Owns w2 w.heap.size 98 2 (.slice (some ⟨w.heap.size, 0, none⟩) 0 0) (ptR [])) := E1.out.on hb
 have qk : (k : Int) ≤ 7 := by omega
 have qb : ((bodyR s).size : Int) ≤ 2000 := by omega
 have qkb : (k : Int) ≤ ((bodyR s).size : Int) := by omega
 have hkb : k ≤ (bodyR s).size := hle.1
 have HKG : Hid (∀ m, Good s m → k ≠ 0 ∧ k0 = s.size) := fun m hm => by
  have h1 := (HR.out.one hm.steps.rn).2
  have h2 := vF_pos 6 m.length
  obtain ⟨r1, r2, _⟩ := hm.read
  rcases HK0.out with ⟨_, h3⟩ | ⟨h3, _⟩
  ·exact ⟨by omega, by omega⟩
  ·exact absurd r1 h3
 clear hRd hRV cV hle hb
 by_cases hk1 : k = 0
 ·have HNO : Hid (∀ m, ¬ Good s m) := fun m hm => (HKG.out m hm).1 hk1
  subst hk1
  go_wp2_with fail
  go_ret2
  exact ⟨⟨_, [], false, .inr ⟨rfl, rfl, HNO.out⟩, rfl, E2.out⟩, B2.out⟩
 have d0 : decide (k = 0) = false := decide_eq_false hk1
 have d1 : ((k : Int) == 0) = false := by rw [beq_eq_false_iff_ne]; omega
 by_cases hk2 : k0 ≠ s.size
 ·have HNO : Hid (∀ m, ¬ Good s m) := fun m hm => hk2 (HKG.out m hm).2
  have d2 : ((k0 : Int) == (s.size : Int)) = false := by rw [beq_eq_false_iff_ne]; omega
  have d3 : ¬ k0 = s.size := hk2
  go_wp2_with fail
  go_ret2
  exact ⟨⟨_, [], false, .inr ⟨rfl, rfl, HNO.out⟩, rfl, E2.out⟩, B2.out⟩
 have hk2' : k0 = s.size := Decidable.not_not.1 hk2
 have HK2 : Hid (k0 = s.size) := hk2'
 have d2 : ((k0 : Int) == (s.size : Int)) = true := beq_iff_eq.2 (by omega)
 clear hk2
 have cT := specReadTimesA ((bodyR s).extract k (bodyR s).size) n w2 (by rw [ByteArray.size_extract]; omega)
 subst hk2'
 go_wp2_with fail
 refine cT.mono ?_
 rintro e w3 ⟨⟨t, a, ut, hAT, rfl, hNT⟩, hb⟩
 have HAT : Hid (RdAns showT rowT ((bodyR s).extract k (bodyR s).size) n t a) := hAT
 have hsh := hAT.short rowT_length
 have LT : Hid (t.length ≤ 60) := hsh.1
 have hak : k + a ≤ (bodyR s).size := by have h2 := hsh.2; rw [ByteArray.size_extract] at h2; omega
 have B3 : Hid (Below w.heap.size w w3) := B2.out.trans (hb.mono B2.out.size)
 have E3 : Hid (Owns w3 w.heap.size 98 2 (.slice (some ⟨w.heap.size, 0, none⟩) 0 0) (ptR [])) := E2.out.on hb
 have NT : Hid (Nums w3 w2.heap.size ut t) := hNT
 have qa : (k : Int) + (a : Int) ≤ ((bodyR s).size : Int) := by omega
 have qa1 : (a : Int) ≤ 2000 := by omega
 have ena : ((k : Int) + (a : Int)).toNat = k + a := by omega
 have HAG : Hid (∀ m, Good s m → a ≠ 0) := fun m hm => by
  have hst := hm.steps
  obtain ⟨e1, e2⟩ := HR.out.one hst.rn
  subst e1
  subst e2
  have h1 := (HAT.out.one hst.rt).2
  have h2 := cat_pos (tPiece (ts m)) m.length hm.1 (vF_pos _ _)
  omega
 clear hAT hNT hb cT hsh
 by_cases ha : a = 0
 ·have HNO : Hid (∀ m, ¬ Good s m) := fun m hm => HAG.out m hm ha
  subst ha
  go_wp2_with fail
  go_ret2
  exact ⟨⟨_, [], false, .inr ⟨rfl, rfl, HNO.out⟩, rfl, E3.out⟩, B3.out⟩
 have d4 : decide (a = 0) = false := decide_eq_false ha
 have d5 : ((a : Int) == 0) = false := by rw [beq_eq_false_iff_ne]; omega
 have cW := specReadValuesA ((bodyR s).extract (k + a) (bodyR s).size) n w3 (by rw [ByteArray.size_extract]; omega)
 go_wp2_with fail
 refine cW.mono ?_
 rintro e w4 ⟨⟨v, b, uv, hAV, rfl, hNV⟩, hb⟩
 have HST : Hid (Steps s n k t a v b) := ⟨HR.out, HAT.out, hAV⟩
 have hsv := hAV.short rowV_length
 have LV : Hid (v.length ≤ 60) := hsv.1
 have hbk : k + a + b ≤ (bodyR s).size := by have h2 := hsv.2; rw [ByteArray.size_extract] at h2; omega
 have B4 : Hid (Below w.heap.size w w4) := B3.out.trans (hb.mono B3.out.size)
 have E4 : Hid (Owns w4 w.heap.size 98 2 (.slice (some ⟨w.heap.size, 0, none⟩) 0 0) (ptR [])) := E3.out.on hb
 have NT4 : Hid (Nums w4 w2.heap.size ut t) := NT.out.on hb
 have NV4 : Hid (Nums w4 w3.heap.size uv v) := hNV
 have qb1 : (b : Int) ≤ 2000 := by omega
 have qab : (k : Int) + (a : Int) + (b : Int) ≤ ((bodyR s).size : Int) := by omega
 clear hAV hNV hb cW NT hsv
 by_cases hb0 : b = 0
 ·have HNO : Hid (∀ m, ¬ Good s m) := fun m hm => by have := (HST.out.good hm).2.2.2.2.2.2.1; omega
  subst hb0
  go_wp2_with fail
  go_ret2
  exact ⟨⟨_, [], false, .inr ⟨rfl, rfl, HNO.out⟩, rfl, E4.out⟩, B4.out⟩
 have d6 : decide (b = 0) = false := decide_eq_false hb0
 have d7 : ((b : Int) == 0) = false := by rw [beq_eq_false_iff_ne]; omega
 by_cases hlen : k + a + b ≠ (bodyR s).size
 ·have HNO : Hid (∀ m, ¬ Good s m) := fun m hm => hlen (HST.out.good hm).2.2.2.2.2.2.2
  have d8 : ((k : Int) + (a : Int) + (b : Int) == ((bodyR s).size : Int)) = false := by rw [beq_eq_false_iff_ne]; omega
  have d9 : ¬ (k : Int) + (a : Int) + (b : Int) = ((bodyR s).size : Int) := by omega
  go_wp2_with fail
  go_ret2
  exact ⟨⟨_, [], false, .inr ⟨rfl, rfl, HNO.out⟩, rfl, E4.out⟩, B4.out⟩
 have hlen' : k + a + b = (bodyR s).size := Decidable.not_not.1 hlen
 have d8 : ((k : Int) + (a : Int) + (b : Int) == ((bodyR s).size : Int)) = true := beq_iff_eq.2 (by omega)
 have d10 : ((k : Int) + (a : Int) + (b : Int) != ((bodyR s).size : Int)) = false := by rw [bne, d8]; rfl
 have hc : code s = 0 := by
  rcases HK0.out with ⟨h1, _⟩ | ⟨_, _, h3⟩
  ·exact h1
  ·rw [h3] at hkb
   have : (ByteArray.mk #[]).size = 0 := rfl
   omega
 have h8 : 8 + rdv s 4 = s.size := by
  rcases HK0.out with ⟨_, h1⟩ | ⟨h1, _⟩
  ·omega
  ·exact absurd hc h1
 obtain ⟨hg, htv, hn⟩ := HST.out.back hc h8 hk1 ha hb0 hlen'
 have HG : Hid (Good s (zipP t v)) := hg
 have HZL : Hid ((zipP t v).length = t.length) := by unfold Hid; rw [zipP_length]; omega
 have HZG : Hid (∀ k, k < t.length → k < v.length → (zipP t v).take (k + 1) = (zipP t v).take k ++ [⟨t.getD k 0, v.getD k 0⟩]) := zipP_get t v
 subst hn
 obtain ⟨At, ct, rfl, _, _, h1⟩ := NT4.out.lies
 obtain ⟨Av, cv, rfl, _, _, h2⟩ := NV4.out.lies
 have HT : Hid (∀ j, j < t.length → ∃ g off, At = some ⟨g, off, none⟩ ∧ g < w4.heap.size ∧ w4.cell? ⟨g, off + j, none⟩ = some (.int .i64 (t.getD j 0))) := h1
 have HV : Hid (∀ j, j < v.length → ∃ g off, Av = some ⟨g, off, none⟩ ∧ g < w4.heap.size ∧ w4.cell? ⟨g, off + j, none⟩ = some (.int .i64 (v.getD j 0))) := h2
 have q9 : (t.length : Int) ≤ 60 := by have := LT.out; omega
 clear h1 h2 hlen hg HAG HKG HK0 HK2 hbk
 generalize hm : v.length = m at *
 generalize hn : t.length = N at *
 subst htv
 clear hm hn
 go_wp2_with fail
 go_loopw [14, 15] (fun v14 v15 wr => ∃ k : Nat, k ≤ N ∧ v15 = .int .i64 (k : Int) ∧ Owns wr w4.heap.size 98 2 v14 (ptR ((zipP t v).take k)) ∧ Below w4.heap.size w4 wr) (fun _ i _ => N - (intOf i).toNat)
 case atStart => exact ⟨0, by omega, rfl, by rw [List.take_zero]; exact Owns.empty w4 _ _ _ (Nat.le_refl _), (Below.refl _ _).alloc (Nat.le_refl _) _⟩
 case round =>
  clear hlen' d8 ena hc h8 hak hkb d0 d1 d2 d4 d5 d6 d7 hk1 ha hb0 qab qa qkb
  obtain ⟨k, hk, rfl, hO, hb⟩ := hrel
  have HO : Hid (Owns wr w4.heap.size 98 2 u14 (ptR ((zipP t v).take k))) := hO
  have HB1 : Hid (Below w4.heap.size w4 wr) := hb
  clear hO hb
  by_cases hlt : k < N
  ·have q3 : (k : Int) < (N : Int) := by omega
   obtain ⟨gt, ot, rfl, hgt, hc1⟩ := HT.out k hlt
   obtain ⟨gv, ov, rfl, hgv, hc2⟩ := HV.out k hlt
   have HZ : Hid ((zipP t v).take (k + 1) = (zipP t v).take k ++ [⟨t.getD k 0, v.getD k 0⟩]) := HZG.out k hlt hlt
   rw [← HB1.out.cell (p := ⟨_, _, none⟩) hgt] at hc1
   rw [← HB1.out.cell (p := ⟨_, _, none⟩) hgv] at hc2
   generalize t.getD k 0 = x at *
   generalize v.getD k 0 = y at *
   have hz : w4.heap.size ≤ wr.drew.heap.size := HB1.out.size
   obtain ⟨nA, nm, nc, w5, r5, hO5, hb5, hk5, _⟩ := run_append_row (P := Tryz.prog) wr.drew 99 99 98 (.agg #[.int .i64 0, .int .i64 0]) 2 16 Tryz.underlying99 Tryz.infoPt rfl (by omega) w4.heap.size u14 (ptR ((zipP t v).take k)) (HO.out.kept fun _ _ _ => rfl) [.int .i64 x, .int .i64 y] rfl (pt_cells x y) (by rw [ptR_length, List.length_take]; omega) (by omega) hz
   have B5 : Hid (Below w4.heap.size w4 w5) := (HB1.out.drew).trans hb5
   have O5 : Hid (Owns w5 w4.heap.size 98 2 (.slice nA nm nc) (ptR ((zipP t v).take (k + 1)))) := by unfold Hid; rw [HZ.out, ptR_snoc']; exact hO5
   have S0 : Hid (wr.drew.cell? ⟨gt, ot + k, none⟩ = some (.int .i64 x) ∧ wr.drew.cell? ⟨gv, ov + k, none⟩ = some (.int .i64 y)) := ⟨hc1, hc2⟩
   clear hc1 hc2 hO5 hb5 hk5
   clear hgt hgv
   go_wp2_with fail
   refine wp_region_until (fun w' => w'.cell? ⟨gt, ot + k, none⟩ = some (.int .i64 x) ∧ w'.cell? ⟨gv, ov + k, none⟩ = some (.int .i64 y)) (fun i => i == 11 || i == 12) 13 (by rfl) (by kernel_rfl) ?_
   refine tKf 0 S0.out ?_
   refine tKf 1 S0.out ?_
   refine tKf 2 S0.out ?_
   refine tKf 3 S0.out ?_
   refine tKf 4 S0.out ?_
   refine tKf 5 S0.out ?_
   refine tKf 6 S0.out ?_
   refine tKf 7 S0.out ?_
   refine tKf 8 S0.out ?_
   refine tKf 9 S0.out ?_
   refine uNe 10 (fun K hK => ?_)
   go_simp
   refine hK.out _ _ (fun _ h => ⟨cell_alloc_keep h.1 _, cell_alloc_keep h.2 _⟩) ?_
   clear hK K
   try simp only [Act.put, zQ1, zQ2, zQ3]
   refine uNe 11 (fun K hK => ?_)
   refine step_append_run (by rfl) (.tmp 77) (.tmp 87) 99 (by rfl) _ _ _ _ (by rfl) (by rfl) r5 ?_
   refine hK.out _ _ (fun h => by cases h) ?_
   clear hK K
   try simp only [Act.put, zQ1, zQ2, zQ3]
   refine uNe 12 (fun K hK => ?_)
   go_simp
   refine hK.out _ _ (fun h => by cases h) ?_
   clear hK K
   try simp only [Act.put, zQ1, zQ2, zQ3]
   refine until_done (by kernel_rfl) ?_ _
   go_wp2_with fail
   go_roundw
   case rel => exact ⟨k + 1, by omega, by go_num, O5.out, B5.out⟩
   case measure => simp [intOf]; omega
  ·obtain rfl : k = N := by omega
   have hF := HO.out
   rw [List.take_of_length_le (by rw [HZL.out]; exact Nat.le_refl _)] at hF
   have HF : Hid (Owns wr w.heap.size 98 2 u14 (ptR (zipP t v))) := hF.mono B4.out.size
   have BF : Hid (Below w.heap.size w wr) := B4.out.trans (HB1.out.mono B4.out.size)
   clear hF HO
   go_wp2_with fail
   go_ret2
   exact ⟨⟨_, zipP t v, true, .inl ⟨rfl, HG.out⟩, rfl, HF.out⟩, BF.out⟩
end Go.Proofs.YthhamlahdjokkaaGreatDoor
