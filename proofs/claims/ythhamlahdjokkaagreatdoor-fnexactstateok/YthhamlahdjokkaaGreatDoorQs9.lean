/- EgL1 EgL2 StLaw BuOf BoImpl StI EgS1 -/
import Derived.Test.YthhamlahdjokkaaGreatDoorQs4
import Derived.Test.YthhamlahdjokkaaGreatDoorQs8
import Derived.WalkKit
import Derived.ProofKit
import Derived.OpenShut
import Derived.Below
import Derived.WalkSmall
import Derived.BigQuiet
import Derived.Deep.QuietTactic
import Derived.Deep.RegionWith
import Derived.Handy
import Derived.Test.YthhamlahdjokkaaGreatDoorQs2
import Derived.Test.YthhamlahdjokkaaGreatDoorRows
import Derived.Test.YthhamlahdjokkaaGreatDoorQs0
import Derived.Test.YthhamlahdjokkaaGreatDoorQs1
import Derived.WalkLawsBesides
import Derived.WalkMore
import Derived.Outline
import Derived.Deep.Cut
import Derived.Deep.CutRange
open List (setIfInBounds_toArray set_cons_zero set_cons_succ)
namespace Go.Proofs.YthhamlahdjokkaaGreatDoor
open Go.ChangeShapes Go.WideShapes Go.ChangeAt Go.RowKit Go.PlainAid
set_option linter.unusedVariables false
def wtT (l : List ByteArray) : Nat := (l.map fun s => s.size).sum
theorem wtT_snoc (l : List ByteArray) (k : Nat) (h : k < l.length) : wtT (l.take (k + 1)) = wtT (l.take k) + (l.getD k default).size := by
 unfold wtT
 rw [take_getD l k h, List.map_append, List.sum_append]
 simp
theorem wtT_mem (l : List ByteArray) (x : ByteArray) (h : x ∈ l) : x.size ≤ wtT l := by
 induction l with
 | nil => cases h
 | cons y l ih =>
  unfold wtT at ih ⊢
  rw [List.map_cons, List.sum_cons]
  rcases List.mem_cons.1 h with rfl | h
  ·omega
  ·have := ih h
   omega
set_option maxHeartbeats 1000000 in
theorem szStringS (l : List ByteArray) (v : Value) (left : Int) (w : World) (B : Nat) (hv : Lies w B 1 v (stR l)) (hn : l.length ≤ maxLen) (hm : ∀ s ∈ l, s.size ≤ maxLen) (h0 : 0 ≤ left) (h1 : left ≤ 1048576) :
  Calls Tryz.prog 56 #[v, .int .i64 left] w fun e w' => ∃ r : Int, e = .returned (.int .i64 r) ∧ (r = -1 ∨ 0 ≤ r ∧ r + ((l.length + wtT l : Nat) : Int) = left) ∧ w = w' := by
 obtain ⟨A, cap, rfl, hl⟩ := st_look hv
 have HL : Hid (∀ j, j < l.length → ∃ g off, A = some ⟨g, off, none⟩ ∧ g < B ∧ w.cell? ⟨g, off + j, none⟩ = some (.string (l.getD j default))) := hl
 have HS : Hid (∀ k, k < l.length → wtT (l.take (k + 1)) = wtT (l.take k) + (l.getD k default).size) := fun k hk => wtT_snoc l k hk
 have HM : Hid (∀ k, k < l.length → (l.getD k default).size ≤ 9223372036854775807) := fun k hk => by have := hm _ (getD_mem l k hk); unfold maxLen at this; omega
 have HT : Hid (wtT (l.take l.length) = wtT l) := by unfold Hid; rw [List.take_length]
 unfold maxLen at hn
 have q1 : (l.length : Int) ≤ 9223372036854775807 := by omega
 clear hl hv hm
 generalize hN : l.length = n at *
 clear hN
 have w2 : wrap64 (left - (n : Int)) = left - (n : Int) := by unfold wrap64; omega
 by_cases hs : left < (n : Int)
 ·have q2 : left - (n : Int) < 0 := by omega
  go_enter Tryz.func56, Tryz.ntmps56
  go_wp2_with fail
  go_ret
  exact ⟨-1, rfl, .inl rfl, rfl⟩
 ·have q2 : 0 ≤ left - (n : Int) := by omega
  have q3 : decide (left - (n : Int) < 0) = false := decide_eq_false (by omega)
  have HQ : Hid (0 ≤ left - (n : Int)) := q2
  go_enter Tryz.func56, Tryz.ntmps56
  go_wp2_with fail
  clear q2 q3 w2
  go_loop [1, 5] (fun v1 v5 => ∃ (k : Nat) (r : Int), k ≤ n ∧ v5 = .int .i64 (k : Int) ∧ v1 = .int .i64 r ∧ 0 ≤ r ∧ r + ((n + wtT (l.take k) : Nat) : Int) = left) (fun _ i => n - (intOf i).toNat)
  case atStart => exact ⟨0, left - (n : Int), by omega, rfl, rfl, HQ.out, by simp [wtT]⟩
  case round =>
   obtain ⟨k, r, hk, rfl, rfl, hr0, hr⟩ := hrel
   have HR : Hid (r + ((n + wtT (l.take k) : Nat) : Int) = left) := hr
   have q9 : r ≤ 1048576 := by omega
   clear hr
   by_cases hlt : k < n
   ·have q4 : (k : Int) < (n : Int) := by omega
    obtain ⟨g, off, rfl, hg, hc0⟩ := HL.out k hlt
    have HW : Hid (wtT (l.take (k + 1)) = wtT (l.take k) + (l.getD k default).size) := HS.out k hlt
    have hmk := HM.out k hlt
    generalize l.getD k default = x at *
    generalize hz : x.size = t at *
    have q10 : (t : Int) ≤ 9223372036854775807 := by omega
    have w3 : wrap64 (r - (t : Int)) = r - (t : Int) := by unfold wrap64; omega
    by_cases hlow : r < (t : Int)
    ·have q11 : r - (t : Int) < 0 := by omega
     go_wp2_with fail
     go_ret
     exact ⟨-1, rfl, .inl rfl, rfl⟩
    ·have q11 : decide (r - (t : Int) < 0) = false := decide_eq_false (by omega)
     have q12 : 0 ≤ r - (t : Int) := by omega
     have HQ2 : Hid (0 ≤ r - (t : Int)) := q12
     go_wp2_with fail
     go_round
     case rel => exact ⟨k + 1, r - (t : Int), by omega, by go_num, rfl, HQ2.out, by have := HR.out; rw [HW.out]; omega⟩
     case measure => simp [intOf]; omega
   ·obtain rfl : k = n := by omega
    go_wp2_with fail
    go_ret
    exact ⟨r, rfl, .inr ⟨hr0, by have := HR.out; rw [HT.out] at this; exact this⟩, rfl⟩
def EFits (e : Eng) : Prop := SFits e.cache ∧ e.files.length ≤ maxLen ∧ ∀ s ∈ e.files, s.size ≤ maxLen
def wtE (e : Eng) : Nat := e.cache.length + wtS e.cache + (e.files.length + wtT e.files)
theorem EFits.short {e : Eng} {n : Nat} (h : wtE e ≤ n) (hn : n ≤ 1048576) : EShort e := by
 unfold wtE at h
 refine ⟨SShort.of (n := n) (by omega) hn, fun x hx => ?_, by omega, fun s hs => ?_⟩
 ·have := wtS_mem e.cache x hx
  unfold wtS1 at this
  unfold maxLen
  omega
 ·have := wtT_mem e.files s hs
  omega
set_option maxHeartbeats 1000000 in
theorem szEngine (e : Eng) (v : Value) (left : Int) (w : World) (B : Nat) (hv : EngV w B v e) (hf : EFits e) (h0 : 0 ≤ left) (h1 : left ≤ 1048576) (hB : B ≤ w.heap.size) :
  Calls Tryz.prog 18 #[v, .int .i64 left] w fun b w' => ∃ r : Int, b = .returned (.int .i64 r) ∧ Hid (r = -1 ∨ 0 ≤ r ∧ r + (wtE e : Int) = left) ∧ Below w.heap.size w w' := by
 obtain ⟨vc, vf, rfl, hc, hl⟩ := hv
 unfold vE
 obtain ⟨Ac, cc, rfl, _⟩ := hc.look
 obtain ⟨A, cap, rfl, _⟩ := st_look hl
 have HF : Hid (EFits e) := hf
 have HLs : Hid (Lies w B 1 (.slice A e.files.length cap) (stR e.files)) := hl
 have HB : Hid (B ≤ w.heap.size) := hB
 have HW : Hid (wtE e = e.cache.length + wtS e.cache + (e.files.length + wtT e.files)) := rfl
 obtain ⟨X0, hX0⟩ : ∃ X0, X0 = w.alloc (.cells #[.int .i64 e.floor, .slice Ac e.cache.length cc, .slice A e.files.length cap] 26) := ⟨_, rfl⟩
 have BX : Hid (Below w.heap.size w X0) := by unfold Hid; rw [hX0]; exact (Below.refl _ w).alloc (Nat.le_refl _) _
 have KX : Hid (Blk X0 w.heap.size #[.int .i64 e.floor, .slice Ac e.cache.length cc, .slice A e.files.length cap] 26) := by unfold Hid; rw [hX0]; exact Blk.new w _ _
 have c1 := szSeriesS e.cache _ left X0 B (hc.on (BX.out.mono hB)) hf.1 h0 h1 (Nat.le_trans hB BX.out.size)
 have k1 := KX.out.cell 1 _ rfl
 clear hc hl hf hB
 generalize e.floor = f at *
 generalize hcl : e.cache.length = cl at *
 have q1 : left ≤ 1048576 := h1
 go_enter Tryz.func18, Tryz.ntmps18
 go_wp2_with fail
 rw [← hX0]
 clear hX0
 refine c1.mono ?_
 rintro b X1 ⟨r, rfl, hr, hb1⟩
 have B1 : Hid (Below w.heap.size w X1) := BX.out.trans (hb1.mono BX.out.size)
 have K1 := KX.out.on hb1 KX.out.lt
 have m2 := K1.cell 2 _ rfl
 clear hb1 c1 k1 K1
 rcases hr with rfl | ⟨hr0, hr1⟩
 ·go_wp2_with fail
  go_ret
  exact ⟨-1, rfl, .inl rfl, B1.out⟩
 ·have q2 : decide (r < 0) = false := decide_eq_false (by omega)
  have HR1 : Hid (r + ((cl + wtS e.cache : Nat) : Int) = left) := hr1
  have q3 : r ≤ 1048576 := by omega
  have c2 := szStringS e.files _ r X1 B (HLs.out.on (B1.out.mono HB.out)) HF.out.2.1 HF.out.2.2 hr0 q3
  clear hr1
  generalize hfl : e.files.length = fl at *
  go_wp2_with fail
  refine c2.mono ?_
  rintro b X2 ⟨r2, rfl, hr2, rfl⟩
  rcases hr2 with rfl | ⟨hr20, hr21⟩
  ·go_wp2_with fail
   go_ret
   exact ⟨-1, rfl, .inl rfl, B1.out⟩
  ·have q4 : decide (r2 < 0) = false := decide_eq_false (by omega)
   have HR2 : Hid (r2 + ((fl + wtT e.files : Nat) : Int) = r) := hr21
   clear hr21 c2
   go_wp2_with fail
   go_ret
   exact ⟨r2, rfl, .inr ⟨hr20, by have := HR1.out; have := HR2.out; rw [HW.out]; omega⟩, B1.out⟩
def stZ : List Value := [.string ⟨#[]⟩]
theorem st_made (n : Nat) : madeCells #[.string ⟨#[]⟩] (n * 1) = (List.replicate n stZ).flatten.toArray := by
 apply Array.ext'
 rw [List.toList_toArray]
 apply List.ext_getElem?
 intro k
 have hz : ∀ r ∈ List.replicate n stZ, r.length = 1 := fun r hr => by rw [List.eq_of_mem_replicate hr]; rfl
 by_cases hk : k < n * 1
 ·have hj : k < n := by omega
  have := flat_at 1 (List.replicate n stZ) hz k 0 (by simpa using hj) (by omega)
  rw [Nat.mul_one, Nat.add_zero] at this
  have hr : (List.replicate n stZ)[k]'(by simpa using hj) = stZ := by simp
  rw [this, hr]
  have hs : (madeCells #[.string ⟨#[]⟩] (n * 1)).toList[k]? = some (#[Value.string ⟨#[]⟩].getD (k % 1) default) := by simp [madeCells, hj]
  rw [hs, Nat.mod_one]
  rfl
 ·have hl : (List.replicate n stZ).flatten.length = n * 1 := by rw [flat_length 1 _ hz]; simp
  have hr : (List.replicate n stZ).flatten[k]? = none := List.getElem?_eq_none (by omega)
  rw [hr]
  apply List.getElem?_eq_none
  rw [Array.length_toList, size_madeCells]
  omega
def laidT (l : List ByteArray) (k : Nat) : List ByteArray := l.take k ++ List.replicate (l.length - k) ⟨#[]⟩
theorem laidT_length (l : List ByteArray) (k : Nat) (h : k ≤ l.length) : (laidT l k).length = l.length := by unfold laidT; rw [List.length_append, List.length_take, List.length_replicate]; omega
theorem laidT_set (l : List ByteArray) (k : Nat) (h : k < l.length) : (laidT l k).set k (l.getD k default) = laidT l (k + 1) := by
 unfold laidT
 rw [List.set_append_right _ _ (by rw [List.length_take]; omega), List.length_take, Nat.min_eq_left (by omega), Nat.sub_self, take_getD l k h]
 obtain ⟨m, hm⟩ : ∃ m, l.length - k = m + 1 := ⟨l.length - k - 1, by omega⟩
 rw [hm, show l.length - (k + 1) = m by omega, List.replicate_succ, List.set_cons_zero, List.append_assoc]
 rfl
theorem laidT_all (l : List ByteArray) : laidT l l.length = l := by unfold laidT; rw [List.take_length, Nat.sub_self]; simp
set_option maxHeartbeats 2000000 in
theorem toStringS (l : List ByteArray) (v : Value) (w : World) (B : Nat) (hv : Lies w B 1 v (stR l)) (hn : l.length ≤ 1048576) (hB : B ≤ w.heap.size) :
  Calls Tryz.prog 64 #[v] w fun e w' => (∃ u, e = .returned u ∧ Strs w' w.heap.size u l) ∧ Below w.heap.size w w' := by
 obtain ⟨A, cap, rfl, hl⟩ := st_look hv
 have HL : Hid (∀ wx, Below w.heap.size w wx → ∀ j, j < l.length → ∃ g off, A = some ⟨g, off, none⟩ ∧ g < B ∧ wx.cell? ⟨g, off + j, none⟩ = some (.string (l.getD j default))) := fun wx hx => st_cells (hv.on (hx.mono hB))
 have HSt : Hid (∀ k, k < l.length → (laidT l k).set k (l.getD k default) = laidT l (k + 1)) := laidT_set l
 have HLe : Hid (∀ k, k ≤ l.length → (laidT l k).length = l.length) := laidT_length l
 have HA : Hid (laidT l l.length = l) := laidT_all l
 have q1 : (l.length : Int) ≤ 1048576 := by omega
 clear hl hv hB
 obtain ⟨i0, hi, hz0, hz1, hz2⟩ := info_parts infoStr
 have hmk : ∀ wx : World, (Instr.makeSlice 24 (.int .i64 (l.length : Int)) (.int .i64 (l.length : Int))).run Tryz.prog wx = .ok (.slice (some ⟨wx.heap.size, 0, none⟩) l.length l.length) (wx.alloc (.cells (List.replicate l.length stZ).flatten.toArray 9)) := fun wx => by
  have h := run_make (P := Tryz.prog) wx 24 9 i0 _ Tryz.underlying24 hi hz0 .i64 .i64 (l.length : Int) (l.length : Int) (by omega) (by omega) (by rw [hz2]; omega) (by omega)
  rw [hz1] at h
  have e : (Value.string ⟨#[]⟩).cells = #[.string ⟨#[]⟩] := rfl
  rw [e, Int.toNat_natCast, st_made] at h
  exact h
 clear hi hz0 hz1 hz2
 have OM : Hid (Strs (w.alloc (.cells (List.replicate l.length stZ).flatten.toArray 9)) w.heap.size (.slice (some ⟨w.heap.size, 0, none⟩) l.length l.length) (laidT l 0)) := by
  have e : laidT l 0 = List.replicate l.length ⟨#[]⟩ := by unfold laidT; simp
  have e2 : strCells (List.replicate l.length ⟨#[]⟩) = (List.replicate l.length stZ).flatten := by
   rw [← stR_flat]
   unfold stR stC stZ
   rw [List.map_replicate]
  unfold Hid Strs
  rw [e, e2, List.length_replicate]
  have hfl : (List.replicate l.length stZ).flatten.length = l.length := by
   rw [flat_length 1 _ (fun r hr => by rw [List.eq_of_mem_replicate hr]; rfl)]; simp
  exact World.ownsRow_lit w _ l.length (Nat.le_refl _) (by unfold maxLen; omega) (by rw [List.size_toArray, hfl]; omega)
 have BM : Hid (Below w.heap.size w (w.alloc (.cells (List.replicate l.length stZ).flatten.toArray 9))) := (Below.refl _ w).alloc (Nat.le_refl _) _
 generalize hN : l.length = n at *
 clear hN
 go_enter Tryz.func64, Tryz.ntmps64
 go_wp2_with fail
 go_loopw [4] (fun v4 wr => ∃ k : Nat, k ≤ n ∧ v4 = .int .i64 (k : Int) ∧ Strs wr w.heap.size (.slice (some ⟨w.heap.size, 0, none⟩) n n) (laidT l k) ∧ Below w.heap.size w wr) (fun i _ => n - (intOf i).toNat)
 case atStart => exact ⟨0, by omega, rfl, OM.out, BM.out⟩
 case round =>
  obtain ⟨k, hk, rfl, hS, hb⟩ := hrel
  have HS : Hid (Strs wr w.heap.size (.slice (some ⟨w.heap.size, 0, none⟩) n n) (laidT l k)) := hS
  have HBr : Hid (Below w.heap.size w wr) := hb
  clear hS hb
  by_cases hlt : k < n
  ·have q4 : (k : Int) < (n : Int) := by omega
   obtain ⟨g, off, rfl, hg, e1⟩ := HL.out wr HBr.out k hlt
   have hll := HLe.out k hk
   have hS : Strs wr w.heap.size (.slice (some ⟨w.heap.size, 0, none⟩) (laidT l k).length n) (laidT l k) := by rw [hll]; exact HS.out
   have s0 := hS.cell k (by omega)
   have f0 := hS.frozen k
   have hS2 := hS.stored k (l.getD k default)
   rw [hll, HSt.out k hlt] at hS2
   generalize hx : l.getD k default = x at *
   have HS2 : Hid (Strs (wr.setCell ⟨w.heap.size, k, none⟩ (.string x)) w.heap.size (.slice (some ⟨w.heap.size, 0, none⟩) n n) (laidT l (k + 1))) := hS2
   have HB2 : Hid (Below w.heap.size w (wr.setCell ⟨w.heap.size, k, none⟩ (.string x))) := HBr.out.setCell (Nat.le_refl _) _
   generalize (laidT l k)[k] = y at *
   clear hS hS2 hll hx
   go_wp2_with fail
   go_roundw
   case rel => exact ⟨k + 1, by omega, by go_num, HS2.out, HB2.out⟩
   case measure => simp [intOf]; omega
  ·obtain rfl : k = n := by omega
   go_wp2_with fail
   go_ret
   exact ⟨⟨_, rfl, by have := HS.out; rw [HA.out] at this; exact this⟩, HBr.out⟩
end Go.Proofs.YthhamlahdjokkaaGreatDoor
namespace Go.Proofs.YthhamlahdjokkaaGreatDoor
open Go.ChangeShapes Go.WideShapes Go.ChangeAt Go.RowKit Go.PlainAid
set_option linter.unusedVariables false
set_option maxHeartbeats 4000000 in
theorem toEngine (e : Eng) (v : Value) (w : World) (B : Nat) (hv : EngV w B v e) (hs : EShort e) (hB : B ≤ w.heap.size) :
  Calls Tryz.prog 27 #[v] w fun b w' => (∃ u, b = .returned u ∧ EngO w' w.heap.size u e) ∧ Below w.heap.size w w' := by
 obtain ⟨vc, vf, rfl, hc, hl⟩ := hv
 unfold vE
 obtain ⟨Ac, cc, rfl, _⟩ := hc.look
 obtain ⟨A, cap, rfl, _⟩ := st_look hl
 have HLs : Hid (Lies w B 1 (.slice A e.files.length cap) (stR e.files)) := hl
 have HC : Hid (SerV w B (.slice Ac e.cache.length cc) e.cache) := hc
 have HB : Hid (B ≤ w.heap.size) := hB
 have HS : Hid (EShort e) := hs
 have HFl : Hid (e.floor = e.floor) := rfl
 clear hc hl hB hs
 generalize hcl : e.cache.length = cl at *
 clear hcl
 generalize hfl : e.files.length = fl at *
 clear hfl
 generalize hf : e.floor = f at *
 have HF : Hid (e.floor = f) := hf
 clear hf HFl
 obtain ⟨X1, hX1⟩ : ∃ X1, X1 = w.alloc (.cells #[.int .i64 f, .slice Ac cl cc, .slice A fl cap] 26) := ⟨_, rfl⟩
 obtain ⟨X2, hX2⟩ : ∃ X2, X2 = X1.alloc (.cells #[.int .i64 0, .slice none 0 0, .slice none 0 0] 35) := ⟨_, rfl⟩
 obtain ⟨X3, hX3⟩ : ∃ X3, X3 = X2.alloc (.cells #[.int .i64 f, .slice none 0 0, .slice none 0 0] 35) := ⟨_, rfl⟩
 have z1 : X1.heap.size = w.heap.size + 1 := by rw [hX1, World.size_alloc]
 have z2 : X2.heap.size = w.heap.size + 1 + 1 := by rw [hX2, World.size_alloc, z1]
 have z3 : X3.heap.size = w.heap.size + 1 + 1 + 1 := by rw [hX3, World.size_alloc, z2]
 have BX : Hid (Below w.heap.size w X3) := by
  unfold Hid
  rw [hX3, hX2, hX1]
  exact below_alloc3 _ _ _ _
 have KA : Hid (Blk X3 w.heap.size #[.int .i64 f, .slice Ac cl cc, .slice A fl cap] 26) := by
  unfold Hid
  rw [hX3, hX2, hX1]
  exact ((Blk.new w _ _).alloc _).alloc _
 have KR : Hid (Blk X3 (w.heap.size + 1) #[.int .i64 0, .slice none 0 0, .slice none 0 0] 35) := by
  unfold Hid
  rw [hX3, hX2, ← z1]
  exact (Blk.new X1 _ _).alloc _
 have KO : Hid (Blk X3 (w.heap.size + 1 + 1) #[.int .i64 f, .slice none 0 0, .slice none 0 0] 35) := by
  unfold Hid
  rw [hX3, ← z2]
  exact Blk.new X2 _ _
 have c1 := toSeriesS e.cache _ X3 B (HC.out.on (BX.out.mono HB.out)) HS.out.1 (Nat.le_trans HB.out BX.out.size)
 have ka := KA.out.cell 1 _ rfl
 go_enter Tryz.func27, Tryz.ntmps27
 go_wp2_with fail
 rw [← hX1, ← hX2, ← hX3]
 clear hX1 hX2 hX3 z1 z2
 refine c1.mono ?_
 rintro b X4 ⟨u4, L, rfl, hL, hS4, hb4⟩
 have HL : Hid (L.map Prod.fst = e.cache) := hL
 have S4 : Hid (SerO X4 X3.heap.size u4 L) := hS4
 have B4 : Hid (Below w.heap.size w X4) := BX.out.trans (hb4.mono BX.out.size)
 have KA4 : Hid (Blk X4 w.heap.size #[.int .i64 f, .slice Ac cl cc, .slice A fl cap] 26) := KA.out.on hb4 KA.out.lt
 have KR4 : Hid (Blk X4 (w.heap.size + 1) #[.int .i64 0, .slice none 0 0, .slice none 0 0] 35) := KR.out.on hb4 KR.out.lt
 have KO4 : Hid (Blk X4 (w.heap.size + 1 + 1) #[.int .i64 f, .slice none 0 0, .slice none 0 0] 35) := KO.out.on hb4 KO.out.lt
 obtain ⟨A4, n4, c4, rfl⟩ := hS4.1.shape
 have HZ : Hid (X3.heap.size = w.heap.size + 1 + 1 + 1) := z3
 clear hL hS4 hb4 c1 ka KA KR KO z3
 generalize hG : w.heap.size + 1 + 1 = G at *
 generalize hR : w.heap.size + 1 = R at *
 have HG : Hid (R + 1 = G ∧ w.heap.size + 1 = R) := ⟨hG, hR⟩
 clear hG hR
 obtain ⟨X5, hX5⟩ : ∃ X5, X5 = X4.setCell ⟨G, 1, none⟩ (.slice A4 n4 c4) := ⟨_, rfl⟩
 have m1 : _ = some (Value.slice none 0 0) := KO4.out.cell 1 _ rfl
 have f1 := KO4.out.free 1
 have KO5 : Hid (Blk X5 G #[.int .i64 f, .slice A4 n4 c4, .slice none 0 0] 35) := by unfold Hid; rw [hX5]; exact KO4.out.set 1 _
 have KR5 : Hid (Blk X5 R #[.int .i64 0, .slice none 0 0, .slice none 0 0] 35) := by unfold Hid; rw [hX5]; exact KR4.out.other (by have := HG.out; omega) 1 _
 have KA5 : Hid (Blk X5 w.heap.size #[.int .i64 f, .slice Ac cl cc, .slice A fl cap] 26) := by unfold Hid; rw [hX5]; exact KA4.out.other (by have := HG.out; omega) 1 _
 have S5 : Hid (SerO X5 X3.heap.size (.slice A4 n4 c4) L) := by unfold Hid; rw [hX5]; exact S4.out.others ((KeptBut.refl G X4).set 1 _) (by have := HG.out; have := HZ.out; omega)
 have B5 : Hid (Below w.heap.size w X5) := by unfold Hid; rw [hX5]; exact B4.out.setCell (show w.heap.size ≤ G by have := HG.out; omega) _
 have k2 := KA5.out.cell 2 _ rfl
 have c2 := toStringS e.files _ X5 B (HLs.out.on (B5.out.mono HB.out)) HS.out.2.2.1 (Nat.le_trans HB.out B5.out.size)
 rw [hX5] at k2
 clear KO4 KR4 KA4 S4 B4
 go_wp2_with fail
 rw [← hX5]
 clear hX5 m1 f1 k2
 refine c2.mono ?_
 rintro b X6 ⟨⟨u6, rfl, hS6⟩, hb6⟩
 obtain ⟨A6, n6, c6, rfl⟩ := (strs_owns hS6).shape
 have T6 : Hid (Strs X6 X5.heap.size (.slice A6 n6 c6) e.files) := hS6
 have S6 : Hid (SerO X6 X3.heap.size (.slice A4 n4 c4) L) := S5.out.on hb6
 have B6 : Hid (Below w.heap.size w X6) := B5.out.trans (hb6.mono B5.out.size)
 have KO6 := KO5.out.on hb6 KO5.out.lt
 have KR6 := KR5.out.on hb6 KR5.out.lt
 have HGz : Hid (G < X5.heap.size ∧ R < X5.heap.size) := ⟨KO5.out.lt, KR5.out.lt⟩
 clear hS6 hb6 c2 KO5 KR5 KA5 S5 B5
 have m2 : _ = some (Value.slice none 0 0) := KO6.cell 2 _ rfl
 have f2 := KO6.free 2
 have KO7 := KO6.set 2 (.slice A6 n6 c6)
 have o0 : _ = some (Value.int .i64 f) := KO7.cell 0 _ rfl
 have o1 : _ = some (Value.slice A4 n4 c4) := KO7.cell 1 _ rfl
 have o2 : _ = some (Value.slice A6 n6 c6) := KO7.cell 2 _ rfl
 have KR7 := KR6.other (show R ≠ G by have := HG.out; omega) 2 (.slice A6 n6 c6)
 have r0 : _ = some (Value.int .i64 0) := KR7.cell 0 _ rfl
 have g0 := KR7.free 0
 have KR8 := KR7.set 0 (.int .i64 f)
 have r1 : _ = some (Value.slice none 0 0) := KR8.cell 1 _ rfl
 have g1 := KR8.free 1
 have KR9 := KR8.set 1 (.slice A4 n4 c4)
 have r2 : _ = some (Value.slice none 0 0) := KR9.cell 2 _ rfl
 have g2 := KR9.free 2
 have KRx := KR9.set 2 (.slice A6 n6 c6)
 have e0 : _ = some (Value.int .i64 f) := KRx.cell 0 _ rfl
 have e1 : _ = some (Value.slice A4 n4 c4) := KRx.cell 1 _ rfl
 have e2 : _ = some (Value.slice A6 n6 c6) := KRx.cell 2 _ rfl
 have kG : KeptBut G X6 (X6.setCell ⟨G, 2, none⟩ (.slice A6 n6 c6)) := (KeptBut.refl G X6).set 2 _
 have kR : KeptBut R (X6.setCell ⟨G, 2, none⟩ (.slice A6 n6 c6)) ((((X6.setCell ⟨G, 2, none⟩ (.slice A6 n6 c6)).setCell ⟨R, 0, none⟩ (.int .i64 f)).setCell ⟨R, 1, none⟩ (.slice A4 n4 c4)).setCell ⟨R, 2, none⟩ (.slice A6 n6 c6)) := (((KeptBut.refl R _).set 0 _).set 1 _).set 2 _
 have SF : Hid (EngO ((((X6.setCell ⟨G, 2, none⟩ (.slice A6 n6 c6)).setCell ⟨R, 0, none⟩ (.int .i64 f)).setCell ⟨R, 1, none⟩ (.slice A4 n4 c4)).setCell ⟨R, 2, none⟩ (.slice A6 n6 c6)) w.heap.size (.agg #[.int .i64 f, .slice A4 n4 c4, .slice A6 n6 c6]) e) := by
  refine ⟨_, _, L, by rw [HF.out]; rfl, HL.out, ((S6.out.others kG (by have := HG.out; have := HZ.out; omega)).others kR (by have := HG.out; have := HZ.out; omega)).mono (by have := HG.out; have := HZ.out; omega), ?_⟩
  have h1 := kG.owns (strs_owns T6.out) ((strs_owns T6.out).below HGz.out.1)
  have h2 := kR.owns h1 (h1.below HGz.out.2)
  exact owns_strs (h2.mono (by have := HGz.out; have := HG.out; omega))
 have BF : Hid (Below w.heap.size w ((((X6.setCell ⟨G, 2, none⟩ (.slice A6 n6 c6)).setCell ⟨R, 0, none⟩ (.int .i64 f)).setCell ⟨R, 1, none⟩ (.slice A4 n4 c4)).setCell ⟨R, 2, none⟩ (.slice A6 n6 c6))) := (((B6.out.setCell (show w.heap.size ≤ G by have := HG.out; omega) _).setCell (show w.heap.size ≤ R by have := HG.out; omega) _).setCell (show w.heap.size ≤ R by have := HG.out; omega) _).setCell (show w.heap.size ≤ R by have := HG.out; omega) _
 clear KO6 KR6 KO7 KR7 KR8 KR9 KRx kG kR
 go_wp2_with fail
 exact bodyPost_ret (v := .agg #[.int .i64 f, .slice A4 n4 c4, .slice A6 n6 c6]) (by simp [results, go_sem, e0, e1, e2]) rfl ⟨⟨_, rfl, SF.out⟩, BF.out⟩
set_option maxHeartbeats 2000000 in
theorem eqEngine (e : Eng) (va vb : Value) (b1 b2 : Nat) (w : World) (ha : EngO w b1 va e) (hb : EngO w b2 vb e) (hs : EShort e) :
  Calls Tryz.prog 33 #[va, vb] w fun b w' => b = .returned (.bool true) ∧ Below w.heap.size w w' := by
 obtain ⟨vc, vf, L, rfl, hL, hS, hT⟩ := ha
 obtain ⟨vc', vf', L', rfl, hL', hS', hT'⟩ := hb
 unfold vE
 have S1 : Hid (SerV w w.heap.size vc e.cache) := by unfold Hid; rw [← hL]; exact hS.view
 have S2 : Hid (SerV w w.heap.size vc' e.cache) := by unfold Hid; rw [← hL']; exact hS'.view
 have T1 : Hid (Strs w b1 vf e.files) := hT
 have T2 : Hid (Strs w b2 vf' e.files) := hT'
 have HSh : Hid (EShort e) := hs
 obtain ⟨A1, n1, c1, rfl⟩ := hS.1.shape
 obtain ⟨A2, n2, c2, rfl⟩ := hS'.1.shape
 obtain ⟨A3, n3, c3, rfl⟩ := (strs_owns hT).shape
 obtain ⟨A4, n4, c4, rfl⟩ := (strs_owns hT').shape
 clear hL hL' hS hS' hT hT' hs
 generalize e.floor = f at *
 obtain ⟨X0, hX0⟩ : ∃ X0, X0 = (w.alloc (.cells #[.int .i64 f, .slice A1 n1 c1, .slice A3 n3 c3] 35)).alloc (.cells #[.int .i64 f, .slice A2 n2 c2, .slice A4 n4 c4] 35) := ⟨_, rfl⟩
 have BX : Hid (Below w.heap.size w X0) := by unfold Hid; rw [hX0]; exact below_alloc2 _ _ _
 have K1 : Hid (Blk X0 w.heap.size #[.int .i64 f, .slice A1 n1 c1, .slice A3 n3 c3] 35) := by unfold Hid; rw [hX0]; exact (Blk.new w _ _).alloc _
 have K2 : Hid (Blk X0 (w.heap.size + 1) #[.int .i64 f, .slice A2 n2 c2, .slice A4 n4 c4] 35) := by
  unfold Hid
  rw [hX0]
  have := Blk.new (w.alloc (.cells #[.int .i64 f, .slice A1 n1 c1, .slice A3 n3 c3] 35)) #[.int .i64 f, .slice A2 n2 c2, .slice A4 n4 c4] 35
  rw [World.size_alloc] at this
  exact this
 have cS := eqSeriesS e.cache (.slice A1 n1 c1) (.slice A2 n2 c2) X0 w.heap.size (S1.out.on BX.out) (S2.out.on BX.out) HSh.out.1 BX.out.size
 have a0 := K1.out.cell 0 _ rfl
 have a1 := K1.out.cell 1 _ rfl
 have d0 := K2.out.cell 0 _ rfl
 have d1 := K2.out.cell 1 _ rfl
 go_enter Tryz.func33, Tryz.ntmps33
 go_wp2_with fail
 rw [← hX0]
 clear hX0
 refine cS.mono ?_
 rintro b X1 ⟨rfl, hb1⟩
 have B1 : Hid (Below w.heap.size w X1) := BX.out.trans (hb1.mono BX.out.size)
 have K3 := K1.out.on hb1 K1.out.lt
 have K4 := K2.out.on hb1 K2.out.lt
 have a2 := K3.cell 2 _ rfl
 have d2 := K4.cell 2 _ rfl
 have cT := eq_same b1 b2 (.slice A3 n3 c3) (.slice A4 n4 c4) e.files X1 (T1.out.on B1.out) (T2.out.on B1.out) (by have := HSh.out.2.2.1; omega)
 clear hb1 cS a0 a1 d0 d1 K3 K4
 go_wp2_with fail
 refine cT.mono ?_
 rintro b X2 ⟨rfl, hlk⟩
 have B2 : Hid (Below w.heap.size w X2) := B1.out.trans (hlk.below.mono B1.out.size)
 clear hlk cT a2 d2
 go_wp2_with fail
 go_ret
 exact ⟨rfl, B2.out⟩
def EMk (w : World) (base k : Nat) (v : Value) (L : List (Ser × Value)) (n : Nat) : Prop := ∃ f vc vf, v = vE f vc vf ∧ SMk w base k vc L ∧ Strs w base vf (marks (kAt k L L.length) n)
theorem EMk.on {w w' : World} {base k : Nat} {v : Value} {L : List (Ser × Value)} {n : Nat} (h : EMk w base k v L n) (hb : Below w.heap.size w w') : EMk w' base k v L n := by
 obtain ⟨f, vc, vf, h1, h2, h3⟩ := h
 exact ⟨f, vc, vf, h1, h2.on hb, h3.on hb⟩
section
variable {H : Type} {enc : TypeId × Value → H} {w : World} {base : Nat} {spare : Nat → Bool} {held : Bool}
theorem cStr9 : Tryz.prog.cellsOf 9 = 1 := by kernel_rfl
theorem open_text (n : Nat) (cs : List Value) (y : DataW H × List MemPlace) (h : DataW.trod enc Tryz.prog w base spare held n 9 cs = some y) : ∃ s : ByteArray, cs = stC s ∧ s.size ≤ maxLen := by
 obtain ⟨s0, e0, _, hs⟩ := DataW.trod_string Tryz.underlying9 h
 exact ⟨s0, e0, hs⟩
end
end Go.Proofs.YthhamlahdjokkaaGreatDoor
namespace Go.Proofs.YthhamlahdjokkaaGreatDoor
open Go.ChangeShapes Go.WideShapes Go.ChangeAt Go.RowKit Go.PlainAid
set_option linter.unusedVariables false
theorem res8 {w : World} {g : Nat} {a0 a1 a2 a3 a4 a5 a6 a7 x0 x1 x2 x3 x4 x5 x6 x7 : Value} {t : TypeId} (h0 : Blk w g #[a0, a1, a2, a3, a4, a5, a6, a7] t) :
  (w.cell? ⟨g, 0, none⟩ = some a0 ∧ w.frozen? ⟨g, 0, none⟩ = false) ∧ ((w.setCell ⟨g, 0, none⟩ x0).cell? ⟨g, 1, none⟩ = some a1 ∧ (w.setCell ⟨g, 0, none⟩ x0).frozen? ⟨g, 1, none⟩ = false) ∧ (((w.setCell ⟨g, 0, none⟩ x0).setCell ⟨g, 1, none⟩ x1).cell? ⟨g, 2, none⟩ = some a2 ∧ ((w.setCell ⟨g, 0, none⟩ x0).setCell ⟨g, 1, none⟩ x1).frozen? ⟨g, 2, none⟩ = false) ∧ ((((w.setCell ⟨g, 0, none⟩ x0).setCell ⟨g, 1, none⟩ x1).setCell ⟨g, 2, none⟩ x2).cell? ⟨g, 3, none⟩ = some a3 ∧ (((w.setCell ⟨g, 0, none⟩ x0).setCell ⟨g, 1, none⟩ x1).setCell ⟨g, 2, none⟩ x2).frozen? ⟨g, 3, none⟩ = false) ∧ (((((w.setCell ⟨g, 0, none⟩ x0).setCell ⟨g, 1, none⟩ x1).setCell ⟨g, 2, none⟩ x2).setCell ⟨g, 3, none⟩ x3).cell? ⟨g, 4, none⟩ = some a4 ∧ ((((w.setCell ⟨g, 0, none⟩ x0).setCell ⟨g, 1, none⟩ x1).setCell ⟨g, 2, none⟩ x2).setCell ⟨g, 3, none⟩ x3).frozen? ⟨g, 4, none⟩ = false) ∧ ((((((w.setCell ⟨g, 0, none⟩ x0).setCell ⟨g, 1, none⟩ x1).setCell ⟨g, 2, none⟩ x2).setCell ⟨g, 3, none⟩ x3).setCell ⟨g, 4, none⟩ x4).cell? ⟨g, 5, none⟩ = some a5 ∧ (((((w.setCell ⟨g, 0, none⟩ x0).setCell ⟨g, 1, none⟩ x1).setCell ⟨g, 2, none⟩ x2).setCell ⟨g, 3, none⟩ x3).setCell ⟨g, 4, none⟩ x4).frozen? ⟨g, 5, none⟩ = false) ∧ (((((((w.setCell ⟨g, 0, none⟩ x0).setCell ⟨g, 1, none⟩ x1).setCell ⟨g, 2, none⟩ x2).setCell ⟨g, 3, none⟩ x3).setCell ⟨g, 4, none⟩ x4).setCell ⟨g, 5, none⟩ x5).cell? ⟨g, 6, none⟩ = some a6 ∧ ((((((w.setCell ⟨g, 0, none⟩ x0).setCell ⟨g, 1, none⟩ x1).setCell ⟨g, 2, none⟩ x2).setCell ⟨g, 3, none⟩ x3).setCell ⟨g, 4, none⟩ x4).setCell ⟨g, 5, none⟩ x5).frozen? ⟨g, 6, none⟩ = false) ∧ ((((((((w.setCell ⟨g, 0, none⟩ x0).setCell ⟨g, 1, none⟩ x1).setCell ⟨g, 2, none⟩ x2).setCell ⟨g, 3, none⟩ x3).setCell ⟨g, 4, none⟩ x4).setCell ⟨g, 5, none⟩ x5).setCell ⟨g, 6, none⟩ x6).cell? ⟨g, 7, none⟩ = some a7 ∧ (((((((w.setCell ⟨g, 0, none⟩ x0).setCell ⟨g, 1, none⟩ x1).setCell ⟨g, 2, none⟩ x2).setCell ⟨g, 3, none⟩ x3).setCell ⟨g, 4, none⟩ x4).setCell ⟨g, 5, none⟩ x5).setCell ⟨g, 6, none⟩ x6).frozen? ⟨g, 7, none⟩ = false) ∧ Blk ((((((((w.setCell ⟨g, 0, none⟩ x0).setCell ⟨g, 1, none⟩ x1).setCell ⟨g, 2, none⟩ x2).setCell ⟨g, 3, none⟩ x3).setCell ⟨g, 4, none⟩ x4).setCell ⟨g, 5, none⟩ x5).setCell ⟨g, 6, none⟩ x6).setCell ⟨g, 7, none⟩ x7) g #[x0, x1, x2, x3, x4, x5, x6, x7] t ∧ KeptBut g w ((((((((w.setCell ⟨g, 0, none⟩ x0).setCell ⟨g, 1, none⟩ x1).setCell ⟨g, 2, none⟩ x2).setCell ⟨g, 3, none⟩ x3).setCell ⟨g, 4, none⟩ x4).setCell ⟨g, 5, none⟩ x5).setCell ⟨g, 6, none⟩ x6).setCell ⟨g, 7, none⟩ x7) ∧ (((((((((w.setCell ⟨g, 0, none⟩ x0).setCell ⟨g, 1, none⟩ x1).setCell ⟨g, 2, none⟩ x2).setCell ⟨g, 3, none⟩ x3).setCell ⟨g, 4, none⟩ x4).setCell ⟨g, 5, none⟩ x5).setCell ⟨g, 6, none⟩ x6).setCell ⟨g, 7, none⟩ x7).cell? ⟨g, 0, none⟩ = some x0 ∧ ((((((((w.setCell ⟨g, 0, none⟩ x0).setCell ⟨g, 1, none⟩ x1).setCell ⟨g, 2, none⟩ x2).setCell ⟨g, 3, none⟩ x3).setCell ⟨g, 4, none⟩ x4).setCell ⟨g, 5, none⟩ x5).setCell ⟨g, 6, none⟩ x6).setCell ⟨g, 7, none⟩ x7).cell? ⟨g, 1, none⟩ = some x1 ∧ ((((((((w.setCell ⟨g, 0, none⟩ x0).setCell ⟨g, 1, none⟩ x1).setCell ⟨g, 2, none⟩ x2).setCell ⟨g, 3, none⟩ x3).setCell ⟨g, 4, none⟩ x4).setCell ⟨g, 5, none⟩ x5).setCell ⟨g, 6, none⟩ x6).setCell ⟨g, 7, none⟩ x7).cell? ⟨g, 2, none⟩ = some x2 ∧ ((((((((w.setCell ⟨g, 0, none⟩ x0).setCell ⟨g, 1, none⟩ x1).setCell ⟨g, 2, none⟩ x2).setCell ⟨g, 3, none⟩ x3).setCell ⟨g, 4, none⟩ x4).setCell ⟨g, 5, none⟩ x5).setCell ⟨g, 6, none⟩ x6).setCell ⟨g, 7, none⟩ x7).cell? ⟨g, 3, none⟩ = some x3 ∧ ((((((((w.setCell ⟨g, 0, none⟩ x0).setCell ⟨g, 1, none⟩ x1).setCell ⟨g, 2, none⟩ x2).setCell ⟨g, 3, none⟩ x3).setCell ⟨g, 4, none⟩ x4).setCell ⟨g, 5, none⟩ x5).setCell ⟨g, 6, none⟩ x6).setCell ⟨g, 7, none⟩ x7).cell? ⟨g, 4, none⟩ = some x4 ∧ ((((((((w.setCell ⟨g, 0, none⟩ x0).setCell ⟨g, 1, none⟩ x1).setCell ⟨g, 2, none⟩ x2).setCell ⟨g, 3, none⟩ x3).setCell ⟨g, 4, none⟩ x4).setCell ⟨g, 5, none⟩ x5).setCell ⟨g, 6, none⟩ x6).setCell ⟨g, 7, none⟩ x7).cell? ⟨g, 5, none⟩ = some x5 ∧ ((((((((w.setCell ⟨g, 0, none⟩ x0).setCell ⟨g, 1, none⟩ x1).setCell ⟨g, 2, none⟩ x2).setCell ⟨g, 3, none⟩ x3).setCell ⟨g, 4, none⟩ x4).setCell ⟨g, 5, none⟩ x5).setCell ⟨g, 6, none⟩ x6).setCell ⟨g, 7, none⟩ x7).cell? ⟨g, 6, none⟩ = some x6 ∧ ((((((((w.setCell ⟨g, 0, none⟩ x0).setCell ⟨g, 1, none⟩ x1).setCell ⟨g, 2, none⟩ x2).setCell ⟨g, 3, none⟩ x3).setCell ⟨g, 4, none⟩ x4).setCell ⟨g, 5, none⟩ x5).setCell ⟨g, 6, none⟩ x6).setCell ⟨g, 7, none⟩ x7).cell? ⟨g, 7, none⟩ = some x7) := by
 have h1 : Blk (w.setCell ⟨g, 0, none⟩ x0) g #[x0, a1, a2, a3, a4, a5, a6, a7] t := h0.set 0 x0
 have h2 : Blk ((w.setCell ⟨g, 0, none⟩ x0).setCell ⟨g, 1, none⟩ x1) g #[x0, x1, a2, a3, a4, a5, a6, a7] t := h1.set 1 x1
 have h3 : Blk (((w.setCell ⟨g, 0, none⟩ x0).setCell ⟨g, 1, none⟩ x1).setCell ⟨g, 2, none⟩ x2) g #[x0, x1, x2, a3, a4, a5, a6, a7] t := h2.set 2 x2
 have h4 : Blk ((((w.setCell ⟨g, 0, none⟩ x0).setCell ⟨g, 1, none⟩ x1).setCell ⟨g, 2, none⟩ x2).setCell ⟨g, 3, none⟩ x3) g #[x0, x1, x2, x3, a4, a5, a6, a7] t := h3.set 3 x3
 have h5 : Blk (((((w.setCell ⟨g, 0, none⟩ x0).setCell ⟨g, 1, none⟩ x1).setCell ⟨g, 2, none⟩ x2).setCell ⟨g, 3, none⟩ x3).setCell ⟨g, 4, none⟩ x4) g #[x0, x1, x2, x3, x4, a5, a6, a7] t := h4.set 4 x4
 have h6 : Blk ((((((w.setCell ⟨g, 0, none⟩ x0).setCell ⟨g, 1, none⟩ x1).setCell ⟨g, 2, none⟩ x2).setCell ⟨g, 3, none⟩ x3).setCell ⟨g, 4, none⟩ x4).setCell ⟨g, 5, none⟩ x5) g #[x0, x1, x2, x3, x4, x5, a6, a7] t := h5.set 5 x5
 have h7 : Blk (((((((w.setCell ⟨g, 0, none⟩ x0).setCell ⟨g, 1, none⟩ x1).setCell ⟨g, 2, none⟩ x2).setCell ⟨g, 3, none⟩ x3).setCell ⟨g, 4, none⟩ x4).setCell ⟨g, 5, none⟩ x5).setCell ⟨g, 6, none⟩ x6) g #[x0, x1, x2, x3, x4, x5, x6, a7] t := h6.set 6 x6
 have h8 : Blk ((((((((w.setCell ⟨g, 0, none⟩ x0).setCell ⟨g, 1, none⟩ x1).setCell ⟨g, 2, none⟩ x2).setCell ⟨g, 3, none⟩ x3).setCell ⟨g, 4, none⟩ x4).setCell ⟨g, 5, none⟩ x5).setCell ⟨g, 6, none⟩ x6).setCell ⟨g, 7, none⟩ x7) g #[x0, x1, x2, x3, x4, x5, x6, x7] t := h7.set 7 x7
 exact ⟨⟨h0.cell 0 _ rfl, h0.free 0⟩, ⟨h1.cell 1 _ rfl, h1.free 1⟩, ⟨h2.cell 2 _ rfl, h2.free 2⟩, ⟨h3.cell 3 _ rfl, h3.free 3⟩, ⟨h4.cell 4 _ rfl, h4.free 4⟩, ⟨h5.cell 5 _ rfl, h5.free 5⟩, ⟨h6.cell 6 _ rfl, h6.free 6⟩, ⟨h7.cell 7 _ rfl, h7.free 7⟩, h8, (((((((((KeptBut.refl g w).set 0 x0).set 1 x1).set 2 x2).set 3 x3).set 4 x4).set 5 x5).set 6 x6).set 7 x7), h8.cell 0 _ rfl, h8.cell 1 _ rfl, h8.cell 2 _ rfl, h8.cell 3 _ rfl, h8.cell 4 _ rfl, h8.cell 5 _ rfl, h8.cell 6 _ rfl, h8.cell 7 _ rfl⟩
set_option maxHeartbeats 8000000 in
theorem toState (x : Sta) (v : Value) (w : World) (B : Nat) (hv : StaV w B v x) (hs : StShort x) (hB : B ≤ w.heap.size) :
  Calls Tryz.prog 8 #[v] w fun b w' => (∃ u, b = .returned u ∧ StaO w' w.heap.size u x) ∧ Below w.heap.size w w' := by
 obtain ⟨Ab, nb, cb, Ac, nc, cc, Af, nf, cf, As, ns, cs, rfl⟩ := hv.shape
 obtain ⟨hb0, he0, hs0⟩ := hv.parts
 have HB : Hid (B ≤ w.heap.size) := hB
 have HS : Hid (StShort x) := hs
 have LB : Hid (Lies w B 2 (.slice Ab nb cb) (ptR x.bks)) := hb0
 have LE : Hid (EngV w B (.agg #[.int .i64 x.eng.floor, .slice Ac nc cc, .slice Af nf cf]) x.eng) := he0
 have LQ : Hid (Lies w B 6 (.slice As ns cs) (sesR x.ses)) := hs0
 clear hv hb0 he0 hs0 hB hs
 unfold vSt
 generalize hsk : x.kind = sk at *
 generalize hsh : x.hold = sh at *
 generalize hsm : x.mark = sm at *
 generalize hsf : x.eng.floor = sf at *
 have HX : Hid (x.kind = sk ∧ x.hold = sh ∧ x.mark = sm ∧ x.eng.floor = sf) := ⟨hsk, hsh, hsm, hsf⟩
 clear hsk hsh hsm hsf
 obtain ⟨X1, hX1⟩ : ∃ X1, X1 = w.alloc (.cells #[.int .i64 sk, .int .i64 sh, .int .i64 sm, .slice Ab nb cb, .int .i64 sf, .slice Ac nc cc, .slice Af nf cf, .slice As ns cs] 29) := ⟨_, rfl⟩
 obtain ⟨X2, hX2⟩ : ∃ X2, X2 = X1.alloc (.cells #[.int .i64 0, .int .i64 0, .int .i64 0, .slice none 0 0, .int .i64 0, .slice none 0 0, .slice none 0 0, .slice none 0 0] 38) := ⟨_, rfl⟩
 obtain ⟨X3, hX3⟩ : ∃ X3, X3 = X2.alloc (.cells #[.int .i64 sk, .int .i64 sh, .int .i64 sm, .slice none 0 0, .int .i64 0, .slice none 0 0, .slice none 0 0, .slice none 0 0] 38) := ⟨_, rfl⟩
 have z1 : X1.heap.size = w.heap.size + 1 := by rw [hX1, World.size_alloc]
 have z2 : X2.heap.size = w.heap.size + 1 + 1 := by rw [hX2, World.size_alloc, z1]
 have z3 : X3.heap.size = w.heap.size + 1 + 1 + 1 := by rw [hX3, World.size_alloc, z2]
 have BX : Hid (Below w.heap.size w X3) := by
  unfold Hid
  rw [hX3, hX2, hX1]
  exact below_a3 _ _ _ _
 have KA : Hid (Blk X3 w.heap.size #[.int .i64 sk, .int .i64 sh, .int .i64 sm, .slice Ab nb cb, .int .i64 sf, .slice Ac nc cc, .slice Af nf cf, .slice As ns cs] 29) := by
  unfold Hid
  rw [hX3, hX2, hX1]
  exact ((Blk.new w _ _).alloc _).alloc _
 have KR : Hid (Blk X3 (w.heap.size + 1) #[.int .i64 0, .int .i64 0, .int .i64 0, .slice none 0 0, .int .i64 0, .slice none 0 0, .slice none 0 0, .slice none 0 0] 38) := by
  unfold Hid
  rw [hX3, hX2, ← z1]
  exact (Blk.new X1 _ _).alloc _
 have KO : Hid (Blk X3 (w.heap.size + 1 + 1) #[.int .i64 sk, .int .i64 sh, .int .i64 sm, .slice none 0 0, .int .i64 0, .slice none 0 0, .slice none 0 0, .slice none 0 0] 38) := by
  unfold Hid
  rw [hX3, ← z2]
  exact Blk.new X2 _ _
 have c1 := toBucketS x.bks _ X3 B (LB.out.on (BX.out.mono HB.out)) HS.out.1 (Nat.le_trans HB.out BX.out.size)
 have ka := KA.out.cell 3 _ rfl
 go_enter Tryz.func8, Tryz.ntmps8
 go_wp2_with fail
 rw [← hX1, ← hX2, ← hX3]
 clear hX1 hX2 hX3 z1 z2
 refine c1.mono ?_
 rintro b X4 ⟨u4, rfl, hO4, hb4⟩
 obtain ⟨A4, n4, c4, rfl⟩ := hO4.shape
 have Q4 : Hid (Owns X4 X3.heap.size 58 2 (.slice A4 n4 c4) (ptR x.bks)) := hO4
 have B4 : Hid (Below w.heap.size w X4) := BX.out.trans (hb4.mono BX.out.size)
 have KA4 : Hid (Blk X4 w.heap.size #[.int .i64 sk, .int .i64 sh, .int .i64 sm, .slice Ab nb cb, .int .i64 sf, .slice Ac nc cc, .slice Af nf cf, .slice As ns cs] 29) := KA.out.on hb4 KA.out.lt
 have KR4 : Hid (Blk X4 (w.heap.size + 1) #[.int .i64 0, .int .i64 0, .int .i64 0, .slice none 0 0, .int .i64 0, .slice none 0 0, .slice none 0 0, .slice none 0 0] 38) := KR.out.on hb4 KR.out.lt
 have KO4 : Hid (Blk X4 (w.heap.size + 1 + 1) #[.int .i64 sk, .int .i64 sh, .int .i64 sm, .slice none 0 0, .int .i64 0, .slice none 0 0, .slice none 0 0, .slice none 0 0] 38) := KO.out.on hb4 KO.out.lt
 have HZ : Hid (X3.heap.size = w.heap.size + 1 + 1 + 1) := z3
 clear hO4 hb4 c1 ka KA KR KO z3
 generalize hG : w.heap.size + 1 + 1 = G at *
 generalize hR : w.heap.size + 1 = R at *
 have HG : Hid (R + 1 = G ∧ w.heap.size + 1 = R) := ⟨hG, hR⟩
 clear hG hR
 obtain ⟨X5, hX5⟩ : ∃ X5, X5 = X4.setCell ⟨G, 3, none⟩ (.slice A4 n4 c4) := ⟨_, rfl⟩
 have m1 : _ = some (Value.slice none 0 0) := KO4.out.cell 3 _ rfl
 have f1 := KO4.out.free 3
 have KO5 : Hid (Blk X5 G #[.int .i64 sk, .int .i64 sh, .int .i64 sm, .slice A4 n4 c4, .int .i64 0, .slice none 0 0, .slice none 0 0, .slice none 0 0] 38) := by unfold Hid; rw [hX5]; exact KO4.out.set 3 _
 have KR5 : Hid (Blk X5 R #[.int .i64 0, .int .i64 0, .int .i64 0, .slice none 0 0, .int .i64 0, .slice none 0 0, .slice none 0 0, .slice none 0 0] 38) := by unfold Hid; rw [hX5]; exact KR4.out.other (by have := HG.out; omega) 3 _
 have KA5 : Hid (Blk X5 w.heap.size #[.int .i64 sk, .int .i64 sh, .int .i64 sm, .slice Ab nb cb, .int .i64 sf, .slice Ac nc cc, .slice Af nf cf, .slice As ns cs] 29) := by unfold Hid; rw [hX5]; exact KA4.out.other (by have := HG.out; omega) 3 _
 have Q5 : Hid (Owns X5 X3.heap.size 58 2 (.slice A4 n4 c4) (ptR x.bks)) := by unfold Hid; rw [hX5]; exact ((KeptBut.refl G X4).set 3 _).owns Q4.out (Q4.out.below (by have := HG.out; have := HZ.out; omega))
 have B5 : Hid (Below w.heap.size w X5) := by unfold Hid; rw [hX5]; exact B4.out.setCell (show w.heap.size ≤ G by have := HG.out; omega) _
 have k4 := KA5.out.cell 4 _ rfl
 have k5 := KA5.out.cell 5 _ rfl
 have k6 := KA5.out.cell 6 _ rfl
 have c2 := toEngine x.eng _ X5 B (LE.out.on (B5.out.mono HB.out)) HS.out.2.1 (Nat.le_trans HB.out B5.out.size)
 rw [hX5] at k4 k5 k6
 clear KO4 KR4 KA4 Q4 B4
 go_wp2_with fail
 rw [← hX5]
 clear hX5 m1 f1 k4 k5 k6
 refine c2.mono ?_
 rintro b X6 ⟨⟨u6, rfl, hE6⟩, hb6⟩
 obtain ⟨vc6, vf6, L6, ev6, hL6, hS6, hT6⟩ := hE6
 unfold vE at ev6
 rw [HX.out.2.2.2] at ev6
 subst ev6
 obtain ⟨A6, n6, c6, rfl⟩ := hS6.1.shape
 obtain ⟨A7, n7, c7, rfl⟩ := (strs_owns hT6).shape
 have HL : Hid (L6.map Prod.fst = x.eng.cache) := hL6
 have S6 : Hid (SerO X6 X5.heap.size (.slice A6 n6 c6) L6) := hS6
 have T6 : Hid (Strs X6 X5.heap.size (.slice A7 n7 c7) x.eng.files) := hT6
 have Q6 : Hid (Owns X6 X3.heap.size 58 2 (.slice A4 n4 c4) (ptR x.bks)) := Q5.out.on hb6
 have B6 : Hid (Below w.heap.size w X6) := B5.out.trans (hb6.mono B5.out.size)
 have KA6 : Hid (Blk X6 w.heap.size #[.int .i64 sk, .int .i64 sh, .int .i64 sm, .slice Ab nb cb, .int .i64 sf, .slice Ac nc cc, .slice Af nf cf, .slice As ns cs] 29) := KA5.out.on hb6 KA5.out.lt
 have KR6 : Hid (Blk X6 R #[.int .i64 0, .int .i64 0, .int .i64 0, .slice none 0 0, .int .i64 0, .slice none 0 0, .slice none 0 0, .slice none 0 0] 38) := KR5.out.on hb6 KR5.out.lt
 have KO6 : Hid (Blk X6 G #[.int .i64 sk, .int .i64 sh, .int .i64 sm, .slice A4 n4 c4, .int .i64 0, .slice none 0 0, .slice none 0 0, .slice none 0 0] 38) := KO5.out.on hb6 KO5.out.lt
 have HG5 : Hid (G < X5.heap.size ∧ R < X5.heap.size) := ⟨KO5.out.lt, KR5.out.lt⟩
 clear hL6 hS6 hT6 hb6 c2 KA5 KR5 KO5 Q5 B5
 obtain ⟨X7, hX7⟩ : ∃ X7, X7 = ((X6.setCell ⟨G, 4, none⟩ (.int .i64 sf)).setCell ⟨G, 5, none⟩ (.slice A6 n6 c6)).setCell ⟨G, 6, none⟩ (.slice A7 n7 c7) := ⟨_, rfl⟩
 have m4 : _ = some (Value.int .i64 0) := KO6.out.cell 4 _ rfl
 have f4 := KO6.out.free 4
 have KOa := KO6.out.set 4 (.int .i64 sf)
 have m5 : _ = some (Value.slice none 0 0) := KOa.cell 5 _ rfl
 have f5 := KOa.free 5
 have KOb := KOa.set 5 (.slice A6 n6 c6)
 have m6 : _ = some (Value.slice none 0 0) := KOb.cell 6 _ rfl
 have f6 := KOb.free 6
 have KO7 : Hid (Blk X7 G #[.int .i64 sk, .int .i64 sh, .int .i64 sm, .slice A4 n4 c4, .int .i64 sf, .slice A6 n6 c6, .slice A7 n7 c7, .slice none 0 0] 38) := by unfold Hid; rw [hX7]; exact KOb.set 6 _
 have kG7 : Hid (KeptBut G X6 X7) := by unfold Hid; rw [hX7]; exact (((KeptBut.refl G X6).set 4 _).set 5 _).set 6 _
 have KR7 : Hid (Blk X7 R #[.int .i64 0, .int .i64 0, .int .i64 0, .slice none 0 0, .int .i64 0, .slice none 0 0, .slice none 0 0, .slice none 0 0] 38) := kG7.out.blk KR6.out (by have := HG.out; omega)
 have KA7 : Hid (Blk X7 w.heap.size #[.int .i64 sk, .int .i64 sh, .int .i64 sm, .slice Ab nb cb, .int .i64 sf, .slice Ac nc cc, .slice Af nf cf, .slice As ns cs] 29) := kG7.out.blk KA6.out (by have := HG.out; omega)
 have Q7 : Hid (Owns X7 X3.heap.size 58 2 (.slice A4 n4 c4) (ptR x.bks)) := kG7.out.owns Q6.out (Q6.out.below (by have := HG.out; have := HZ.out; omega))
 have S7 : Hid (SerO X7 X5.heap.size (.slice A6 n6 c6) L6) := S6.out.others kG7.out HG5.out.1
 have T7 : Hid (Strs X7 X5.heap.size (.slice A7 n7 c7) x.eng.files) := owns_strs (kG7.out.owns (strs_owns T6.out) ((strs_owns T6.out).below HG5.out.1))
 have B7 : Hid (Below w.heap.size w X7) := B6.out.trans (kG7.out.1.mono (by have := HG.out; omega))
 have k7 := KA7.out.cell 7 _ rfl
 have c3 := toSessionS x.ses _ X7 B (LQ.out.on (B7.out.mono HB.out)) HS.out.2.2.1 (Nat.le_trans HB.out B7.out.size)
 rw [hX7] at k7
 clear KOa KOb KO6 KR6 KA6 Q6 S6 T6 B6 kG7
 go_wp2_with fail
 rw [← hX7]
 clear hX7 m4 m5 m6 f4 f5 f6 k7
 refine c3.mono ?_
 rintro b X8 ⟨u8, rfl, hO8, hb8⟩
 obtain ⟨A9, n9, c9, rfl⟩ := hO8.shape
 have Y8 : Hid (Owns X8 X7.heap.size 53 6 (.slice A9 n9 c9) (sesR x.ses)) := hO8
 have Q8 : Hid (Owns X8 X3.heap.size 58 2 (.slice A4 n4 c4) (ptR x.bks)) := Q7.out.on hb8
 have S8 : Hid (SerO X8 X5.heap.size (.slice A6 n6 c6) L6) := S7.out.on hb8
 have T8 : Hid (Strs X8 X5.heap.size (.slice A7 n7 c7) x.eng.files) := owns_strs ((strs_owns T7.out).on hb8)
 have B8 : Hid (Below w.heap.size w X8) := B7.out.trans (hb8.mono B7.out.size)
 have KR8 := KR7.out.on hb8 KR7.out.lt
 have KO8 := KO7.out.on hb8 KO7.out.lt
 have HG7 : Hid (G < X7.heap.size ∧ R < X7.heap.size) := ⟨KO7.out.lt, KR7.out.lt⟩
 clear hO8 hb8 c3 KA7 KR7 KO7 Q7 S7 T7 B7
 have m7 : _ = some (Value.slice none 0 0) := KO8.cell 7 _ rfl
 have f7 := KO8.free 7
 have KO9 : Blk (X8.setCell ⟨G, 7, none⟩ (.slice A9 n9 c9)) G #[.int .i64 sk, .int .i64 sh, .int .i64 sm, .slice A4 n4 c4, .int .i64 sf, .slice A6 n6 c6, .slice A7 n7 c7, .slice A9 n9 c9] 38 := KO8.set 7 (.slice A9 n9 c9)
 have o0 := KO9.cell 0 _ rfl
 have o1 := KO9.cell 1 _ rfl
 have o2 := KO9.cell 2 _ rfl
 have o3 := KO9.cell 3 _ rfl
 have o4 := KO9.cell 4 _ rfl
 have o5 := KO9.cell 5 _ rfl
 have o6 := KO9.cell 6 _ rfl
 have o7 := KO9.cell 7 _ rfl
 have KRa : Blk (X8.setCell ⟨G, 7, none⟩ (.slice A9 n9 c9)) R #[.int .i64 0, .int .i64 0, .int .i64 0, .slice none 0 0, .int .i64 0, .slice none 0 0, .slice none 0 0, .slice none 0 0] 38 := KR8.other (show R ≠ G by have := HG.out; omega) 7 (.slice A9 n9 c9)
 obtain ⟨⟨r0, g0⟩, ⟨r1, g1⟩, ⟨r2, g2⟩, ⟨r3, g3⟩, ⟨r4, g4⟩, ⟨r5, g5⟩, ⟨r6, g6⟩, ⟨r7, g7⟩, _, kR, e0, e1, e2, e3, e4, e5, e6, e7⟩ := res8 (w := (X8.setCell ⟨G, 7, none⟩ (.slice A9 n9 c9))) (g := R) (x0 := .int .i64 sk) (x1 := .int .i64 sh) (x2 := .int .i64 sm) (x3 := .slice A4 n4 c4) (x4 := .int .i64 sf) (x5 := .slice A6 n6 c6) (x6 := .slice A7 n7 c7) (x7 := .slice A9 n9 c9) KRa
 have kG : KeptBut G X8 (X8.setCell ⟨G, 7, none⟩ (.slice A9 n9 c9)) := (KeptBut.refl G X8).set 7 _
 have SF : Hid (StaO (((((((((X8.setCell ⟨G, 7, none⟩ (.slice A9 n9 c9)).setCell ⟨R, 0, none⟩ (.int .i64 sk)).setCell ⟨R, 1, none⟩ (.int .i64 sh)).setCell ⟨R, 2, none⟩ (.int .i64 sm)).setCell ⟨R, 3, none⟩ (.slice A4 n4 c4)).setCell ⟨R, 4, none⟩ (.int .i64 sf)).setCell ⟨R, 5, none⟩ (.slice A6 n6 c6)).setCell ⟨R, 6, none⟩ (.slice A7 n7 c7)).setCell ⟨R, 7, none⟩ (.slice A9 n9 c9)) w.heap.size (.agg #[.int .i64 sk, .int .i64 sh, .int .i64 sm, .slice A4 n4 c4, .int .i64 sf, .slice A6 n6 c6, .slice A7 n7 c7, .slice A9 n9 c9]) x) := by
  have q1 := kG.owns Q8.out (Q8.out.below (by have := HG.out; have := HZ.out; omega))
  have q2 := kR.owns q1 (q1.below (by have := HG.out; have := HZ.out; omega))
  have s2 := (S8.out.others kG HG5.out.1).others kR HG5.out.2
  have t1 := kG.owns (strs_owns T8.out) ((strs_owns T8.out).below HG5.out.1)
  have t2 := kR.owns t1 (t1.below HG5.out.2)
  have y1 := kG.owns Y8.out (Y8.out.below HG7.out.1)
  have y2 := kR.owns y1 (y1.below HG7.out.2)
  have hx := HX.out
  have hz := HZ.out
  have hg := HG.out
  have h5 := HG5.out
  have h7 := HG7.out
  exact ⟨_, _, _, _, L6, by unfold vSt; rw [hx.1, hx.2.1, hx.2.2.1, hx.2.2.2], q2.mono (by omega), ⟨HL.out, s2.mono (by omega), owns_strs (t2.mono (by omega))⟩, y2.mono (by omega)⟩
 have BF : Hid (Below w.heap.size w (((((((((X8.setCell ⟨G, 7, none⟩ (.slice A9 n9 c9)).setCell ⟨R, 0, none⟩ (.int .i64 sk)).setCell ⟨R, 1, none⟩ (.int .i64 sh)).setCell ⟨R, 2, none⟩ (.int .i64 sm)).setCell ⟨R, 3, none⟩ (.slice A4 n4 c4)).setCell ⟨R, 4, none⟩ (.int .i64 sf)).setCell ⟨R, 5, none⟩ (.slice A6 n6 c6)).setCell ⟨R, 6, none⟩ (.slice A7 n7 c7)).setCell ⟨R, 7, none⟩ (.slice A9 n9 c9))) := (B8.out.trans (kG.1.mono (by have := HG.out; omega))).trans (kR.1.mono (by have := HG.out; omega))
 clear KO8 KO9 KR8 KRa kG kR
 go_wp2_with fail
 exact bodyPost_ret (v := .agg #[.int .i64 sk, .int .i64 sh, .int .i64 sm, .slice A4 n4 c4, .int .i64 sf, .slice A6 n6 c6, .slice A7 n7 c7, .slice A9 n9 c9]) (by simp [results, go_sem, e0, e1, e2, e3, e4, e5, e6, e7]) rfl ⟨⟨_, rfl, SF.out⟩, BF.out⟩
end Go.Proofs.YthhamlahdjokkaaGreatDoor
namespace Go.Proofs.YthhamlahdjokkaaGreatDoor
open Go.ChangeShapes Go.WideShapes Go.ChangeAt Go.RowKit Go.PlainAid
set_option linter.unusedVariables false
def bkt (t : Int) : Int := if 0 ≤ t ∧ t ≤ 1099511627776 then t / 100 else -1
theorem bkt_in {t : Int} (h0 : 0 ≤ t) (h1 : t ≤ 1099511627776) : bkt t = t / 100 := if_pos ⟨h0, h1⟩
set_option maxHeartbeats 400000 in
theorem implBucket (t : Int) (w : World) :
  Calls Tryz.prog 107 #[.int .i64 t] w fun e w' => e = .returned (.int .i64 (bkt t)) ∧ w = w' := by
 by_cases h0 : t < 0
 ·have e : bkt t = -1 := if_neg (by omega)
  rw [e]
  go_enter Tryz.func107, Tryz.ntmps107
  go_wp2
  go_ret
  exact ⟨rfl, rfl⟩
 ·by_cases h1 : 1099511627776 < t
  ·have e : bkt t = -1 := if_neg (by omega)
   have h2 : ¬ t < 0 := h0
   rw [e]
   go_enter Tryz.func107, Tryz.ntmps107
   go_wp2
   go_ret
   exact ⟨rfl, rfl⟩
  ·have e : bkt t = t / 100 := bkt_in (by omega) (by omega)
   have h2 : decide (1099511627776 < t) = false := by simp; omega
   have h3 : Int.tdiv t 100 = t / 100 := Int.tdiv_eq_ediv_of_nonneg (by omega)
   have h4 : IntKind.i64.wrap (t / 100) = t / 100 := by rw [IntKind.wrap_i64]; omega
   rw [e]
   go_enter Tryz.func107, Tryz.ntmps107
   go_wp2
   go_ret
   exact ⟨rfl, rfl⟩
set_option maxHeartbeats 400000 in
theorem specBucket (t : Int) (w : World) :
  Calls Tryz.prog 23 #[.int .i64 t] w fun e w' => e = .returned (.int .i64 (bkt t)) ∧ w = w' := by
 by_cases h0 : 0 ≤ t ∧ t ≤ 1099511627776
 ·have e : bkt t = t / 100 := if_pos h0
  have cI := in_yes t 0 1099511627776 w h0.1 h0.2
  have h3 : Int.tdiv t 100 = t / 100 := Int.tdiv_eq_ediv_of_nonneg (by omega)
  have h4 : IntKind.i64.wrap (t / 100) = t / 100 := by rw [IntKind.wrap_i64]; omega
  rw [e]
  go_enter Tryz.func23, Tryz.ntmps23
  go_wp2_with fail
  refine cI.mono ?_
  rintro _ _ ⟨rfl, rfl⟩
  go_wp2
  go_ret
  exact ⟨rfl, rfl⟩
 ·have e : bkt t = -1 := if_neg h0
  have cI := in_no t 0 1099511627776 w (by omega)
  rw [e]
  go_enter Tryz.func23, Tryz.ntmps23
  go_wp2_with fail
  refine cI.mono ?_
  rintro _ _ ⟨rfl, rfl⟩
  go_wp2
  go_ret
  exact ⟨rfl, rfl⟩
end Go.Proofs.YthhamlahdjokkaaGreatDoor
namespace Go.Proofs.YthhamlahdjokkaaGreatDoor
open Go.ChangeShapes Go.WideShapes Go.ChangeAt Go.RowKit Go.PlainAid
set_option linter.unusedVariables false
set_option maxRecDepth 20000 in
set_option maxHeartbeats 2000000 in
theorem implBucketsOk (l : List Pnt) (v : Value) (w : World) (B : Nat) (hv : Lies w B 2 v (ptR l)) (hn : l.length ≤ 1048576) (hB : B ≤ w.heap.size) : Calls Tryz.prog 68 #[v] w fun e w' => e = .returned (.bool (bokFrom 0 l)) ∧ Below w.heap.size w w' := by
 obtain ⟨A, cap, rfl, hl⟩ := pt_look hv
 have HL : Hid (∀ j, j < l.length → ∃ g off, A = some ⟨g, off, none⟩ ∧ g < B ∧ _) := hl
 have HB : Hid (B ≤ w.heap.size) := hB
 have HD : Hid (∀ k, k < l.length → ∀ a, bokFrom a (l.drop k) = _) := fun k h a => bok_drop l k h a
 have HE : Hid (∀ a, bokFrom a (l.drop l.length) = true) := fun a => by rw [List.drop_length]; rfl
 have cB := fun wx => implBucket 1099511627776 wx
 rw [show bkt 1099511627776 = 10995116277 from by rw [bkt_in (by omega) (by omega)]; rfl] at cB
 obtain ⟨b0, hb0⟩ : ∃ b, bokFrom 0 l = b := ⟨_, rfl⟩
 have HE0 : Hid (bokFrom 0 (l.drop 0) = b0) := by unfold Hid; rw [List.drop_zero]; exact hb0
 rw [hb0]
 clear hl hB hv hb0
 have q1 : (l.length : Int) ≤ 1048576 := by omega
 generalize hN : l.length = n at *
 go_enter Tryz.func68, Tryz.ntmps68
 go_wp2_with fail
 go_loopw [3, 5, 8] (fun v3 v5 v8 wr => ∃ (k : Nat) (a : Int), k ≤ n ∧ v8 = .int .i64 (k : Int) ∧ v3 = .int .i64 a ∧ Hid ((-1 ≤ a ∧ a ≤ 10995116278) ∧ bokFrom a (l.drop k) = b0) ∧ Below w.heap.size w wr) (fun _ _ i _ => n - (intOf i).toNat)
 case atStart => exact ⟨0, 0, by omega, rfl, rfl, ⟨by omega, HE0.out⟩, Below.refl _ _⟩
 case round =>
  obtain ⟨k, a, hk, rfl, rfl, HA, hb⟩ := hrel
  have HB1 : Hid (Below w.heap.size w wr) := hb
  clear hb
  by_cases hlt : k < n
  ·have q4 : (k : Int) < (n : Int) := by omega
   obtain ⟨g, off, rfl, hg, ha0, ha1⟩ := HL.out k hlt
   have hgw : g < w.heap.size := Nat.lt_of_lt_of_le hg HB.out
   rw [← HB1.out.cell (p := ⟨_, _, none⟩) hgw] at ha0
   rw [← HB1.out.cell (p := ⟨_, _, none⟩) hgw] at ha1
   have hd := HD.out k hlt a
   rw [HA.out.2] at hd
   generalize (l.getD k default).t = x at *
   generalize (l.getD k default).v = y at *
   have H0 : Hid (b0 = _) := hd
   have hsz := HB1.out.size
   obtain ⟨X, hX⟩ : ∃ X, X = wr.alloc (.cells #[.int .i64 x, .int .i64 y] 58) := ⟨_, rfl⟩
   have BX : Hid (Below w.heap.size w X) := by rw [hX]; exact HB1.out.alloc hsz _
   have hR : X.heap[wr.heap.size]? = some (.cells #[.int .i64 x, .int .i64 y] 58 (0, 0)) := by rw [hX]; exact heap_alloc_new wr _
   have e0 : X.cell? ⟨wr.heap.size, 0, none⟩ = some (.int .i64 x) := by rw [cell_of_row _ _ 0 _ _ (0, 0) hR]; rfl
   have e1 : X.cell? ⟨wr.heap.size, 1, none⟩ = some (.int .i64 y) := by rw [cell_of_row _ _ 1 _ _ (0, 0) hR]; rfl
   clear hd hR hsz
   have cN := fun wx => inI x a 10995116277 wx
   have cS := fun wx => inI y 0 1 wx
   have hi1 : Hid (inRg x a 10995116277 = true → a ≤ x ∧ x ≤ 10995116277) := fun h => by unfold inRg at h; simp at h; omega
   have hA := HA.out.1
   obtain ⟨p, hp⟩ : ∃ p, p = wr.heap.size := ⟨_, rfl⟩
   rw [← hp] at e0 e1
   have S0 : Hid (X.drew.cell? ⟨p, 0, none⟩ = some (.int .i64 x) ∧ X.drew.cell? ⟨p, 1, none⟩ = some (.int .i64 y)) := ⟨e0, e1⟩
   have D0 : X.drew.cell? ⟨p, 0, none⟩ = some (.int .i64 x) := e0
   have BD : Hid (Below w.heap.size w X.drew) := BX.out.drew
   clear e0 e1
   cases hc : inRg x a 10995116277 <;> rw [hc] at cN H0 hi1
   ·clear hA
    go_wp2_with fail
    rw [← hX, ← hp]
    clear hX hp
    refine wp_region_until (fun w' => w'.cell? ⟨p, 0, none⟩ = some (.int .i64 x) ∧ w'.cell? ⟨p, 1, none⟩ = some (.int .i64 y)) (fun _ => false) 12 (by rfl) (by kernel_rfl) ?_
    refine tKf 0 S0.out ?_
    refine tKf 1 S0.out ?_
    refine tKf 2 S0.out ?_
    refine uNe 3 (fun K hK => ?_)
    go_simp
    refine (cB _).mono ?_
    rintro e w' ⟨rfl, rfl⟩
    go_wp2_with fail
    refine hK.out _ _ (fun _ h => h) ?_
    clear hK K
    try simp only [Act.put, zQ1, zQ2, zQ3]
    refine uNe 4 (fun K hK => ?_)
    go_simp
    refine (cN _).mono ?_
    rintro e w' ⟨rfl, rfl⟩
    go_wp2_with fail
    refine hK.out _ _ (fun _ h => h) ?_
    clear hK K
    try simp only [Act.put, zQ1, zQ2, zQ3]
    refine tKf 5 S0.out ?_
    refine tKf 6 S0.out ?_
    refine sKf 7 ?_
    refine sKf 8 ?_
    refine sKf 9 ?_
    refine sKf 10 ?_
    refine tKf 11 S0.out ?_
    refine until_done (by kernel_rfl) ?_ _
    go_wp2_with fail
    go_ret
    exact ⟨by rw [H0.out]; rfl, BD.out⟩
   ·have hx := hi1.out rfl
    have e9 : IntKind.i64.wrap (x + 1) = x + 1 := by rw [IntKind.wrap_i64]; omega
    have e8 : wrap64 (x + 1) = x + 1 := by unfold wrap64; omega
    have HX9 : Hid (-1 ≤ x + 1 ∧ x + 1 ≤ 10995116278) := by unfold Hid; omega
    clear hA hi1 hx
    cases hc2 : inRg y 0 1 <;> rw [hc2] at cS H0
    ·go_wp2_with fail
     rw [← hX, ← hp]
     clear hX hp
     refine wp_region_until (fun w' => w'.cell? ⟨p, 0, none⟩ = some (.int .i64 x) ∧ w'.cell? ⟨p, 1, none⟩ = some (.int .i64 y)) (fun _ => false) 12 (by rfl) (by kernel_rfl) ?_
     refine tKf 0 S0.out ?_
     refine tKf 1 S0.out ?_
     refine tKf 2 S0.out ?_
     refine uNe 3 (fun K hK => ?_)
     go_simp
     refine (cB _).mono ?_
     rintro e w' ⟨rfl, rfl⟩
     go_wp2_with fail
     refine hK.out _ _ (fun _ h => h) ?_
     clear hK K
     try simp only [Act.put, zQ1, zQ2, zQ3]
     refine uNe 4 (fun K hK => ?_)
     go_simp
     refine (cN _).mono ?_
     rintro e w' ⟨rfl, rfl⟩
     go_wp2_with fail
     refine hK.out _ _ (fun _ h => h) ?_
     clear hK K
     try simp only [Act.put, zQ1, zQ2, zQ3]
     refine tKf 5 S0.out ?_
     refine tKf 6 S0.out ?_
     refine tKf 7 S0.out ?_
     refine tKf 8 S0.out ?_
     refine uNe 9 (fun K hK => ?_)
     go_simp
     refine (cS _).mono ?_
     rintro e w' ⟨rfl, rfl⟩
     go_wp2_with fail
     refine hK.out _ _ (fun _ h => h) ?_
     clear hK K
     try simp only [Act.put, zQ1, zQ2, zQ3]
     refine tKf 10 S0.out ?_
     refine tKf 11 S0.out ?_
     refine until_done (by kernel_rfl) ?_ _
     go_wp2_with fail
     go_ret
     exact ⟨by rw [H0.out]; rfl, BD.out⟩
    ·go_wp2_with fail
     rw [← hX, ← hp]
     clear hX hp
     refine wp_region_until (fun w' => w'.cell? ⟨p, 0, none⟩ = some (.int .i64 x) ∧ w'.cell? ⟨p, 1, none⟩ = some (.int .i64 y)) (fun _ => false) 12 (by rfl) (by kernel_rfl) ?_
     refine tKf 0 S0.out ?_
     refine tKf 1 S0.out ?_
     refine tKf 2 S0.out ?_
     refine uNe 3 (fun K hK => ?_)
     go_simp
     refine (cB _).mono ?_
     rintro e w' ⟨rfl, rfl⟩
     go_wp2_with fail
     refine hK.out _ _ (fun _ h => h) ?_
     clear hK K
     try simp only [Act.put, zQ1, zQ2, zQ3]
     refine uNe 4 (fun K hK => ?_)
     go_simp
     refine (cN _).mono ?_
     rintro e w' ⟨rfl, rfl⟩
     go_wp2_with fail
     refine hK.out _ _ (fun _ h => h) ?_
     clear hK K
     try simp only [Act.put, zQ1, zQ2, zQ3]
     refine tKf 5 S0.out ?_
     refine tKf 6 S0.out ?_
     refine tKf 7 S0.out ?_
     refine tKf 8 S0.out ?_
     refine uNe 9 (fun K hK => ?_)
     go_simp
     refine (cS _).mono ?_
     rintro e w' ⟨rfl, rfl⟩
     go_wp2_with fail
     refine hK.out _ _ (fun _ h => h) ?_
     clear hK K
     try simp only [Act.put, zQ1, zQ2, zQ3]
     refine tKf 10 S0.out ?_
     refine tKf 11 S0.out ?_
     refine until_done (by kernel_rfl) ?_ _
     go_wp2_with fail
     go_roundw
     case rel => exact ⟨k + 1, x + 1, by omega, by go_num, rfl, ⟨HX9.out, by rw [H0.out]; rfl⟩, BD.out⟩
     case measure => simp [intOf]; omega
  ·obtain rfl : k = n := by omega
   have hz := HA.out.2
   rw [HE.out] at hz
   have HZ : Hid (true = b0) := hz
   clear hz
   go_wp2_with fail
   go_ret
   exact ⟨by rw [← HZ.out]; rfl, HB1.out⟩
end Go.Proofs.YthhamlahdjokkaaGreatDoor
namespace Go.Proofs.YthhamlahdjokkaaGreatDoor
open Go.ChangeShapes Go.WideShapes Go.ChangeAt Go.RowKit Go.PlainAid
set_option linter.unusedVariables false
set_option maxHeartbeats 400000 in
theorem implPast (n m : Int) (w : World) (h0 : -10 ≤ n) (h1 : n ≤ 10995116277) : Calls Tryz.prog 69 #[.int .i64 n, .int .i64 m] w fun e w' => e = .returned (.bool (decide ((n + 1) * 100 ≤ m))) ∧ w = w' := by
 have a1 : IntKind.i64.wrap (n + 1) = n + 1 := by rw [IntKind.wrap_i64]; omega
 have a2 : IntKind.i64.wrap ((n + 1) * 100) = (n + 1) * 100 := by rw [IntKind.wrap_i64]; omega
 have b1 : wrap64 (n + 1) = n + 1 := by unfold wrap64; omega
 have b2 : wrap64 ((n + 1) * 100) = (n + 1) * 100 := by unfold wrap64; omega
 clear h0 h1
 go_enter Tryz.func69, Tryz.ntmps69
 go_wp2
 go_ret
 exact ⟨rfl, rfl⟩
set_option maxRecDepth 20000 in
set_option maxHeartbeats 4000000 in
theorem implSessionsOk (l : List Ses) (v : Value) (w : World) (B : Nat) (hv : Lies w B 6 v (sesR l)) (hn : l.length ≤ 1048576) (hd : ∀ s ∈ l, s.data.size ≤ 1048576) (hB : B ≤ w.heap.size) : Calls Tryz.prog 29 #[v] w fun e w' => e = .returned (.bool (sesFrom 1 l)) ∧ Below w.heap.size w w' := by
 obtain ⟨A, cap, rfl, hl⟩ := ses_look hv
 have HL : Hid (∀ j, j < l.length → ∃ g off, A = some ⟨g, off, none⟩ ∧ g < B ∧ _) := hl
 have HB : Hid (B ≤ w.heap.size) := hB
 have HDT : Hid (∀ k, k < l.length → (l.getD k default).data.size ≤ maxLen) := fun k hk => by have := hd _ (getD_mem l k hk); unfold maxLen; omega
 have HD : Hid (∀ k, k < l.length → ∀ a, sesFrom a (l.drop k) = _) := fun k h a => ses_drop l k h a
 have HE : Hid (∀ a, sesFrom a (l.drop l.length) = true) := fun a => by rw [List.drop_length]; rfl
 obtain ⟨b0, hb0⟩ : ∃ b, sesFrom 1 l = b := ⟨_, rfl⟩
 have HE0 : Hid (sesFrom 1 (l.drop 0) = b0) := by unfold Hid; rw [List.drop_zero]; exact hb0
 rw [hb0]
 clear hl hB hv hb0 hd
 have q1 : (l.length : Int) ≤ 1048576 := by omega
 generalize hN : l.length = n at *
 go_enter Tryz.func29, Tryz.ntmps29
 go_wp2_with fail
 go_loopw [3, 5, 8] (fun v3 v5 v8 wr => ∃ (k : Nat) (a : Int), k ≤ n ∧ v8 = .int .i64 (k : Int) ∧ v3 = .int .i64 a ∧ Hid ((0 ≤ a ∧ a ≤ 10) ∧ sesFrom a (l.drop k) = b0) ∧ Below w.heap.size w wr) (fun _ _ i _ => n - (intOf i).toNat)
 case atStart => exact ⟨0, 1, by omega, rfl, rfl, ⟨by omega, HE0.out⟩, Below.refl _ _⟩
 case round =>
  obtain ⟨k, a, hk, rfl, rfl, HA, hb⟩ := hrel
  have HB1 : Hid (Below w.heap.size w wr) := hb
  clear hb
  by_cases hlt : k < n
  ·have q4 : (k : Int) < (n : Int) := by omega
   obtain ⟨g, off, rfl, hg, ha0, ha1, ha2, ha3, ha4, ha5⟩ := HL.out k hlt
   have hgw : g < w.heap.size := Nat.lt_of_lt_of_le hg HB.out
   rw [← HB1.out.cell (p := ⟨_, _, none⟩) hgw] at ha0
   rw [← HB1.out.cell (p := ⟨_, _, none⟩) hgw] at ha1
   rw [← HB1.out.cell (p := ⟨_, _, none⟩) hgw] at ha2
   rw [← HB1.out.cell (p := ⟨_, _, none⟩) hgw] at ha3
   rw [← HB1.out.cell (p := ⟨_, _, none⟩) hgw] at ha4
   rw [← HB1.out.cell (p := ⟨_, _, none⟩) hgw] at ha5
   have hdd := HDT.out k hlt
   have hd := HD.out k hlt a
   rw [HA.out.2] at hd
   generalize l.getD k default = z at *
   obtain ⟨xc, xs, xo, xi, xm, xd⟩ := z
   simp only [Ses.ans] at ha0 ha1 ha2 ha3 ha4 ha5 hd hdd
   have cA := fun wx => implAnswerOk ⟨xo, xi, xm, xd⟩ wx hdd
   unfold vAns at cA
   simp only at cA
   have H0 : Hid (b0 = _) := hd
   have hsz := HB1.out.size
   obtain ⟨X, hX⟩ : ∃ X, X = wr.alloc (.cells #[.int .i64 xc, .int .i64 xs, .int .i64 xo, .int .i64 xi, .int .i64 xm, .string xd] 53) := ⟨_, rfl⟩
   have BX : Hid (Below w.heap.size w X) := by rw [hX]; exact HB1.out.alloc hsz _
   have KX : Hid (Blk X wr.heap.size #[.int .i64 xc, .int .i64 xs, .int .i64 xo, .int .i64 xi, .int .i64 xm, .string xd] 53) := by unfold Hid; rw [hX]; exact Blk.new wr _ _
   clear hd hsz hdd
   have cN := fun wx => inI xc a 4 wx
   have cS := fun wx => inI xs 1 1000000 wx
   have hi1 : Hid (inRg xc a 4 = true → a ≤ xc ∧ xc ≤ 4) := fun h => inRg_true.1 h
   obtain ⟨p, hp⟩ : ∃ p, p = wr.heap.size := ⟨_, rfl⟩
   rw [← hp] at KX
   cases hc : inRg xc a 4 <;> rw [hc] at cN H0
   ·go_wp2_with fail
    refine (cN _).mono ?_
    rintro e w' ⟨rfl, rfl⟩
    go_wp2_with fail
    rw [← hX]
    go_ret
    exact ⟨by rw [H0.out]; rfl, BX.out⟩
   ·cases hc2 : inRg xs 1 1000000 <;> rw [hc2] at cS H0
    ·go_wp2_with fail
     refine (cN _).mono ?_
     rintro e w' ⟨rfl, rfl⟩
     go_wp2_with fail
     refine (cS _).mono ?_
     rintro e w' ⟨rfl, rfl⟩
     go_wp2_with fail
     rw [← hX]
     go_ret
     exact ⟨by rw [H0.out]; rfl, BX.out⟩
    ·go_wp2_with fail
     refine (cN _).mono ?_
     rintro e w' ⟨rfl, rfl⟩
     go_wp2_with fail
     refine (cS _).mono ?_
     rintro e w' ⟨rfl, rfl⟩
     go_wp2_with fail
     rw [← hX]
     rw [← hp]
     clear hX hp
     refine (cA _).mono ?_
     rintro e X2 ⟨rfl, hb2⟩
     have B2 : Hid (Below w.heap.size w X2) := BX.out.trans (hb2.mono BX.out.size)
     have e0 := (KX.out.on hb2 KX.out.lt).cell 0 _ rfl
     clear hb2
     cases hc3 : ansOk ⟨xo, xi, xm, xd⟩ <;> rw [hc3] at H0
     ·go_wp2_with fail
      go_ret
      exact ⟨by rw [H0.out]; rfl, B2.out⟩
     ·have e9 : IntKind.i64.wrap (xc + 1) = xc + 1 := by rw [IntKind.wrap_i64]; have := HA.out.1; have := hi1.out hc; omega
      have e8 : wrap64 (xc + 1) = xc + 1 := by unfold wrap64; have := HA.out.1; have := hi1.out hc; omega
      go_wp2_with fail
      go_roundw
      case rel => exact ⟨k + 1, xc + 1, by omega, by go_num, rfl, ⟨by have := HA.out.1; have := hi1.out hc; omega, by rw [H0.out]; rfl⟩, B2.out⟩
      case measure => simp [intOf]; omega
  ·obtain rfl : k = n := by omega
   have hz := HA.out.2
   rw [HE.out] at hz
   have HZ : Hid (true = b0) := hz
   clear hz
   go_wp2_with fail
   go_ret
   exact ⟨by rw [← HZ.out]; rfl, HB1.out⟩
theorem zeroI (sf : Int) (nc cc nf cf : Nat) (Ac Af : Option Addr) (w : World) :
  Calls Tryz.prog 70 #[.agg #[.int .i64 sf, .slice Ac nc cc, .slice Af nf cf]] w fun e w' => e = .returned (.bool (decide (sf = 0) && decide (nc = 0) && decide (nf = 0))) ∧ Below w.heap.size w w' := by
 have BX : Hid (∀ b : Obj, Below w.heap.size w (w.alloc b)) := fun b => (Below.refl _ w).alloc (Nat.le_refl _) _
 by_cases z1 : sf = 0
 ·subst z1
  by_cases z2 : nc = 0
  ·have e2 : ((nc : Int) == 0) = true := by simp; omega
   by_cases z3 : nf = 0
   ·have e3 : ((nf : Int) == 0) = true := by simp; omega
    rw [decide_eq_true rfl, decide_eq_true z2, decide_eq_true z3]
    clear z2 z3
    go_enter Tryz.func70, Tryz.ntmps70
    go_wp2_with fail
    go_ret
    exact ⟨rfl, BX.out _⟩
   ·have e3 : ((nf : Int) == 0) = false := by simp; omega
    rw [decide_eq_true rfl, decide_eq_true z2, decide_eq_false z3]
    clear z2 z3
    go_enter Tryz.func70, Tryz.ntmps70
    go_wp2_with fail
    go_ret
    exact ⟨rfl, BX.out _⟩
  ·have e2 : ((nc : Int) == 0) = false := by simp; omega
   rw [decide_eq_true rfl, decide_eq_false z2]
   clear z2
   go_enter Tryz.func70, Tryz.ntmps70
   go_wp2_with fail
   go_ret
   exact ⟨rfl, BX.out _⟩
 ·have e1 : (sf == 0) = false := by simpa using z1
  rw [decide_eq_false z1]
  clear z1
  go_enter Tryz.func70, Tryz.ntmps70
  go_wp2_with fail
  go_ret
  exact ⟨rfl, BX.out _⟩
set_option maxRecDepth 20000 in
set_option maxHeartbeats 8000000 in
theorem implMetaOk (x : Sta) (v : Value) (w : World) (B : Nat) (hv : StaV w B v x) (hs : StShort x) (hB : B ≤ w.heap.size) :
  Calls Tryz.prog 30 #[v] w fun e w' => e = .returned (.bool (metaB x)) ∧ Below w.heap.size w w' := by
 obtain ⟨Ab, nb, cb, Ac, nc, cc, Af, nf, cf, As, ns, cs, rfl⟩ := hv.shape
 have HV : Hid (StaV w B (vSt x (.slice Ab nb cb) (.slice Ac nc cc) (.slice Af nf cf) (.slice As ns cs)) x) := hv
 obtain ⟨hb0, he0, hs0⟩ := hv.parts
 have HB : Hid (B ≤ w.heap.size) := hB
 have HS : Hid (StShort x) := hs
 have LB : Hid (Lies w B 2 (.slice Ab nb cb) (ptR x.bks)) := hb0
 have LE : Hid (EngV w B (.agg #[.int .i64 x.eng.floor, .slice Ac nc cc, .slice Af nf cf]) x.eng) := he0
 have LQ : Hid (Lies w B 6 (.slice As ns cs) (sesR x.ses)) := hs0
 have hnb : nb = x.bks.length := by have := hb0.room.1; rw [ptR_length] at this; exact this
 have hnc : nc = x.eng.cache.length ∧ nf = x.eng.files.length := by
  obtain ⟨vc', vf', e, h1, h2⟩ := he0
  unfold vE at e
  simp only [Value.agg.injEq, Array.mk.injEq, List.cons.injEq, true_and, and_true] at e
  obtain ⟨rfl, rfl⟩ := e
  obtain ⟨A1, c1, e1, _⟩ := h1.look
  obtain ⟨A2, c2, e2, _⟩ := st_look h2
  cases e1
  cases e2
  exact ⟨rfl, rfl⟩
 have hns : ns = x.ses.length := by have := hs0.room.1; rw [sesR_length] at this; exact this
 clear hv hb0 he0 hs0 hB hs
 have HE : Hid (metaB x = (inRg x.hold 0 100000 && inRg x.mark 0 1099511627776 && decide (nb ≤ 12) && bokFrom 0 x.bks && firstB x.mark x.bks && (decide (x.eng.floor = 0) && decide (nc = 0) && decide (nf = 0)))) := by
  unfold Hid metaB zeroB
  rw [hnb, hnc.1, hnc.2]
 have HN : Hid (nb = x.bks.length ∧ nc ≤ 1048576 ∧ nf ≤ 1048576 ∧ nb ≤ 1048576) := ⟨hnb, by rw [hnc.1]; exact HS.out.2.1.1.1, by rw [hnc.2]; exact HS.out.2.1.2.2.1, by rw [hnb]; exact HS.out.1⟩
 clear hnb hnc hns
 have cH := fun wx => inI x.hold 0 100000 wx
 have cM := fun wx => inI x.mark 0 1099511627776 wx
 unfold vSt
 generalize hsk : x.kind = sk at *
 generalize hsh : x.hold = sh at *
 generalize hsm : x.mark = sm at *
 generalize hsf : x.eng.floor = sf at *
 clear hsk hsh hsm hsf
 obtain ⟨X0, hX0⟩ : ∃ X0, X0 = w.alloc (.cells #[.int .i64 sk, .int .i64 sh, .int .i64 sm, .slice Ab nb cb, .int .i64 sf, .slice Ac nc cc, .slice Af nf cf, .slice As ns cs] 38) := ⟨_, rfl⟩
 have BX : Hid (Below w.heap.size w X0) := by unfold Hid; rw [hX0]; exact (Below.refl _ w).alloc (Nat.le_refl _) _
 have KX : Hid (Blk X0 w.heap.size #[.int .i64 sk, .int .i64 sh, .int .i64 sm, .slice Ab nb cb, .int .i64 sf, .slice Ac nc cc, .slice Af nf cf, .slice As ns cs] 38) := by unfold Hid; rw [hX0]; exact Blk.new w _ _
 have c1 := implBucketsOk x.bks (.slice Ab nb cb) X0 B (LB.out.on (BX.out.mono HB.out)) HS.out.1 (Nat.le_trans HB.out BX.out.size)
 have hnq := HN.out
 have q1 : (nb : Int) ≤ 1048576 := by omega
 have q2 : (nc : Int) ≤ 1048576 := by omega
 have q3 : (nf : Int) ≤ 1048576 := by omega
 clear hnq
 cases h1 : inRg sh 0 100000 <;> rw [h1] at cH HE <;> clear h1
 ·go_enter Tryz.func30, Tryz.ntmps30
  go_wp2_with fail
  refine (cH _).mono ?_
  rintro e w' ⟨rfl, rfl⟩
  go_wp2_with fail
  rw [← hX0]
  go_ret
  exact ⟨by rw [HE.out]; rfl, BX.out⟩
 cases h2 : inRg sm 0 1099511627776 <;> rw [h2] at cM HE <;> clear h2
 ·go_enter Tryz.func30, Tryz.ntmps30
  go_wp2_with fail
  refine (cH _).mono ?_
  rintro e w' ⟨rfl, rfl⟩
  go_wp2_with fail
  refine (cM _).mono ?_
  rintro e w' ⟨rfl, rfl⟩
  go_wp2_with fail
  rw [← hX0]
  go_ret
  exact ⟨by rw [HE.out]; rfl, BX.out⟩
 rcases Nat.lt_or_ge 12 nb with h3 | h3
 ·rw [show decide (nb ≤ 12) = false from decide_eq_false (by omega)] at HE
  have d3 : (12 : Int) < (nb : Int) := by omega
  clear h3
  go_enter Tryz.func30, Tryz.ntmps30
  go_wp2_with fail
  refine (cH _).mono ?_
  rintro e w' ⟨rfl, rfl⟩
  go_wp2_with fail
  refine (cM _).mono ?_
  rintro e w' ⟨rfl, rfl⟩
  go_wp2_with fail
  rw [← hX0]
  go_ret
  exact ⟨by rw [HE.out]; rfl, BX.out⟩
 rw [decide_eq_true h3] at HE
 have d3 : decide ((12 : Int) < (nb : Int)) = false := decide_eq_false (by omega)
 have H12 : Hid (nb ≤ 12) := h3
 clear h3
 go_enter Tryz.func30, Tryz.ntmps30
 go_wp2_with fail
 refine (cH _).mono ?_
 rintro e w' ⟨rfl, rfl⟩
 go_wp2_with fail
 refine (cM _).mono ?_
 rintro e w' ⟨rfl, rfl⟩
 go_wp2_with fail
 rw [← hX0]
 clear hX0
 refine c1.mono ?_
 rintro e X1 ⟨rfl, hb1⟩
 have B1 : Hid (Below w.heap.size w X1) := BX.out.trans (hb1.mono BX.out.size)
 have KX1 : Hid (Blk X1 w.heap.size #[.int .i64 sk, .int .i64 sh, .int .i64 sm, .slice Ab nb cb, .int .i64 sf, .slice Ac nc cc, .slice Af nf cf, .slice As ns cs] 38) := KX.out.on hb1 KX.out.lt
 clear hb1 c1 cH cM
 cases h4 : bokFrom 0 x.bks
 ·rw [h4] at HE
  go_wp2_with fail
  go_ret
  exact ⟨by rw [HE.out]; rfl, B1.out⟩
 rw [h4] at HE
 have k2 := KX1.out.cell 2 _ rfl
 have k3 := KX1.out.cell 3 _ rfl
 have k4 := KX1.out.cell 4 _ rfl
 have k5 := KX1.out.cell 5 _ rfl
 have k6 := KX1.out.cell 6 _ rfl
 by_cases h5 : nb = 0
 ·have HF : Hid (firstB sm x.bks = true) := by
   unfold Hid
   rw [show x.bks = [] from List.eq_nil_of_length_eq_zero (by rw [← HN.out.1]; exact h5)]
   rfl
  rw [HF.out] at HE
  have d0 : decide ((0 : Int) < (nb : Int)) = false := decide_eq_false (by omega)
  have d1 : decide (0 < nb) = false := decide_eq_false (by omega)
  have S0 : Hid (X1.drew.cell? ⟨w.heap.size, 2, none⟩ = some (.int .i64 sm) ∧ X1.drew.cell? ⟨w.heap.size, 3, none⟩ = some (.slice Ab nb cb)) := ⟨k2, k3⟩
  have B1d : Hid (Below w.heap.size w X1.drew) := B1.out.drew
  replace k4 : X1.drew.cell? _ = _ := k4
  replace k5 : X1.drew.cell? _ = _ := k5
  replace k6 : X1.drew.cell? _ = _ := k6
  clear h5 k2 k3
  go_wp2_with fail
  refine wp_region_until (fun w' => w'.cell? ⟨w.heap.size, 2, none⟩ = some (.int .i64 sm) ∧ w'.cell? ⟨w.heap.size, 3, none⟩ = some (.slice Ab nb cb)) (fun _ => false) 14 (by rfl) (by kernel_rfl) ?_
  refine tKf 0 S0.out ?_
  refine tKf 1 S0.out ?_
  refine tKf 2 S0.out ?_
  refine tKf 3 S0.out ?_
  refine tKf 4 S0.out ?_
  refine sKf 5 ?_
  refine sKf 6 ?_
  refine sKf 7 ?_
  refine sKf 8 ?_
  refine sKf 9 ?_
  refine sKf 10 ?_
  refine sKf 11 ?_
  refine sKf 12 ?_
  refine tKf 13 S0.out ?_
  refine until_done (by kernel_rfl) ?_ _
  have cz := fun wx => zeroI sf nc cc nf cf Ac Af wx
  go_wp2_with fail
  refine (cz _).mono ?_
  rintro e w' ⟨rfl, hbz⟩
  go_wp2_with fail
  go_ret
  exact ⟨by rw [HE.out]; rfl, B1d.out.trans (hbz.mono B1d.out.size)⟩
 ·have hpos : 0 < nb := by omega
  obtain ⟨gA, cA, eA, hlk⟩ := pt_look (LB.out.on (B1.out.mono HB.out))
  rw [← HN.out.1] at eA
  cases eA
  obtain ⟨g, off, rfl, hg, hz0, _⟩ := hlk 0 (by rw [← HN.out.1]; exact hpos)
  have hbk := bok_drop x.bks 0 (by rw [← HN.out.1]; exact hpos) 0
  rw [List.drop_zero, h4] at hbk
  have hin : inRg (x.bks.getD 0 default).t 0 10995116277 = true := by
   have := hbk.symm
   rw [Bool.and_eq_true, Bool.and_eq_true] at this
   exact this.1.1
  have hfirst : Hid (firstB sm x.bks = !(decide (((x.bks.getD 0 default).t + 1) * 100 ≤ sm))) := by
   unfold Hid
   cases hq : x.bks with
   | nil => rw [hq] at HN; have := HN.out.1; simp at this; omega
   | cons y l =>
    show decide (sm < (y.t + 1) * 100) = !(decide ((y.t + 1) * 100 ≤ sm))
    by_cases hh : (y.t + 1) * 100 ≤ sm
    ·rw [decide_eq_true hh, decide_eq_false (by omega)]; rfl
    ·rw [decide_eq_false hh, decide_eq_true (by omega)]; rfl
  rw [hfirst.out] at HE
  generalize (x.bks.getD 0 default).t = z at *
  have hzb := inRg_true.1 hin
  have cP := fun wx => implPast z sm wx (by omega) (by omega)
  clear hlk hbk hin hfirst hzb
  have d0 : (0 : Int) < (nb : Int) := by omega
  rw [Nat.zero_mul, Nat.add_zero] at hz0
  have S0 : Hid (X1.drew.cell? ⟨w.heap.size, 2, none⟩ = some (.int .i64 sm) ∧ X1.drew.cell? ⟨w.heap.size, 3, none⟩ = some (.slice (some ⟨g, off, none⟩) nb cb) ∧ X1.drew.cell? ⟨g, off, none⟩ = some (.int .i64 z)) := ⟨k2, k3, hz0⟩
  have B1d : Hid (Below w.heap.size w X1.drew) := B1.out.drew
  replace k4 : X1.drew.cell? _ = _ := k4
  replace k5 : X1.drew.cell? _ = _ := k5
  replace k6 : X1.drew.cell? _ = _ := k6
  clear h5 k2 k3 hz0
  generalize decide ((z + 1) * 100 ≤ sm) = bz at *
  go_wp2_with fail
  refine wp_region_until (fun w' => w'.cell? ⟨w.heap.size, 2, none⟩ = some (.int .i64 sm) ∧ w'.cell? ⟨w.heap.size, 3, none⟩ = some (.slice (some ⟨g, off, none⟩) nb cb) ∧ w'.cell? ⟨g, off, none⟩ = some (.int .i64 z)) (fun _ => false) 14 (by rfl) (by kernel_rfl) ?_
  refine tKf 0 S0.out ?_
  refine tKf 1 S0.out ?_
  refine tKf 2 S0.out ?_
  refine tKf 3 S0.out ?_
  refine tKf 4 S0.out ?_
  refine tKf 5 S0.out ?_
  refine tKf 6 S0.out ?_
  refine tKf 7 S0.out ?_
  refine tKf 8 S0.out ?_
  refine tKf 9 S0.out ?_
  refine tKf 10 S0.out ?_
  refine tKf 11 S0.out ?_
  refine uNe 12 (fun K hK => ?_)
  go_simp
  refine (cP _).mono ?_
  rintro e w' ⟨rfl, rfl⟩
  go_wp2_with fail
  refine hK.out _ _ (fun _ h => h) ?_
  clear hK K
  try simp only [Act.put, zQ1, zQ2, zQ3]
  refine tKf 13 S0.out ?_
  refine until_done (by kernel_rfl) ?_ _
  cases bz
  ·skip
   have cz := fun wx => zeroI sf nc cc nf cf Ac Af wx
   go_wp2_with fail
   refine (cz _).mono ?_
   rintro e w' ⟨rfl, hbz⟩
   go_wp2_with fail
   go_ret
   exact ⟨by rw [HE.out]; rfl, B1d.out.trans (hbz.mono B1d.out.size)⟩
  ·go_wp2_with fail
   go_ret
   exact ⟨by rw [HE.out]; rfl, B1d.out⟩
end Go.Proofs.YthhamlahdjokkaaGreatDoor
namespace Go.Proofs.YthhamlahdjokkaaGreatDoor
open Go.ChangeShapes Go.WideShapes Go.ChangeAt Go.RowKit Go.PlainAid
set_option linter.unusedVariables false
def AtR (l : List Ser) (k : ByteArray) (r : Int) : Prop := (r = -1 ∧ ∀ x ∈ l, x.key ≠ k) ∨ ∃ j : Nat, r = (j : Int) ∧ j < l.length ∧ (l.getD j default).key = k ∧ ∀ i, i < j → (l.getD i default).key ≠ k
theorem ptsAt_at {k : ByteArray} : ∀ {l : List Ser} {j : Nat}, j < l.length → (l.getD j default).key = k → (∀ i, i < j → (l.getD i default).key ≠ k) → ptsAt l k = (l.getD j default).pts
 | x :: l, 0, _, h, _ => by
  have hx : x.key = k := h
  rw [ptsAt, if_pos hx]
  rfl
 | x :: l, j + 1, hj, h, hi => by
  have hx : x.key ≠ k := hi 0 (by omega)
  rw [ptsAt, if_neg hx]
  exact ptsAt_at (l := l) (by simpa using hj) h fun i h' => hi (i + 1) (by omega)
set_option maxHeartbeats 1000000 in
theorem specAt (l : List Ser) (key : ByteArray) (v : Value) (w : World) (B : Nat) (hv : SerV w B v l) (hn : l.length ≤ 1048576) :
  Calls Tryz.prog 145 #[v, .string key] w fun e w' => (∃ r : Int, e = .returned (.int .i64 r) ∧ Hid (AtR l key r)) ∧ w = w' := by
 obtain ⟨A, cap, rfl, hl⟩ := hv.look
 have HL : Hid (∀ j, j < l.length → ∃ g off u, A = some ⟨g, off, none⟩ ∧ g < B ∧ w.cell? ⟨g, off + j * 2, none⟩ = some (.string (l.getD j default).key) ∧ w.cell? ⟨g, off + j * 2 + 1, none⟩ = some u ∧ Lies w B 2 u (ptR (l.getD j default).pts)) := hl
 have q1 : (l.length : Int) ≤ 1048576 := by omega
 clear hl hv hn
 generalize hN : l.length = n at *
 have HN : Hid (l.length = n) := hN
 clear hN
 go_enter Tryz.func145, Tryz.ntmps145
 go_wp2_with fail
 go_loop [5] (fun v5 => ∃ k : Nat, k ≤ n ∧ v5 = .int .i64 (k : Int) ∧ Hid (∀ i, i < k → (l.getD i default).key ≠ key)) (fun i => n - (intOf i).toNat)
 case atStart => exact ⟨0, by omega, rfl, fun i hi => by omega⟩
 case round =>
  obtain ⟨k, hk, rfl, HJ⟩ := hrel
  by_cases hlt : k < n
  ·have q4 : (k : Int) < (n : Int) := by omega
   obtain ⟨g, off, u, rfl, hg, e1, e2, _⟩ := HL.out k hlt
   by_cases hkey : (l.getD k default).key = key
   ·have HF : Hid (AtR l key (k : Int)) := .inr ⟨k, rfl, by rw [HN.out]; exact hlt, hkey, HJ.out⟩
    rw [hkey] at e1
    clear hkey
    go_wp2_with fail
    go_ret
    exact ⟨⟨_, rfl, HF⟩, rfl⟩
   ·have HK : Hid ((l.getD k default).key ≠ key) := hkey
    have hne := bytes_ne hkey
    clear hkey
    generalize (l.getD k default).key = xk at e1 hne
    go_wp2_with fail
    go_round
    case rel =>
     refine ⟨k + 1, by omega, by go_num, fun i hi => ?_⟩
     by_cases e : i = k
     ·rw [e]; exact HK.out
     ·exact HJ.out i (by omega)
    case measure => simp [intOf]; omega
  ·obtain rfl : k = n := by omega
   have HF : Hid (AtR l key (-1)) := .inl ⟨rfl, fun x hx => by
    obtain ⟨j, hj, rfl⟩ := List.getElem_of_mem hx
    rw [getD_at l j hj]
    exact HJ.out j (by rw [← HN.out]; exact hj)⟩
   go_wp2_with fail
   go_ret
   exact ⟨⟨_, rfl, HF⟩, rfl⟩
theorem cntS_le (l : List Ser) (h : ∀ x ∈ l, x.pts.length ≤ 1000) : ∀ k, k ≤ l.length → cntS (l.take k) ≤ 1000 * k
 | 0, _ => by simp [cntS]
 | k + 1, hk => by
  have ih := cntS_le l h k (by omega)
  have := h _ (getD_mem l k (by omega))
  rw [cntS_snoc l k (by omega)]
  omega
set_option maxHeartbeats 1000000 in
theorem specCount (l : List Ser) (v : Value) (w : World) (B : Nat) (hv : SerV w B v l) (hn : l.length ≤ 1000) (hs : ∀ x ∈ l, x.pts.length ≤ 1000) :
  Calls Tryz.prog 59 #[v] w fun e w' => e = .returned (.int .i64 (cntS l : Int)) ∧ w = w' := by
 obtain ⟨A, cap, rfl, hl⟩ := hv.look
 have HL : Hid (∀ j, j < l.length → ∃ g off u, A = some ⟨g, off, none⟩ ∧ g < B ∧ w.cell? ⟨g, off + j * 2, none⟩ = some (.string (l.getD j default).key) ∧ w.cell? ⟨g, off + j * 2 + 1, none⟩ = some u ∧ Lies w B 2 u (ptR (l.getD j default).pts)) := hl
 have HC : Hid (∀ k, k ≤ l.length → cntS (l.take k) ≤ 1000 * k) := cntS_le l hs
 have HS : Hid (∀ k, k < l.length → cntS (l.take (k + 1)) = cntS (l.take k) + (l.getD k default).pts.length) := fun k hk => cntS_snoc l k hk
 have HT : Hid (∀ k, k = l.length → cntS (l.take k) = cntS l) := fun k hk => by rw [hk, List.take_length]
 have HM : Hid (∀ k, k < l.length → (l.getD k default).pts.length ≤ 1000) := fun k hk => hs _ (getD_mem l k hk)
 have H0 : Hid (cntS (l.take 0) = 0) := by simp [Hid, cntS]
 have q1 : (l.length : Int) ≤ 1000 := by omega
 clear hl hv hs
 generalize hN : l.length = n at *
 clear hN
 go_enter Tryz.func59, Tryz.ntmps59
 go_wp2_with fail
 go_loop [3, 4] (fun v3 v4 => ∃ k : Nat, k ≤ n ∧ v4 = .int .i64 (k : Int) ∧ v3 = .int .i64 (cntS (l.take k) : Int)) (fun _ i => n - (intOf i).toNat)
 case atStart => exact ⟨0, by omega, rfl, by rw [H0.out]; rfl⟩
 case round =>
  obtain ⟨k, hk, rfl, rfl⟩ := hrel
  by_cases hlt : k < n
  ·have q4 : (k : Int) < (n : Int) := by omega
   obtain ⟨g, off, u, rfl, hg, e1, e2, hu⟩ := HL.out k hlt
   obtain ⟨A', c', rfl, _⟩ := pt_look hu
   have h1 := HC.out k hk
   have h2 := HM.out k hlt
   have h3 := HS.out k hlt
   have HE : Hid (cntS (l.take (k + 1)) = cntS (l.take k) + (l.getD k default).pts.length) := h3
   clear hu h3
   generalize cntS (l.take k) = c at *
   generalize (l.getD k default).pts.length = p at *
   have q5 : (c : Int) ≤ 1000000 := by omega
   have q6 : (p : Int) ≤ 1000 := by omega
   have w2 : wrap64 ((c : Int) + (p : Int)) = (c : Int) + (p : Int) := by unfold wrap64; omega
   go_wp2_with fail
   go_round
   case rel => exact ⟨k + 1, by omega, by go_num, by rw [HE.out]; go_num⟩
   case measure => simp [intOf]; omega
  ·obtain rfl : k = n := by omega
   have HE := HT.out k rfl
   go_wp2_with fail
   go_ret
   exact ⟨rfl, rfl⟩
end Go.Proofs.YthhamlahdjokkaaGreatDoor
