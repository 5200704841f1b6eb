/- EgL1 -/
import Derived.Test.YtpmgndgkmffcnaaGreatDoorQd16
import Derived.Test.YtpmgndgkmffcnaaGreatDoorQd17
import Derived.Test.YtpmgndgkmffcnaaGreatDoorQd48
import Derived.Test.YtpmgndgkmffcnaaGreatDoorQd5
import Derived.Test.YtpmgndgkmffcnaaGreatDoorQd4
import Derived.WalkKit
import Derived.ProofKit
import Derived.OpenShut
import Derived.Below
import Derived.WalkSmall
import Derived.BigQuiet
import Derived.Deep.QuietTactic
import Derived.Deep.RegionWith
import Derived.Handy
namespace Go.Proofs.YtpmgndgkmffcnaaGreatDoor
open Go.ChangeShapes Go.WideShapes Go.ChangeAt Go.RowKit Go.PlainAid
set_option linter.unusedVariables false
def wtT (l : List ByteArray) : Nat := (l.map fun s => s.size).sum
theorem wtT_snoc (l : List ByteArray) (k : Nat) (h : k < l.length) : wtT (l.take (k + 1)) = wtT (l.take k) + (l.getD k default).size := by
 unfold wtT
 rw [take_getD l k h, List.map_append, List.sum_append]
 simp
theorem wtT_mem (l : List ByteArray) (x : ByteArray) (h : x ∈ l) : x.size ≤ wtT l := by
 induction l with
 | nil => cases h
 | cons y l ih =>
  unfold wtT at ih ⊢
  rw [List.map_cons, List.sum_cons]
  rcases List.mem_cons.1 h with rfl | h
  ·omega
  ·have := ih h
   omega
set_option maxHeartbeats 1000000 in
theorem szStringS (l : List ByteArray) (v : Value) (left : Int) (w : World) (B : Nat) (hv : Lies w B 1 v (stR l)) (hn : l.length ≤ maxLen) (hm : ∀ s ∈ l, s.size ≤ maxLen) (h0 : 0 ≤ left) (h1 : left ≤ 1048576) :
  Calls Tryz.prog 35 #[v, .int .i64 left] w fun e w' => ∃ r : Int, e = .returned (.int .i64 r) ∧ (r = -1 ∨ 0 ≤ r ∧ r + ((l.length + wtT l : Nat) : Int) = left) ∧ w = w' := by
 obtain ⟨A, cap, rfl, hl⟩ := st_look hv
 have HL : Hid (∀ j, j < l.length → ∃ g off, A = some ⟨g, off, none⟩ ∧ g < B ∧ w.cell? ⟨g, off + j, none⟩ = some (.string (l.getD j default))) := hl
 have HS : Hid (∀ k, k < l.length → wtT (l.take (k + 1)) = wtT (l.take k) + (l.getD k default).size) := fun k hk => wtT_snoc l k hk
 have HM : Hid (∀ k, k < l.length → (l.getD k default).size ≤ 9223372036854775807) := fun k hk => by have := hm _ (getD_mem l k hk); unfold maxLen at this; omega
 have HT : Hid (wtT (l.take l.length) = wtT l) := by unfold Hid; rw [List.take_length]
 unfold maxLen at hn
 have q1 : (l.length : Int) ≤ 9223372036854775807 := by omega
 clear hl hv hm
 generalize hN : l.length = n at *
 clear hN
 have w2 : wrap64 (left - (n : Int)) = left - (n : Int) := by unfold wrap64; omega
 by_cases hs : left < (n : Int)
 ·have q2 : left - (n : Int) < 0 := by omega
  go_enter Tryz.func35, Tryz.ntmps35
  go_wp2_with fail
  go_ret
  exact ⟨-1, rfl, .inl rfl, rfl⟩
 ·have q2 : 0 ≤ left - (n : Int) := by omega
  have q3 : decide (left - (n : Int) < 0) = false := decide_eq_false (by omega)
  have HQ : Hid (0 ≤ left - (n : Int)) := q2
  go_enter Tryz.func35, Tryz.ntmps35
  go_wp2_with fail
  clear q2 q3 w2
  go_loop [1, 5] (fun v1 v5 => ∃ (k : Nat) (r : Int), k ≤ n ∧ v5 = .int .i64 (k : Int) ∧ v1 = .int .i64 r ∧ 0 ≤ r ∧ r + ((n + wtT (l.take k) : Nat) : Int) = left) (fun _ i => n - (intOf i).toNat)
  case atStart => exact ⟨0, left - (n : Int), by omega, rfl, rfl, HQ.out, by simp [wtT]⟩
  case round =>
   obtain ⟨k, r, hk, rfl, rfl, hr0, hr⟩ := hrel
   have HR : Hid (r + ((n + wtT (l.take k) : Nat) : Int) = left) := hr
   have q9 : r ≤ 1048576 := by omega
   clear hr
   by_cases hlt : k < n
   ·have q4 : (k : Int) < (n : Int) := by omega
    obtain ⟨g, off, rfl, hg, hc0⟩ := HL.out k hlt
    have HW : Hid (wtT (l.take (k + 1)) = wtT (l.take k) + (l.getD k default).size) := HS.out k hlt
    have hmk := HM.out k hlt
    generalize l.getD k default = x at *
    generalize hz : x.size = t at *
    have q10 : (t : Int) ≤ 9223372036854775807 := by omega
    have w3 : wrap64 (r - (t : Int)) = r - (t : Int) := by unfold wrap64; omega
    by_cases hlow : r < (t : Int)
    ·have q11 : r - (t : Int) < 0 := by omega
     go_wp2_with fail
     go_ret
     exact ⟨-1, rfl, .inl rfl, rfl⟩
    ·have q11 : decide (r - (t : Int) < 0) = false := decide_eq_false (by omega)
     have q12 : 0 ≤ r - (t : Int) := by omega
     have HQ2 : Hid (0 ≤ r - (t : Int)) := q12
     go_wp2_with fail
     go_round
     case rel => exact ⟨k + 1, r - (t : Int), by omega, by go_num, rfl, HQ2.out, by have := HR.out; rw [HW.out]; omega⟩
     case measure => simp [intOf]; omega
   ·obtain rfl : k = n := by omega
    go_wp2_with fail
    go_ret
    exact ⟨r, rfl, .inr ⟨hr0, by have := HR.out; rw [HT.out] at this; exact this⟩, rfl⟩
def EFits (e : Eng) : Prop := SFits e.cache ∧ e.files.length ≤ maxLen ∧ ∀ s ∈ e.files, s.size ≤ maxLen
def wtE (e : Eng) : Nat := e.cache.length + wtS e.cache + (e.files.length + wtT e.files)
theorem EFits.short {e : Eng} {n : Nat} (h : wtE e ≤ n) (hn : n ≤ 1048576) : EShort e := by
 unfold wtE at h
 refine ⟨SShort.of (n := n) (by omega) hn, fun x hx => ?_, by omega, fun s hs => ?_⟩
 ·have := wtS_mem e.cache x hx
  unfold wtS1 at this
  unfold maxLen
  omega
 ·have := wtT_mem e.files s hs
  omega
set_option maxHeartbeats 1000000 in
theorem szEngine (e : Eng) (v : Value) (left : Int) (w : World) (B : Nat) (hv : EngV w B v e) (hf : EFits e) (h0 : 0 ≤ left) (h1 : left ≤ 1048576) (hB : B ≤ w.heap.size) :
  Calls Tryz.prog 9 #[v, .int .i64 left] w fun b w' => ∃ r : Int, b = .returned (.int .i64 r) ∧ Hid (r = -1 ∨ 0 ≤ r ∧ r + (wtE e : Int) = left) ∧ Below w.heap.size w w' := by
 obtain ⟨vc, vf, rfl, hc, hl⟩ := hv
 unfold vE
 obtain ⟨Ac, cc, rfl, _⟩ := hc.look
 obtain ⟨A, cap, rfl, _⟩ := st_look hl
 have HF : Hid (EFits e) := hf
 have HLs : Hid (Lies w B 1 (.slice A e.files.length cap) (stR e.files)) := hl
 have HB : Hid (B ≤ w.heap.size) := hB
 have HW : Hid (wtE e = e.cache.length + wtS e.cache + (e.files.length + wtT e.files)) := rfl
 obtain ⟨X0, hX0⟩ : ∃ X0, X0 = w.alloc (.cells #[.int .i64 e.floor, .slice Ac e.cache.length cc, .slice A e.files.length cap] 25) := ⟨_, rfl⟩
 have BX : Hid (Below w.heap.size w X0) := by unfold Hid; rw [hX0]; exact (Below.refl _ w).alloc (Nat.le_refl _) _
 have KX : Hid (Blk X0 w.heap.size #[.int .i64 e.floor, .slice Ac e.cache.length cc, .slice A e.files.length cap] 25) := by unfold Hid; rw [hX0]; exact Blk.new w _ _
 have c1 := szSeriesS e.cache _ left X0 B (hc.on (BX.out.mono hB)) hf.1 h0 h1 (Nat.le_trans hB BX.out.size)
 have k1 := KX.out.cell 1 _ rfl
 clear hc hl hf hB
 generalize e.floor = f at *
 generalize hcl : e.cache.length = cl at *
 have q1 : left ≤ 1048576 := h1
 go_enter Tryz.func9, Tryz.ntmps9
 go_wp2_with fail
 rw [← hX0]
 clear hX0
 refine c1.mono ?_
 rintro b X1 ⟨r, rfl, hr, hb1⟩
 have B1 : Hid (Below w.heap.size w X1) := BX.out.trans (hb1.mono BX.out.size)
 have K1 := KX.out.on hb1 KX.out.lt
 have m2 := K1.cell 2 _ rfl
 clear hb1 c1 k1 K1
 rcases hr with rfl | ⟨hr0, hr1⟩
 ·go_wp2_with fail
  go_ret
  exact ⟨-1, rfl, .inl rfl, B1.out⟩
 ·have q2 : decide (r < 0) = false := decide_eq_false (by omega)
  have HR1 : Hid (r + ((cl + wtS e.cache : Nat) : Int) = left) := hr1
  have q3 : r ≤ 1048576 := by omega
  have c2 := szStringS e.files _ r X1 B (HLs.out.on (B1.out.mono HB.out)) HF.out.2.1 HF.out.2.2 hr0 q3
  clear hr1
  generalize hfl : e.files.length = fl at *
  go_wp2_with fail
  refine c2.mono ?_
  rintro b X2 ⟨r2, rfl, hr2, rfl⟩
  rcases hr2 with rfl | ⟨hr20, hr21⟩
  ·go_wp2_with fail
   go_ret
   exact ⟨-1, rfl, .inl rfl, B1.out⟩
  ·have q4 : decide (r2 < 0) = false := decide_eq_false (by omega)
   have HR2 : Hid (r2 + ((fl + wtT e.files : Nat) : Int) = r) := hr21
   clear hr21 c2
   go_wp2_with fail
   go_ret
   exact ⟨r2, rfl, .inr ⟨hr20, by have := HR1.out; have := HR2.out; rw [HW.out]; omega⟩, B1.out⟩
def stZ : List Value := [.string ⟨#[]⟩]
theorem st_made (n : Nat) : madeCells #[.string ⟨#[]⟩] (n * 1) = (List.replicate n stZ).flatten.toArray := by
 apply Array.ext'
 rw [List.toList_toArray]
 apply List.ext_getElem?
 intro k
 have hz : ∀ r ∈ List.replicate n stZ, r.length = 1 := fun r hr => by rw [List.eq_of_mem_replicate hr]; rfl
 by_cases hk : k < n * 1
 ·have hj : k < n := by omega
  have := flat_at 1 (List.replicate n stZ) hz k 0 (by simpa using hj) (by omega)
  rw [Nat.mul_one, Nat.add_zero] at this
  have hr : (List.replicate n stZ)[k]'(by simpa using hj) = stZ := by simp
  rw [this, hr]
  have hs : (madeCells #[.string ⟨#[]⟩] (n * 1)).toList[k]? = some (#[Value.string ⟨#[]⟩].getD (k % 1) default) := by simp [madeCells, hj]
  rw [hs, Nat.mod_one]
  rfl
 ·have hl : (List.replicate n stZ).flatten.length = n * 1 := by rw [flat_length 1 _ hz]; simp
  have hr : (List.replicate n stZ).flatten[k]? = none := List.getElem?_eq_none (by omega)
  rw [hr]
  apply List.getElem?_eq_none
  rw [Array.length_toList, size_madeCells]
  omega
def laidT (l : List ByteArray) (k : Nat) : List ByteArray := l.take k ++ List.replicate (l.length - k) ⟨#[]⟩
theorem laidT_length (l : List ByteArray) (k : Nat) (h : k ≤ l.length) : (laidT l k).length = l.length := by unfold laidT; rw [List.length_append, List.length_take, List.length_replicate]; omega
theorem laidT_set (l : List ByteArray) (k : Nat) (h : k < l.length) : (laidT l k).set k (l.getD k default) = laidT l (k + 1) := by
 unfold laidT
 rw [List.set_append_right _ _ (by rw [List.length_take]; omega), List.length_take, Nat.min_eq_left (by omega), Nat.sub_self, take_getD l k h]
 obtain ⟨m, hm⟩ : ∃ m, l.length - k = m + 1 := ⟨l.length - k - 1, by omega⟩
 rw [hm, show l.length - (k + 1) = m by omega, List.replicate_succ, List.set_cons_zero, List.append_assoc]
 rfl
theorem laidT_all (l : List ByteArray) : laidT l l.length = l := by unfold laidT; rw [List.take_length, Nat.sub_self]; simp
set_option maxHeartbeats 2000000 in
theorem toStringS (l : List ByteArray) (v : Value) (w : World) (B : Nat) (hv : Lies w B 1 v (stR l)) (hn : l.length ≤ 1048576) (hB : B ≤ w.heap.size) :
  Calls Tryz.prog 42 #[v] w fun e w' => (∃ u, e = .returned u ∧ Strs w' w.heap.size u l) ∧ Below w.heap.size w w' := by
 obtain ⟨A, cap, rfl, hl⟩ := st_look hv
 have HL : Hid (∀ wx, Below w.heap.size w wx → ∀ j, j < l.length → ∃ g off, A = some ⟨g, off, none⟩ ∧ g < B ∧ wx.cell? ⟨g, off + j, none⟩ = some (.string (l.getD j default))) := fun wx hx => st_cells (hv.on (hx.mono hB))
 have HSt : Hid (∀ k, k < l.length → (laidT l k).set k (l.getD k default) = laidT l (k + 1)) := laidT_set l
 have HLe : Hid (∀ k, k ≤ l.length → (laidT l k).length = l.length) := laidT_length l
 have HA : Hid (laidT l l.length = l) := laidT_all l
 have q1 : (l.length : Int) ≤ 1048576 := by omega
 clear hl hv hB
 obtain ⟨i0, hi, hz0, hz1, hz2⟩ := info_parts infoStr
 have hmk : ∀ wx : World, (Instr.makeSlice 23 (.int .i64 (l.length : Int)) (.int .i64 (l.length : Int))).run Tryz.prog wx = .ok (.slice (some ⟨wx.heap.size, 0, none⟩) l.length l.length) (wx.alloc (.cells (List.replicate l.length stZ).flatten.toArray 9)) := fun wx => by
  have h := run_make (P := Tryz.prog) wx 23 9 i0 _ Tryz.underlying23 hi hz0 .i64 .i64 (l.length : Int) (l.length : Int) (by omega) (by omega) (by rw [hz2]; omega) (by omega)
  rw [hz1] at h
  have e : (Value.string ⟨#[]⟩).cells = #[.string ⟨#[]⟩] := rfl
  rw [e, Int.toNat_natCast, st_made] at h
  exact h
 clear hi hz0 hz1 hz2
 have OM : Hid (Strs (w.alloc (.cells (List.replicate l.length stZ).flatten.toArray 9)) w.heap.size (.slice (some ⟨w.heap.size, 0, none⟩) l.length l.length) (laidT l 0)) := by
  have e : laidT l 0 = List.replicate l.length ⟨#[]⟩ := by unfold laidT; simp
  have e2 : strCells (List.replicate l.length ⟨#[]⟩) = (List.replicate l.length stZ).flatten := by
   rw [← stR_flat]
   unfold stR stC stZ
   rw [List.map_replicate]
  unfold Hid Strs
  rw [e, e2, List.length_replicate]
  have hfl : (List.replicate l.length stZ).flatten.length = l.length := by
   rw [flat_length 1 _ (fun r hr => by rw [List.eq_of_mem_replicate hr]; rfl)]; simp
  exact World.ownsRow_lit w _ l.length (Nat.le_refl _) (by unfold maxLen; omega) (by rw [List.size_toArray, hfl]; omega)
 have BM : Hid (Below w.heap.size w (w.alloc (.cells (List.replicate l.length stZ).flatten.toArray 9))) := (Below.refl _ w).alloc (Nat.le_refl _) _
 generalize hN : l.length = n at *
 clear hN
 go_enter Tryz.func42, Tryz.ntmps42
 go_wp2_with fail
 go_loopw [4] (fun v4 wr => ∃ k : Nat, k ≤ n ∧ v4 = .int .i64 (k : Int) ∧ Strs wr w.heap.size (.slice (some ⟨w.heap.size, 0, none⟩) n n) (laidT l k) ∧ Below w.heap.size w wr) (fun i _ => n - (intOf i).toNat)
 case atStart => exact ⟨0, by omega, rfl, OM.out, BM.out⟩
 case round =>
  obtain ⟨k, hk, rfl, hS, hb⟩ := hrel
  have HS : Hid (Strs wr w.heap.size (.slice (some ⟨w.heap.size, 0, none⟩) n n) (laidT l k)) := hS
  have HBr : Hid (Below w.heap.size w wr) := hb
  clear hS hb
  by_cases hlt : k < n
  ·have q4 : (k : Int) < (n : Int) := by omega
   obtain ⟨g, off, rfl, hg, e1⟩ := HL.out wr HBr.out k hlt
   have hll := HLe.out k hk
   have hS : Strs wr w.heap.size (.slice (some ⟨w.heap.size, 0, none⟩) (laidT l k).length n) (laidT l k) := by rw [hll]; exact HS.out
   have s0 := hS.cell k (by omega)
   have f0 := hS.frozen k
   have hS2 := hS.stored k (l.getD k default)
   rw [hll, HSt.out k hlt] at hS2
   generalize hx : l.getD k default = x at *
   have HS2 : Hid (Strs (wr.setCell ⟨w.heap.size, k, none⟩ (.string x)) w.heap.size (.slice (some ⟨w.heap.size, 0, none⟩) n n) (laidT l (k + 1))) := hS2
   have HB2 : Hid (Below w.heap.size w (wr.setCell ⟨w.heap.size, k, none⟩ (.string x))) := HBr.out.setCell (Nat.le_refl _) _
   generalize (laidT l k)[k] = y at *
   clear hS hS2 hll hx
   go_wp2_with fail
   go_roundw
   case rel => exact ⟨k + 1, by omega, by go_num, HS2.out, HB2.out⟩
   case measure => simp [intOf]; omega
  ·obtain rfl : k = n := by omega
   go_wp2_with fail
   go_ret
   exact ⟨⟨_, rfl, by have := HS.out; rw [HA.out] at this; exact this⟩, HBr.out⟩
set_option maxHeartbeats 1000000 in
theorem mark_allG (k base : Nat) (v : Value) (l : List ByteArray) (w : World) (hv : Strs w base v l) (hl : l.length ≤ 2097152) (h1 : 1 ≤ k) (h2 : k ≤ 100000000) (hbase : base ≤ w.heap.size) :
  Calls Tryz.prog 50 #[v, .int .i64 (k : Int)] w fun e w' => e = .returned (.int .i64 ((k + l.length : Nat) : Int)) ∧ Strs w' base v (marks k l.length) ∧ Below base w w' ∧ (∀ b, b < w.heap.size → v.ownBlock ≠ some b → w'.heap[b]? = w.heap[b]?) := by
 by_cases h0 : l.length = 0
 ·obtain ⟨A, ca, rfl⟩ : ∃ A ca, v = .slice A 0 ca := by
   rcases hv.form with ⟨rfl, _⟩ | ⟨g, c, rfl, _⟩
   ·exact ⟨_, _, rfl⟩
   ·rw [h0]; exact ⟨_, _, rfl⟩
  have HV : Hid (Strs w base (.slice A 0 ca) l) := hv
  have HZ : Hid (l.length = 0) := h0
  clear hv h0 hl
  go_enter Tryz.func50, Tryz.ntmps50
  go_wp2
  go_loop [1, 5] (fun v1 v5 => v1 = .int .i64 (k : Int) ∧ v5 = .int .i64 0) (fun _ _ => 0)
  case atStart => exact ⟨rfl, rfl⟩
  case round =>
   obtain ⟨rfl, rfl⟩ := hrel
   go_wp2
   go_ret
   have e := List.eq_nil_of_length_eq_zero HZ.out
   have hv := HV.out
   subst e
   exact ⟨rfl, hv, Below.refl _ _, fun _ _ _ => rfl⟩
 ·obtain ⟨g, ca, rfl, hg, _⟩ : ∃ g cap, v = .slice (some ⟨g, 0, none⟩) l.length cap ∧ base ≤ g ∧ g < w.heap.size := by
   rcases hv.form with ⟨rfl, rfl⟩ | h
   ·exact absurd rfl h0
   ·exact h
  have HV : Hid (Strs w base (.slice (some ⟨g, 0, none⟩) l.length ca) l) := hv
  have q1 : (l.length : Int) ≤ 2097152 := by omega
  have q3 : (k : Int) ≤ 100000000 := by omega
  clear hv hl
  generalize hn : l.length = n at *
  have HN : Hid (l.length = n) := hn
  have HG : Hid (base ≤ g) := hg
  clear hn hg
  go_enter Tryz.func50, Tryz.ntmps50
  go_wp2
  go_loopw [1, 5] (fun v1 v5 wr => ∃ j : Nat, j ≤ n ∧ v5 = .int .i64 j ∧ v1 = .int .i64 ((k + j : Nat) : Int) ∧ Strs wr base (.slice (some ⟨g, 0, none⟩) n ca) (marked k l j) ∧ Below base w wr ∧ (∀ b, b < w.heap.size → (Value.slice (some ⟨g, 0, none⟩) n ca).ownBlock ≠ some b → wr.heap[b]? = w.heap[b]?)) (fun _ i _ => n - (intOf i).toNat)
  case atStart => exact ⟨0, by omega, rfl, rfl, by rw [marked_zero]; exact HV.out, Below.refl _ _, fun _ _ _ => rfl⟩
  case round =>
   obtain ⟨j, hj, rfl, rfl, hS, hB, hE⟩ := hrel
   have HE : Hid (∀ b, b < w.heap.size → (Value.slice (some ⟨g, 0, none⟩) n ca).ownBlock ≠ some b → wr.heap[b]? = w.heap[b]?) := hE
   have HS : Hid (Strs wr base (.slice (some ⟨g, 0, none⟩) n ca) (marked k l j)) := hS
   have HB : Hid (Below base w wr) := hB
   clear hS hB hE
   by_cases hlt : j < n
   ·have q2 : (j : Int) < (n : Int) := by omega
    have hml : (marked k l j).length = n := by rw [marked_length _ _ _ (by rw [HN.out]; exact hj), HN.out]
    have c1 := markText (k + j) wr (by omega) (by omega)
    go_wp2_with fail
    refine c1.mono ?_
    rintro e w1 ⟨rfl, hb1⟩
    have hS1 := HS.out.on hb1
    rw [← hml] at hS1
    have e1 := hS1.cell j (by rw [hml]; exact hlt)
    have e2 := hS1.frozen j
    have hS2 := hS1.stored j (mark (k + j))
    rw [hml, marked_set _ _ _ (by rw [HN.out]; exact hlt)] at hS2
    have HS2 : Hid (Strs (w1.setCell ⟨g, j, none⟩ (.string (mark (k + j)))) base (.slice (some ⟨g, 0, none⟩) n ca) (marked k l (j + 1))) := hS2
    have hsz := HB.out.size
    have HB1 : Hid (Below base w w1) := HB.out.trans (hb1.mono (by omega))
    have E2 : Hid (∀ b, b < w.heap.size → (Value.slice (some ⟨g, 0, none⟩) n ca).ownBlock ≠ some b → (w1.setCell ⟨g, j, none⟩ (.string (mark (k + j)))).heap[b]? = w.heap[b]?) := fun b h1 h2 => by
     rw [Below.heap_setCell _ _ _ _ (show b ≠ g from fun e => h2 (by rw [e]; rfl)), hb1.block b (Nat.lt_of_lt_of_le h1 HB.out.size)]
     exact HE.out b h1 h2
    generalize (marked k l j)[j] = x at *
    clear hS1 hS2 hml
    go_wp2_with fail
    go_roundw
    case rel => exact ⟨j + 1, by omega, by go_num, by go_num, HS2.out, HB1.out.setCell HG.out _, E2.out⟩
    case measure => simp [intOf]; omega
   ·have hkk : j = n := by omega
    subst hkk
    go_wp2
    go_ret
    refine ⟨rfl, ?_, HB.out, HE.out⟩
    have := HS.out
    rw [← HN.out, marked_all] at this
    rw [HN.out] at this
    exact this
end Go.Proofs.YtpmgndgkmffcnaaGreatDoor
