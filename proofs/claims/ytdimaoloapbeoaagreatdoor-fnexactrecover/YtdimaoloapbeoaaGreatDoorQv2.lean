/- DkTo DkBlk DkRead DkName -/
import Derived.Test.YtdimaoloapbeoaaGreatDoorRows
import Derived.Test.YtdimaoloapbeoaaGreatDoorQv1
import Derived.WalkKit
import Derived.ProofKit
import Derived.OpenShut
import Derived.Below
import Derived.WalkSmall
import Derived.WalkLawsBesides
import Derived.Outline
import Derived.BigQuiet
import Derived.Deep.QuietTactic
namespace Go.Proofs.YtdimaoloapbeoaaGreatDoor
open Go.ChangeShapes Go.WideShapes Go.ChangeAt Go.RowKit Go.PlainAid
set_option linter.unusedVariables false
theorem below_alloc3 (w : World) (a b c : Obj) : Below w.heap.size w (((w.alloc a).alloc b).alloc c) := (((Below.refl _ w).alloc (Nat.le_refl _) a).alloc (by simp) b).alloc (by simp; omega) c
set_option maxHeartbeats 400000 in
theorem toInode (x : Nod) (w : World) : Calls Tryz.prog 57 #[vNod x] w fun e w' => e = .returned (vNod x) ∧ Below w.heap.size w w' := by
 unfold vNod
 go_enter Tryz.func57, Tryz.ntmps57
 go_wp2
 exact bodyPost_ret (v := .agg #[.int .i64 x.id, .string x.data, .int .i64 x.sure]) (by simp [results, go_sem]) rfl ⟨rfl, below_alloc3 _ _ _ _⟩
theorem Tryz.infoNod : (Tryz.prog.info? 90).map (fun i => (i.zero, i.size, i.bytes)) = some (some (.agg #[.int .i64 0, .string ⟨#[]⟩, .int .i64 0]), 3, 32) := by kernel_rfl
def nodZ : List Value := [.int .i64 0, .string ⟨#[]⟩, .int .i64 0]
theorem nod_made (n : Nat) : madeCells #[.int .i64 0, .string ⟨#[]⟩, .int .i64 0] (n * 3) = (List.replicate n nodZ).flatten.toArray := by
 apply Array.ext'
 rw [List.toList_toArray]
 apply List.ext_getElem?
 intro k
 have hz : ∀ r ∈ List.replicate n nodZ, r.length = 3 := fun r hr => by rw [List.eq_of_mem_replicate hr]; rfl
 by_cases hk : k < n * 3
 ·have e : k = k / 3 * 3 + k % 3 := by omega
  have hf : k % 3 < 3 := Nat.mod_lt _ (by omega)
  have hj : k / 3 < n := Nat.div_lt_of_lt_mul (by omega)
  have := flat_at 3 (List.replicate n nodZ) hz (k / 3) (k % 3) (by simpa using hj) hf
  rw [← e] at this
  have hr : (List.replicate n nodZ)[k / 3]'(by simpa using hj) = nodZ := by simp
  rw [this, hr]
  have hs : (madeCells #[.int .i64 0, .string ⟨#[]⟩, .int .i64 0] (n * 3)).toList[k]? = some (#[.int .i64 0, .string ⟨#[]⟩, .int .i64 0].getD (k % 3) default) := by simp [madeCells, hk]
  rw [hs]
  have : k % 3 = 0 ∨ k % 3 = 1 ∨ k % 3 = 2 := by omega
  rcases this with h | h | h <;> rw [h] <;> rfl
 ·have hl : (List.replicate n nodZ).flatten.length = n * 3 := by rw [flat_length 3 _ hz]; simp
  have hr : (List.replicate n nodZ).flatten[k]? = none := List.getElem?_eq_none (by omega)
  rw [hr]
  apply List.getElem?_eq_none
  rw [Array.length_toList, size_madeCells]
  omega
set_option maxHeartbeats 1000000 in
theorem toInodeS (l : List Nod) (v : Value) (w : World) (B : Nat) (hv : Lies w B 3 v (nodR l)) (hn : l.length ≤ 1048576) (hB : B ≤ w.heap.size) :
  Calls Tryz.prog 20 #[v] w fun e w' => ∃ u, e = .returned u ∧ Owns w' w.heap.size 90 3 u (nodR l) ∧ Below w.heap.size w w' := by
 obtain ⟨A, cap, rfl, hl⟩ := nod_look hv
 have HL : Hid (∀ j, j < l.length → ∃ g off, A = some ⟨g, off, none⟩ ∧ g < B ∧ _) := hl
 have HB : Hid (B ≤ w.heap.size) := hB
 clear hl hB hv
 have q1 : (l.length : Int) ≤ 1048576 := by omega
 generalize hN : l.length = n at *
 obtain ⟨i0, hi, hz0, hz1, hz2⟩ := info_parts Tryz.infoNod
 have hmk : ∀ wx : World, (Instr.makeSlice 37 (.int .i64 (n : Int)) (.int .i64 (n : Int))).run Tryz.prog wx = .ok (.slice (some ⟨wx.heap.size, 0, none⟩) n n) (wx.alloc (.cells (List.replicate n nodZ).flatten.toArray 90)) := fun wx => by
  have h := run_make (P := Tryz.prog) wx 37 90 i0 _ Tryz.underlying37 hi hz0 .i64 .i64 (n : Int) (n : Int) (by omega) (by omega) (by rw [hz2]; omega) (by omega)
  rw [hz1] at h
  have e : (Value.agg #[.int .i64 0, .string ⟨#[]⟩, .int .i64 0]).cells = #[.int .i64 0, .string ⟨#[]⟩, .int .i64 0] := rfl
  rw [e, Int.toNat_natCast, nod_made] at h
  exact h
 clear hi hz0 hz1 hz2
 go_enter Tryz.func20, Tryz.ntmps20
 go_wp2_with fail
 go_loopw [4] (fun v4 wr => ∃ k : Nat, k ≤ n ∧ v4 = .int .i64 (k : Int) ∧ Owns wr w.heap.size 90 3 (.slice (some ⟨w.heap.size, 0, none⟩) n n) (nodR (l.take k) ++ List.replicate (n - k) nodZ) ∧ Below w.heap.size w wr) (fun i _ => n - (intOf i).toNat)
 case atStart =>
  refine ⟨0, by omega, rfl, ?_, (Below.refl _ _).alloc (Nat.le_refl _) _⟩
  rw [List.take_zero, Nat.sub_zero, show nodR [] = [] from rfl, List.nil_append]
  refine ⟨fun r hr => by rw [List.eq_of_mem_replicate hr]; rfl, ?_⟩
  have hz : ∀ r ∈ List.replicate n nodZ, r.length = 3 := fun r hr => by rw [List.eq_of_mem_replicate hr]; rfl
  have hl := flat_length 3 (List.replicate n nodZ) hz
  rw [List.length_replicate] at hl ⊢
  exact World.ownsRow_lit w (List.replicate n nodZ).flatten.toArray n (Nat.le_refl _) (by unfold maxLen; omega) (by simpa using hl)
 case round =>
  obtain ⟨k, hk, rfl, hO, hb⟩ := hrel
  have HO : Hid (Owns wr w.heap.size 90 3 (.slice (some ⟨w.heap.size, 0, none⟩) n n) (nodR (l.take k) ++ List.replicate (n - k) nodZ)) := hO
  have HB1 : Hid (Below w.heap.size w wr) := hb
  clear hO hb
  by_cases hlt : k < n
  ·have q4 : (k : Int) < (n : Int) := by omega
   obtain ⟨g, off, rfl, hg, hc0, hc1, hc2⟩ := HL.out k (by omega)
   have hgw : g < w.heap.size := Nat.lt_of_lt_of_le hg HB.out
   rw [← HB1.out.cell (p := ⟨_, _, none⟩) hgw] at hc0
   rw [← HB1.out.cell (p := ⟨_, _, none⟩) hgw] at hc1
   rw [← HB1.out.cell (p := ⟨_, _, none⟩) hgw] at hc2
   have c1 := fun wx => toInode (l.getD k default) wx
   unfold vNod at c1
   generalize hx : l.getD k default = x at *
   have HX : Hid (l.getD k default = x) := hx
   clear hx
   go_wp2_with fail
   refine (c1 _).mono ?_
   rintro e w2 ⟨rfl, hb2⟩
   have hlen : (nodR (l.take k) ++ List.replicate (n - k) nodZ).length = n := by rw [List.length_append, List.length_replicate]; simp [nodR]; omega
   have hdl : (nodR (l.take k)).length = k := by simp [nodR]; omega
   have hO2 := HO.out.on hb2
   have hO3 := hO2
   rw [show (Value.slice (some ⟨w.heap.size, 0, none⟩) n n) = .slice (some ⟨w.heap.size, 0, none⟩) (nodR (l.take k) ++ List.replicate (n - k) nodZ).length n by rw [hlen]] at hO2
   obtain ⟨y0, d0⟩ := hO2.cellX k 0 (by rw [hlen]; exact hlt) (by omega)
   have f0 := hO2.free (k * 3)
   obtain ⟨y1, d1⟩ := hO2.cellX k 1 (by rw [hlen]; exact hlt) (by omega)
   have f1 := hO2.free (k * 3 + 1)
   obtain ⟨y2, d2⟩ := hO2.cellX k 2 (by rw [hlen]; exact hlt) (by omega)
   have f2 := hO2.free (k * 3 + 2)
   rw [Nat.add_zero] at d0
   have hP := hO2.put3 k (by rw [hlen]; exact hlt) (.int .i64 x.id) (.string x.data) (.int .i64 x.sure)
   rw [hlen, fill_step _ _ _ n k hdl hlt, show nodR (l.take k) ++ [[.int .i64 x.id, .string x.data, .int .i64 x.sure]] = nodR (l.take (k + 1)) by rw [nodR_snoc l k (by omega), HX.out]; rfl] at hP
   have HP : Hid (Owns ((((w2).setCell ⟨w.heap.size, k * 3, none⟩ (.int .i64 x.id)).setCell ⟨w.heap.size, k * 3 + 1, none⟩ (.string x.data)).setCell ⟨w.heap.size, k * 3 + 2, none⟩ (.int .i64 x.sure)) w.heap.size 90 3 (.slice (some ⟨w.heap.size, 0, none⟩) n n) (nodR (l.take (k + 1)) ++ List.replicate (n - (k + 1)) nodZ)) := hP
   have HB2 : Hid (Below w.heap.size w w2) := HB1.out.trans (hb2.mono HB1.out.size)
   clear hO2 hO3 hP hb2 hlen hdl
   go_wp2_with fail
   go_roundw
   case rel => exact ⟨k + 1, by omega, by go_num, HP.out, (((HB2.out).setCell (Nat.le_refl _) _).setCell (Nat.le_refl _) _).setCell (Nat.le_refl _) _⟩
   case measure => simp [intOf]; omega
  ·obtain rfl : k = n := by omega
   go_wp2_with fail
   go_ret
   refine ⟨_, rfl, ?_, HB1.out⟩
   have := HO.out
   rw [← hN, List.take_length, Nat.sub_self, List.replicate_zero, List.append_nil] at this
   rw [← hN]
   exact this
set_option maxHeartbeats 400000 in
theorem toLink (x : Lnk) (w : World) : Calls Tryz.prog 58 #[vLnk x] w fun e w' => e = .returned (vLnk x) ∧ Below w.heap.size w w' := by
 unfold vLnk
 go_enter Tryz.func58, Tryz.ntmps58
 go_wp2
 exact bodyPost_ret (v := .agg #[.string x.name, .int .i64 x.id]) (by simp [results, go_sem]) rfl ⟨rfl, below_alloc3 _ _ _ _⟩
theorem Tryz.infoLnk : (Tryz.prog.info? 93).map (fun i => (i.zero, i.size, i.bytes)) = some (some (.agg #[.string ⟨#[]⟩, .int .i64 0]), 2, 24) := by kernel_rfl
def lnkZ : List Value := [.string ⟨#[]⟩, .int .i64 0]
theorem lnk_made (n : Nat) : madeCells #[.string ⟨#[]⟩, .int .i64 0] (n * 2) = (List.replicate n lnkZ).flatten.toArray := by
 apply Array.ext'
 rw [List.toList_toArray]
 apply List.ext_getElem?
 intro k
 have hz : ∀ r ∈ List.replicate n lnkZ, r.length = 2 := fun r hr => by rw [List.eq_of_mem_replicate hr]; rfl
 by_cases hk : k < n * 2
 ·have e : k = k / 2 * 2 + k % 2 := by omega
  have hf : k % 2 < 2 := Nat.mod_lt _ (by omega)
  have hj : k / 2 < n := Nat.div_lt_of_lt_mul (by omega)
  have := flat_at 2 (List.replicate n lnkZ) hz (k / 2) (k % 2) (by simpa using hj) hf
  rw [← e] at this
  have hr : (List.replicate n lnkZ)[k / 2]'(by simpa using hj) = lnkZ := by simp
  rw [this, hr]
  have hs : (madeCells #[.string ⟨#[]⟩, .int .i64 0] (n * 2)).toList[k]? = some (#[.string ⟨#[]⟩, .int .i64 0].getD (k % 2) default) := by simp [madeCells, hk]
  rw [hs]
  have : k % 2 = 0 ∨ k % 2 = 1 := by omega
  rcases this with h | h <;> rw [h] <;> rfl
 ·have hl : (List.replicate n lnkZ).flatten.length = n * 2 := by rw [flat_length 2 _ hz]; simp
  have hr : (List.replicate n lnkZ).flatten[k]? = none := List.getElem?_eq_none (by omega)
  rw [hr]
  apply List.getElem?_eq_none
  rw [Array.length_toList, size_madeCells]
  omega
set_option maxHeartbeats 1000000 in
theorem toLinkS (l : List Lnk) (v : Value) (w : World) (B : Nat) (hv : Lies w B 2 v (lnkR l)) (hn : l.length ≤ 1048576) (hB : B ≤ w.heap.size) :
  Calls Tryz.prog 21 #[v] w fun e w' => ∃ u, e = .returned u ∧ Owns w' w.heap.size 93 2 u (lnkR l) ∧ Below w.heap.size w w' := by
 obtain ⟨A, cap, rfl, hl⟩ := lnk_look hv
 have HL : Hid (∀ j, j < l.length → ∃ g off, A = some ⟨g, off, none⟩ ∧ g < B ∧ _) := hl
 have HB : Hid (B ≤ w.heap.size) := hB
 clear hl hB hv
 have q1 : (l.length : Int) ≤ 1048576 := by omega
 generalize hN : l.length = n at *
 obtain ⟨i0, hi, hz0, hz1, hz2⟩ := info_parts Tryz.infoLnk
 have hmk : ∀ wx : World, (Instr.makeSlice 38 (.int .i64 (n : Int)) (.int .i64 (n : Int))).run Tryz.prog wx = .ok (.slice (some ⟨wx.heap.size, 0, none⟩) n n) (wx.alloc (.cells (List.replicate n lnkZ).flatten.toArray 93)) := fun wx => by
  have h := run_make (P := Tryz.prog) wx 38 93 i0 _ Tryz.underlying38 hi hz0 .i64 .i64 (n : Int) (n : Int) (by omega) (by omega) (by rw [hz2]; omega) (by omega)
  rw [hz1] at h
  have e : (Value.agg #[.string ⟨#[]⟩, .int .i64 0]).cells = #[.string ⟨#[]⟩, .int .i64 0] := rfl
  rw [e, Int.toNat_natCast, lnk_made] at h
  exact h
 clear hi hz0 hz1 hz2
 go_enter Tryz.func21, Tryz.ntmps21
 go_wp2_with fail
 go_loopw [4] (fun v4 wr => ∃ k : Nat, k ≤ n ∧ v4 = .int .i64 (k : Int) ∧ Owns wr w.heap.size 93 2 (.slice (some ⟨w.heap.size, 0, none⟩) n n) (lnkR (l.take k) ++ List.replicate (n - k) lnkZ) ∧ Below w.heap.size w wr) (fun i _ => n - (intOf i).toNat)
 case atStart =>
  refine ⟨0, by omega, rfl, ?_, (Below.refl _ _).alloc (Nat.le_refl _) _⟩
  rw [List.take_zero, Nat.sub_zero, show lnkR [] = [] from rfl, List.nil_append]
  refine ⟨fun r hr => by rw [List.eq_of_mem_replicate hr]; rfl, ?_⟩
  have hz : ∀ r ∈ List.replicate n lnkZ, r.length = 2 := fun r hr => by rw [List.eq_of_mem_replicate hr]; rfl
  have hl := flat_length 2 (List.replicate n lnkZ) hz
  rw [List.length_replicate] at hl ⊢
  exact World.ownsRow_lit w (List.replicate n lnkZ).flatten.toArray n (Nat.le_refl _) (by unfold maxLen; omega) (by simpa using hl)
 case round =>
  obtain ⟨k, hk, rfl, hO, hb⟩ := hrel
  have HO : Hid (Owns wr w.heap.size 93 2 (.slice (some ⟨w.heap.size, 0, none⟩) n n) (lnkR (l.take k) ++ List.replicate (n - k) lnkZ)) := hO
  have HB1 : Hid (Below w.heap.size w wr) := hb
  clear hO hb
  by_cases hlt : k < n
  ·have q4 : (k : Int) < (n : Int) := by omega
   obtain ⟨g, off, rfl, hg, hc0, hc1⟩ := HL.out k (by omega)
   have hgw : g < w.heap.size := Nat.lt_of_lt_of_le hg HB.out
   rw [← HB1.out.cell (p := ⟨_, _, none⟩) hgw] at hc0
   rw [← HB1.out.cell (p := ⟨_, _, none⟩) hgw] at hc1
   have c1 := fun wx => toLink (l.getD k default) wx
   unfold vLnk at c1
   generalize hx : l.getD k default = x at *
   have HX : Hid (l.getD k default = x) := hx
   clear hx
   go_wp2_with fail
   refine (c1 _).mono ?_
   rintro e w2 ⟨rfl, hb2⟩
   have hlen : (lnkR (l.take k) ++ List.replicate (n - k) lnkZ).length = n := by rw [List.length_append, List.length_replicate]; simp [lnkR]; omega
   have hdl : (lnkR (l.take k)).length = k := by simp [lnkR]; omega
   have hO2 := HO.out.on hb2
   have hO3 := hO2
   rw [show (Value.slice (some ⟨w.heap.size, 0, none⟩) n n) = .slice (some ⟨w.heap.size, 0, none⟩) (lnkR (l.take k) ++ List.replicate (n - k) lnkZ).length n by rw [hlen]] at hO2
   obtain ⟨y0, d0⟩ := hO2.cellX k 0 (by rw [hlen]; exact hlt) (by omega)
   have f0 := hO2.free (k * 2)
   obtain ⟨y1, d1⟩ := hO2.cellX k 1 (by rw [hlen]; exact hlt) (by omega)
   have f1 := hO2.free (k * 2 + 1)
   rw [Nat.add_zero] at d0
   have hP := hO2.put2 k (by rw [hlen]; exact hlt) (.string x.name) (.int .i64 x.id)
   rw [hlen, fill_step _ _ _ n k hdl hlt, show lnkR (l.take k) ++ [[.string x.name, .int .i64 x.id]] = lnkR (l.take (k + 1)) by rw [lnkR_snoc l k (by omega), HX.out]; rfl] at hP
   have HP : Hid (Owns (((w2).setCell ⟨w.heap.size, k * 2, none⟩ (.string x.name)).setCell ⟨w.heap.size, k * 2 + 1, none⟩ (.int .i64 x.id)) w.heap.size 93 2 (.slice (some ⟨w.heap.size, 0, none⟩) n n) (lnkR (l.take (k + 1)) ++ List.replicate (n - (k + 1)) lnkZ)) := hP
   have HB2 : Hid (Below w.heap.size w w2) := HB1.out.trans (hb2.mono HB1.out.size)
   clear hO2 hO3 hP hb2 hlen hdl
   go_wp2_with fail
   go_roundw
   case rel => exact ⟨k + 1, by omega, by go_num, HP.out, ((HB2.out).setCell (Nat.le_refl _) _).setCell (Nat.le_refl _) _⟩
   case measure => simp [intOf]; omega
  ·obtain rfl : k = n := by omega
   go_wp2_with fail
   go_ret
   refine ⟨_, rfl, ?_, HB1.out⟩
   have := HO.out
   rw [← hN, List.take_length, Nat.sub_self, List.replicate_zero, List.append_nil] at this
   rw [← hN]
   exact this
set_option maxHeartbeats 400000 in
theorem toMove (x : Mov) (w : World) : Calls Tryz.prog 59 #[vMov x] w fun e w' => e = .returned (vMov x) ∧ Below w.heap.size w w' := by
 unfold vMov
 go_enter Tryz.func59, Tryz.ntmps59
 go_wp2
 exact bodyPost_ret (v := .agg #[.int .i64 x.kind, .string x.name, .string x.to, .int .i64 x.id]) (by simp [results, go_sem]) rfl ⟨rfl, below_alloc3 _ _ _ _⟩
theorem Tryz.infoMov : (Tryz.prog.info? 94).map (fun i => (i.zero, i.size, i.bytes)) = some (some (.agg #[.int .i64 0, .string ⟨#[]⟩, .string ⟨#[]⟩, .int .i64 0]), 4, 48) := by kernel_rfl
def movZ : List Value := [.int .i64 0, .string ⟨#[]⟩, .string ⟨#[]⟩, .int .i64 0]
theorem mov_made (n : Nat) : madeCells #[.int .i64 0, .string ⟨#[]⟩, .string ⟨#[]⟩, .int .i64 0] (n * 4) = (List.replicate n movZ).flatten.toArray := by
 apply Array.ext'
 rw [List.toList_toArray]
 apply List.ext_getElem?
 intro k
 have hz : ∀ r ∈ List.replicate n movZ, r.length = 4 := fun r hr => by rw [List.eq_of_mem_replicate hr]; rfl
 by_cases hk : k < n * 4
 ·have e : k = k / 4 * 4 + k % 4 := by omega
  have hf : k % 4 < 4 := Nat.mod_lt _ (by omega)
  have hj : k / 4 < n := Nat.div_lt_of_lt_mul (by omega)
  have := flat_at 4 (List.replicate n movZ) hz (k / 4) (k % 4) (by simpa using hj) hf
  rw [← e] at this
  have hr : (List.replicate n movZ)[k / 4]'(by simpa using hj) = movZ := by simp
  rw [this, hr]
  have hs : (madeCells #[.int .i64 0, .string ⟨#[]⟩, .string ⟨#[]⟩, .int .i64 0] (n * 4)).toList[k]? = some (#[.int .i64 0, .string ⟨#[]⟩, .string ⟨#[]⟩, .int .i64 0].getD (k % 4) default) := by simp [madeCells, hk]
  rw [hs]
  have : k % 4 = 0 ∨ k % 4 = 1 ∨ k % 4 = 2 ∨ k % 4 = 3 := by omega
  rcases this with h | h | h | h <;> rw [h] <;> rfl
 ·have hl : (List.replicate n movZ).flatten.length = n * 4 := by rw [flat_length 4 _ hz]; simp
  have hr : (List.replicate n movZ).flatten[k]? = none := List.getElem?_eq_none (by omega)
  rw [hr]
  apply List.getElem?_eq_none
  rw [Array.length_toList, size_madeCells]
  omega
set_option maxHeartbeats 1000000 in
theorem toMoveS (l : List Mov) (v : Value) (w : World) (B : Nat) (hv : Lies w B 4 v (movR l)) (hn : l.length ≤ 1048576) (hB : B ≤ w.heap.size) :
  Calls Tryz.prog 22 #[v] w fun e w' => ∃ u, e = .returned u ∧ Owns w' w.heap.size 94 4 u (movR l) ∧ Below w.heap.size w w' := by
 obtain ⟨A, cap, rfl, hl⟩ := mov_look hv
 have HL : Hid (∀ j, j < l.length → ∃ g off, A = some ⟨g, off, none⟩ ∧ g < B ∧ _) := hl
 have HB : Hid (B ≤ w.heap.size) := hB
 clear hl hB hv
 have q1 : (l.length : Int) ≤ 1048576 := by omega
 generalize hN : l.length = n at *
 obtain ⟨i0, hi, hz0, hz1, hz2⟩ := info_parts Tryz.infoMov
 have hmk : ∀ wx : World, (Instr.makeSlice 39 (.int .i64 (n : Int)) (.int .i64 (n : Int))).run Tryz.prog wx = .ok (.slice (some ⟨wx.heap.size, 0, none⟩) n n) (wx.alloc (.cells (List.replicate n movZ).flatten.toArray 94)) := fun wx => by
  have h := run_make (P := Tryz.prog) wx 39 94 i0 _ Tryz.underlying39 hi hz0 .i64 .i64 (n : Int) (n : Int) (by omega) (by omega) (by rw [hz2]; omega) (by omega)
  rw [hz1] at h
  have e : (Value.agg #[.int .i64 0, .string ⟨#[]⟩, .string ⟨#[]⟩, .int .i64 0]).cells = #[.int .i64 0, .string ⟨#[]⟩, .string ⟨#[]⟩, .int .i64 0] := rfl
  rw [e, Int.toNat_natCast, mov_made] at h
  exact h
 clear hi hz0 hz1 hz2
 go_enter Tryz.func22, Tryz.ntmps22
 go_wp2_with fail
 go_loopw [4] (fun v4 wr => ∃ k : Nat, k ≤ n ∧ v4 = .int .i64 (k : Int) ∧ Owns wr w.heap.size 94 4 (.slice (some ⟨w.heap.size, 0, none⟩) n n) (movR (l.take k) ++ List.replicate (n - k) movZ) ∧ Below w.heap.size w wr) (fun i _ => n - (intOf i).toNat)
 case atStart =>
  refine ⟨0, by omega, rfl, ?_, (Below.refl _ _).alloc (Nat.le_refl _) _⟩
  rw [List.take_zero, Nat.sub_zero, show movR [] = [] from rfl, List.nil_append]
  refine ⟨fun r hr => by rw [List.eq_of_mem_replicate hr]; rfl, ?_⟩
  have hz : ∀ r ∈ List.replicate n movZ, r.length = 4 := fun r hr => by rw [List.eq_of_mem_replicate hr]; rfl
  have hl := flat_length 4 (List.replicate n movZ) hz
  rw [List.length_replicate] at hl ⊢
  exact World.ownsRow_lit w (List.replicate n movZ).flatten.toArray n (Nat.le_refl _) (by unfold maxLen; omega) (by simpa using hl)
 case round =>
  obtain ⟨k, hk, rfl, hO, hb⟩ := hrel
  have HO : Hid (Owns wr w.heap.size 94 4 (.slice (some ⟨w.heap.size, 0, none⟩) n n) (movR (l.take k) ++ List.replicate (n - k) movZ)) := hO
  have HB1 : Hid (Below w.heap.size w wr) := hb
  clear hO hb
  by_cases hlt : k < n
  ·have q4 : (k : Int) < (n : Int) := by omega
   obtain ⟨g, off, rfl, hg, hc0, hc1, hc2, hc3⟩ := HL.out k (by omega)
   have hgw : g < w.heap.size := Nat.lt_of_lt_of_le hg HB.out
   rw [← HB1.out.cell (p := ⟨_, _, none⟩) hgw] at hc0
   rw [← HB1.out.cell (p := ⟨_, _, none⟩) hgw] at hc1
   rw [← HB1.out.cell (p := ⟨_, _, none⟩) hgw] at hc2
   rw [← HB1.out.cell (p := ⟨_, _, none⟩) hgw] at hc3
   have c1 := fun wx => toMove (l.getD k default) wx
   unfold vMov at c1
   generalize hx : l.getD k default = x at *
   have HX : Hid (l.getD k default = x) := hx
   clear hx
   go_wp2_with fail
   refine (c1 _).mono ?_
   rintro e w2 ⟨rfl, hb2⟩
   have hlen : (movR (l.take k) ++ List.replicate (n - k) movZ).length = n := by rw [List.length_append, List.length_replicate]; simp [movR]; omega
   have hdl : (movR (l.take k)).length = k := by simp [movR]; omega
   have hO2 := HO.out.on hb2
   have hO3 := hO2
   rw [show (Value.slice (some ⟨w.heap.size, 0, none⟩) n n) = .slice (some ⟨w.heap.size, 0, none⟩) (movR (l.take k) ++ List.replicate (n - k) movZ).length n by rw [hlen]] at hO2
   obtain ⟨y0, d0⟩ := hO2.cellX k 0 (by rw [hlen]; exact hlt) (by omega)
   have f0 := hO2.free (k * 4)
   obtain ⟨y1, d1⟩ := hO2.cellX k 1 (by rw [hlen]; exact hlt) (by omega)
   have f1 := hO2.free (k * 4 + 1)
   obtain ⟨y2, d2⟩ := hO2.cellX k 2 (by rw [hlen]; exact hlt) (by omega)
   have f2 := hO2.free (k * 4 + 2)
   obtain ⟨y3, d3⟩ := hO2.cellX k 3 (by rw [hlen]; exact hlt) (by omega)
   have f3 := hO2.free (k * 4 + 3)
   rw [Nat.add_zero] at d0
   have hP := hO2.put4 k (by rw [hlen]; exact hlt) (.int .i64 x.kind) (.string x.name) (.string x.to) (.int .i64 x.id)
   rw [hlen, fill_step _ _ _ n k hdl hlt, show movR (l.take k) ++ [[.int .i64 x.kind, .string x.name, .string x.to, .int .i64 x.id]] = movR (l.take (k + 1)) by rw [movR_snoc l k (by omega), HX.out]; rfl] at hP
   have HP : Hid (Owns (((((w2).setCell ⟨w.heap.size, k * 4, none⟩ (.int .i64 x.kind)).setCell ⟨w.heap.size, k * 4 + 1, none⟩ (.string x.name)).setCell ⟨w.heap.size, k * 4 + 2, none⟩ (.string x.to)).setCell ⟨w.heap.size, k * 4 + 3, none⟩ (.int .i64 x.id)) w.heap.size 94 4 (.slice (some ⟨w.heap.size, 0, none⟩) n n) (movR (l.take (k + 1)) ++ List.replicate (n - (k + 1)) movZ)) := hP
   have HB2 : Hid (Below w.heap.size w w2) := HB1.out.trans (hb2.mono HB1.out.size)
   clear hO2 hO3 hP hb2 hlen hdl
   go_wp2_with fail
   go_roundw
   case rel => exact ⟨k + 1, by omega, by go_num, HP.out, ((((HB2.out).setCell (Nat.le_refl _) _).setCell (Nat.le_refl _) _).setCell (Nat.le_refl _) _).setCell (Nat.le_refl _) _⟩
   case measure => simp [intOf]; omega
  ·obtain rfl : k = n := by omega
   go_wp2_with fail
   go_ret
   refine ⟨_, rfl, ?_, HB1.out⟩
   have := HO.out
   rw [← hN, List.take_length, Nat.sub_self, List.replicate_zero, List.append_nil] at this
   rw [← hN]
   exact this
end Go.Proofs.YtdimaoloapbeoaaGreatDoor
namespace Go.Proofs.YtdimaoloapbeoaaGreatDoor
open Go.RowKit Go.PlainAid
def Blk (w : World) (g : Nat) (cs : Array Value) (t : TypeId) : Prop := w.heap[g]? = some (.cells cs t (0, 0))
theorem Blk.lt {w : World} {g : Nat} {cs : Array Value} {t : TypeId} (h : Blk w g cs t) : g < w.heap.size := lt_of_block h
theorem Blk.cell {w : World} {g : Nat} {cs : Array Value} {t : TypeId} (h : Blk w g cs t) (i : Nat) (x : Value) (hx : cs[i]? = some x) : w.cell? ⟨g, i, none⟩ = some x := by
 rw [cell_of_row w g i cs t (0, 0) h]
 exact hx
theorem Blk.free {w : World} {g : Nat} {cs : Array Value} {t : TypeId} (h : Blk w g cs t) (i : Nat) : w.frozen? ⟨g, i, none⟩ = false := frozen_of_row w g i cs t h
theorem Blk.set {w : World} {g : Nat} {cs : Array Value} {t : TypeId} (h : Blk w g cs t) (i : Nat) (x : Value) : Blk (w.setCell ⟨g, i, none⟩ x) g (cs.setIfInBounds i x) t := heap_setCell_same w g i cs t x h
theorem Blk.other {w : World} {g g' : Nat} {cs : Array Value} {t : TypeId} (h : Blk w g cs t) (hne : g ≠ g') (i : Nat) (x : Value) : Blk (w.setCell ⟨g', i, none⟩ x) g cs t := by
 unfold Blk
 rw [Below.heap_setCell _ _ _ _ hne]
 exact h
theorem Blk.on {w w' : World} {B g : Nat} {cs : Array Value} {t : TypeId} (h : Blk w g cs t) (hb : Below B w w') (hg : g < B) : Blk w' g cs t := by
 unfold Blk
 rw [hb.block g hg]
 exact h
theorem Blk.new (w : World) (cs : Array Value) (t : TypeId) : Blk (w.alloc (.cells cs t)) w.heap.size cs t := heap_alloc_new w _
theorem Blk.alloc {w : World} {g : Nat} {cs : Array Value} {t : TypeId} (h : Blk w g cs t) (o : Obj) : Blk (w.alloc o) g cs t := by
 unfold Blk
 rw [Below.heap_alloc w o g h.lt]
 exact h
theorem Owns.other {w : World} {base : Nat} {e : TypeId} {sz : Nat} {v : Value} {rows : List (List Value)} (h : Owns w base e sz v rows) {g : Nat} (hne : v.ownBlock ≠ some g) (i : Nat) (x : Value) : Owns (w.setCell ⟨g, i, none⟩ x) base e sz v rows :=
 h.kept fun k _ hk => Below.heap_setCell _ _ _ _ (fun e => hne (by rw [hk]; exact congrArg some e))
theorem Owns.below {w : World} {base : Nat} {e : TypeId} {sz : Nat} {v : Value} {rows : List (List Value)} (h : Owns w base e sz v rows) {g : Nat} (hg : g < base) : v.ownBlock ≠ some g := fun e => by
 have := (h.lt g e).1
 omega
theorem Owns.shape {w : World} {base : Nat} {e : TypeId} {sz : Nat} {v : Value} {rows : List (List Value)} (h : Owns w base e sz v rows) : ∃ A m c, v = .slice A m c := by
 rcases h.2.2 with ⟨rfl, _⟩ | ⟨g, cap, cur, rfl, _⟩
 ·exact ⟨_, _, _, rfl⟩
 ·exact ⟨_, _, _, rfl⟩
def DiskO (w : World) (base : Nat) (v : Value) (d : Dsk) : Prop := ∃ v1 v2 v3, v = .agg #[.int .i64 d.room, .int .i64 d.next, v1, v2, v3] ∧ Owns w base 90 3 v1 (nodR d.nods) ∧ Owns w base 93 2 v2 (lnkR d.dir) ∧ Owns w base 94 4 v3 (movR d.movs)
theorem DiskO.on {w w' : World} {base : Nat} {v : Value} {d : Dsk} (h : DiskO w base v d) (hb : Below w.heap.size w w') : DiskO w' base v d := by
 obtain ⟨v1, v2, v3, e, h1, h2, h3⟩ := h
 exact ⟨v1, v2, v3, e, h1.on hb, h2.on hb, h3.on hb⟩
theorem DiskO.mono {w : World} {base base' : Nat} {v : Value} {d : Dsk} (h : DiskO w base v d) (hb : base' ≤ base) : DiskO w base' v d := by
 obtain ⟨v1, v2, v3, e, h1, h2, h3⟩ := h
 exact ⟨v1, v2, v3, e, h1.mono hb, h2.mono hb, h3.mono hb⟩
theorem DiskO.look {w : World} {base : Nat} {v : Value} {d : Dsk} (h : DiskO w base v d) : DiskV w w.heap.size v d := by
 obtain ⟨v1, v2, v3, e, h1, h2, h3⟩ := h
 exact ⟨v1, v2, v3, e, h1.lies, h2.lies, h3.lies⟩
end Go.Proofs.YtdimaoloapbeoaaGreatDoor
namespace Go.Proofs.YtdimaoloapbeoaaGreatDoor
open Go.ChangeShapes Go.WideShapes Go.ChangeAt Go.RowKit Go.PlainAid
set_option linter.unusedVariables false
theorem find_some {α : Type} [Inhabited α] (p : α → Bool) (l : List α) (k : Nat) (hk : k < l.length) (h : ∀ j, j < k → p (l.getD j default) = false) (hp : p (l.getD k default) = true) : l.findIdx? p = some k := by
 rw [List.findIdx?_eq_some_iff_getElem]
 refine ⟨hk, by rw [getD_at l k hk]; exact hp, fun j hj => ?_⟩
 rw [getD_at l j (by omega), h j hj]
 exact Bool.false_ne_true
theorem find_none {α : Type} [Inhabited α] (p : α → Bool) (l : List α) (h : ∀ j, j < l.length → p (l.getD j default) = false) : l.findIdx? p = none := by
 rw [List.findIdx?_eq_none_iff]
 intro x hx
 obtain ⟨j, hj, rfl⟩ := List.getElem_of_mem hx
 rw [getD_at l j hj]
 exact h j hj
theorem any_yes {α : Type} [Inhabited α] (p : α → Bool) (l : List α) (k : Nat) (hk : k < l.length) (hp : p (l.getD k default) = true) : l.any p = true := List.any_eq_true.2 ⟨_, getD_mem l k hk, hp⟩
theorem any_no {α : Type} [Inhabited α] (p : α → Bool) (l : List α) (h : ∀ j, j < l.length → p (l.getD j default) = false) : l.any p = false := by
 rw [List.any_eq_false]
 intro x hx
 obtain ⟨j, hj, rfl⟩ := List.getElem_of_mem hx
 rw [getD_at l j hj, h j hj]
 exact Bool.false_ne_true
theorem toList_beq (a b : ByteArray) : (a.toList == b.toList) = decide (a = b) := by
 rw [Lib.toList_data, Lib.toList_data]
 by_cases h : a = b
 ·subst h
  simp
 ·rw [decide_eq_false h, beq_eq_false_iff_ne]
  intro e
  exact h (ByteArray.ext (Array.toList_inj.1 e))
theorem less_succ {p : Nat → Prop} {k : Nat} (h : ∀ j, j < k → p j) (hk : p k) : ∀ j, j < k + 1 → p j := fun j hj => by
 rcases Nat.lt_succ_iff_lt_or_eq.1 hj with h' | rfl
 ·exact h j h'
 ·exact hk
def idxV : Option Nat → Int
 | some i => (i : Int)
 | none => -1
set_option maxHeartbeats 400000 in
theorem inB (x lo hi : Int) (w : World) : Calls Tryz.prog 43 #[.int .i64 x, .int .i64 lo, .int .i64 hi] w fun e w' => e = .returned (.bool (decide (lo ≤ x) && decide (x ≤ hi))) ∧ w = w' := by
 by_cases h1 : lo ≤ x
 ·go_enter Tryz.func43, Tryz.ntmps43
  go_wp2
  go_ret
  exact ⟨by simp [h1], rfl⟩
 ·have z : decide (lo ≤ x) = false := decide_eq_false h1
  have z2 : x < lo := by omega
  go_enter Tryz.func43, Tryz.ntmps43
  go_wp2
  go_ret
  exact ⟨rfl, rfl⟩
set_option maxHeartbeats 400000 in
theorem linkedV (l : List Lnk) (v : Value) (id : Int) (w : World) (B : Nat) (hv : Lies w B 2 v (lnkR l)) (hn : l.length ≤ 1048576) :
  Calls Tryz.prog 45 #[v, .int .i64 id] w fun e w' => e = .returned (.bool (linked l id)) ∧ w = w' := by
 obtain ⟨A, cap, rfl, hl⟩ := lnk_look hv
 have HL : Hid (∀ j, j < l.length → ∃ g off, A = some ⟨g, off, none⟩ ∧ g < B ∧ _) := hl
 clear hl hv
 have q1 : (l.length : Int) ≤ 1048576 := by omega
 generalize hN : l.length = n at *
 go_enter Tryz.func45, Tryz.ntmps45
 go_wp2
 go_loop [5] (fun v5 => ∃ k : Nat, k ≤ n ∧ v5 = .int .i64 (k : Int) ∧ ∀ j, j < k → ¬ (l.getD j default).id = id) (fun i => n - (intOf i).toNat)
 case atStart => exact ⟨0, by omega, rfl, fun j hj => by omega⟩
 case round =>
  obtain ⟨k, hk, rfl, hno⟩ := hrel
  have HN : Hid (∀ j, j < k → ¬ (l.getD j default).id = id) := hno
  clear hno
  by_cases hlt : k < n
  ·have q4 : (k : Int) < (n : Int) := by omega
   obtain ⟨g, off, rfl, hg, hc0, hc1⟩ := HL.out k hlt
   by_cases he : (l.getD k default).id = id
   ·have HY : Hid (linked l id = true) := any_yes _ _ k (by omega) (decide_eq_true he)
    rw [he] at hc1
    go_wp2
    go_ret
    exact ⟨by rw [HY.out]; rfl, rfl⟩
   ·have z : ((l.getD k default).id == id) = false := by simpa using he
    have HE : Hid (∀ j, j < k + 1 → ¬ (l.getD j default).id = id) := less_succ HN.out he
    clear he
    generalize (l.getD k default).id = x at *
    go_wp2
    go_round
    case rel => exact ⟨k + 1, by omega, by go_num, HE.out⟩
    case measure => simp [intOf]; omega
  ·obtain rfl : k = n := by omega
   have HY : Hid (linked l id = false) := any_no _ _ fun j hj => decide_eq_false (HN.out j (by omega))
   go_wp2
   go_ret
   exact ⟨by rw [HY.out]; rfl, rfl⟩
set_option maxHeartbeats 400000 in
theorem madeV (l : List Mov) (v : Value) (id : Int) (w : World) (B : Nat) (hv : Lies w B 4 v (movR l)) (hn : l.length ≤ 1048576) :
  Calls Tryz.prog 46 #[v, .int .i64 id] w fun e w' => e = .returned (.bool (made l id)) ∧ w = w' := by
 obtain ⟨A, cap, rfl, hl⟩ := mov_look hv
 have HL : Hid (∀ j, j < l.length → ∃ g off, A = some ⟨g, off, none⟩ ∧ g < B ∧ _) := hl
 clear hl hv
 have q1 : (l.length : Int) ≤ 1048576 := by omega
 generalize hN : l.length = n at *
 go_enter Tryz.func46, Tryz.ntmps46
 go_wp2
 go_loop [5] (fun v5 => ∃ k : Nat, k ≤ n ∧ v5 = .int .i64 (k : Int) ∧ ∀ j, j < k → ¬ ((l.getD j default).kind = 1 ∧ (l.getD j default).id = id)) (fun i => n - (intOf i).toNat)
 case atStart => exact ⟨0, by omega, rfl, fun j hj => by omega⟩
 case round =>
  obtain ⟨k, hk, rfl, hno⟩ := hrel
  have HN : Hid (∀ j, j < k → ¬ ((l.getD j default).kind = 1 ∧ (l.getD j default).id = id)) := hno
  clear hno
  by_cases hlt : k < n
  ·have q4 : (k : Int) < (n : Int) := by omega
   obtain ⟨g, off, rfl, hg, hc0, hc1, hc2, hc3⟩ := HL.out k hlt
   by_cases h1 : (l.getD k default).kind = 1
   ·by_cases he : (l.getD k default).id = id
    ·have HY : Hid (made l id = true) := any_yes _ _ k (by omega) (by rw [decide_eq_true h1, decide_eq_true he]; rfl)
     rw [he] at hc3
     rw [h1] at hc0
     go_wp2
     go_ret
     exact ⟨by rw [HY.out]; rfl, rfl⟩
    ·have z : ((l.getD k default).id == id) = false := by simpa using he
     have HE : Hid (∀ j, j < k + 1 → ¬ ((l.getD j default).kind = 1 ∧ (l.getD j default).id = id)) := less_succ HN.out fun h => he h.2
     rw [h1] at hc0
     clear he h1
     generalize (l.getD k default).id = x at *
     go_wp2
     go_round
     case rel => exact ⟨k + 1, by omega, by go_num, HE.out⟩
     case measure => simp [intOf]; omega
   ·have z : ((l.getD k default).kind == 1) = false := by simpa using h1
    have HE : Hid (∀ j, j < k + 1 → ¬ ((l.getD j default).kind = 1 ∧ (l.getD j default).id = id)) := less_succ HN.out fun h => h1 h.1
    clear h1
    generalize (l.getD k default).kind = y at *
    generalize (l.getD k default).id = x at *
    go_wp2
    go_round
    case rel => exact ⟨k + 1, by omega, by go_num, HE.out⟩
    case measure => simp [intOf]; omega
  ·obtain rfl : k = n := by omega
   have HY : Hid (made l id = false) := any_no _ _ fun j hj => by
    have := HN.out j (by omega)
    by_cases h1 : (l.getD j default).kind = 1
    ·rw [decide_eq_true h1, decide_eq_false (fun h => this ⟨h1, h⟩)]; rfl
    ·rw [decide_eq_false h1]; rfl
   go_wp2
   go_ret
   exact ⟨by rw [HY.out]; rfl, rfl⟩
set_option maxHeartbeats 400000 in
theorem atV4 (l : List Lnk) (v : Value) (name : ByteArray) (w : World) (B : Nat) (hv : Lies w B 2 v (lnkR l)) (hn : l.length ≤ 1048576) :
  Calls Tryz.prog 77 #[v, .string name] w fun e w' => e = .returned (.int .i64 (idxV (linkAt l name))) ∧ w = w' := by
 obtain ⟨A, cap, rfl, hl⟩ := lnk_look hv
 have HL : Hid (∀ j, j < l.length → ∃ g off, A = some ⟨g, off, none⟩ ∧ g < B ∧ _) := hl
 clear hl hv
 have q1 : (l.length : Int) ≤ 1048576 := by omega
 generalize hN : l.length = n at *
 go_enter Tryz.func77, Tryz.ntmps77
 go_wp2
 go_loop [5] (fun v5 => ∃ k : Nat, k ≤ n ∧ v5 = .int .i64 (k : Int) ∧ ∀ j, j < k → ¬ (l.getD j default).name = name) (fun i => n - (intOf i).toNat)
 case atStart => exact ⟨0, by omega, rfl, fun j hj => by omega⟩
 case round =>
  obtain ⟨k, hk, rfl, hno⟩ := hrel
  have HN : Hid (∀ j, j < k → ¬ (l.getD j default).name = name) := hno
  clear hno
  by_cases hlt : k < n
  ·have q4 : (k : Int) < (n : Int) := by omega
   obtain ⟨g, off, rfl, hg, hc0, hc1⟩ := HL.out k hlt
   have hb := toList_beq (l.getD k default).name name
   by_cases he : (l.getD k default).name = name
   ·have HY : Hid (linkAt l name = some k) := find_some _ _ k (by omega) (fun j hj => decide_eq_false (HN.out j hj)) (decide_eq_true he)
    rw [decide_eq_true he] at hb
    clear he
    generalize (l.getD k default).name = x at *
    go_wp2
    go_ret
    exact ⟨by rw [HY.out]; rfl, rfl⟩
   ·rw [decide_eq_false he] at hb
    have HE : Hid (∀ j, j < k + 1 → ¬ (l.getD j default).name = name) := less_succ HN.out he
    clear he
    generalize (l.getD k default).name = x at *
    go_wp2
    go_round
    case rel => exact ⟨k + 1, by omega, by go_num, HE.out⟩
    case measure => simp [intOf]; omega
  ·obtain rfl : k = n := by omega
   have HY : Hid (linkAt l name = none) := find_none _ _ fun j hj => decide_eq_false (HN.out j (by omega))
   go_wp2
   go_ret
   exact ⟨by rw [HY.out]; rfl, rfl⟩
set_option maxHeartbeats 1000000 in
theorem inodeV (d : Dsk) (v : Value) (id : Int) (w : World) (B : Nat) (hv : DiskV w B v d) (hn : d.nods.length ≤ 1048576) (hB : B ≤ w.heap.size) :
  Calls Tryz.prog 48 #[v, .int .i64 id] w fun e w' => e = .returned (.int .i64 (idxV (nodAt d.nods id))) ∧ Below w.heap.size w w' := by
 obtain ⟨v1, v2, v3, rfl, h1, h2, h3⟩ := hv
 obtain ⟨A, cap, rfl, hl⟩ := nod_look h1
 have HL : Hid (∀ j, j < d.nods.length → ∃ g off, A = some ⟨g, off, none⟩ ∧ g < B ∧ _) := hl
 have HB : Hid (B ≤ w.heap.size) := hB
 clear hl h1 h2 h3 hB
 have q1 : (d.nods.length : Int) ≤ 1048576 := by omega
 generalize hll : d.nods = l at *
 generalize hN : l.length = n at *
 go_enter Tryz.func48, Tryz.ntmps48
 go_wp2
 have hb0 : Below w.heap.size w (w.alloc (.cells #[.int .i64 d.room, .int .i64 d.next, .slice A n cap, v2, v3] 41)) := (Below.refl _ _).alloc (Nat.le_refl _) _
 have e0 := (Blk.new w #[.int .i64 d.room, .int .i64 d.next, .slice A n cap, v2, v3] 41).cell 2 _ rfl
 generalize w.alloc (.cells #[.int .i64 d.room, .int .i64 d.next, .slice A n cap, v2, v3] 41) = W at *
 have B0 : Hid (Below w.heap.size w W) := hb0
 clear hb0
 have e1 : W.cell? ⟨w.heap.size, 2, none⟩ = some (.slice A n cap) := e0
 clear e0
 go_loop [5] (fun v5 => ∃ k : Nat, k ≤ n ∧ v5 = .int .i64 (k : Int) ∧ ∀ j, j < k → ¬ (l.getD j default).id = id) (fun i => n - (intOf i).toNat)
 case atStart => exact ⟨0, by omega, rfl, fun j hj => by omega⟩
 case round =>
  obtain ⟨k, hk, rfl, hno⟩ := hrel
  have HN : Hid (∀ j, j < k → ¬ (l.getD j default).id = id) := hno
  clear hno
  by_cases hlt : k < n
  ·have q4 : (k : Int) < (n : Int) := by omega
   obtain ⟨g, off, rfl, hg, hc0, hc1, hc2⟩ := HL.out k hlt
   have hgw : g < w.heap.size := Nat.lt_of_lt_of_le hg HB.out
   rw [← B0.out.cell (p := ⟨_, _, none⟩) hgw] at hc0
   clear hc1 hc2
   by_cases he : (l.getD k default).id = id
   ·have HY : Hid (nodAt l id = some k) := find_some _ _ k (by omega) (fun j hj => decide_eq_false (HN.out j hj)) (decide_eq_true he)
    rw [he] at hc0
    go_wp2
    go_ret
    exact ⟨by rw [HY.out]; rfl, B0.out⟩
   ·have z : ((l.getD k default).id == id) = false := by simpa using he
    have HE : Hid (∀ j, j < k + 1 → ¬ (l.getD j default).id = id) := less_succ HN.out he
    clear he
    generalize (l.getD k default).id = x at *
    go_wp2
    go_round
    case rel => exact ⟨k + 1, by omega, by go_num, HE.out⟩
    case measure => simp [intOf]; omega
  ·obtain rfl : k = n := by omega
   have HY : Hid (nodAt l id = none) := find_none _ _ fun j hj => decide_eq_false (HN.out j (by omega))
   go_wp2
   go_ret
   exact ⟨by rw [HY.out]; rfl, B0.out⟩
end Go.Proofs.YtdimaoloapbeoaaGreatDoor
namespace Go.Proofs.YtdimaoloapbeoaaGreatDoor
open Go.ChangeShapes Go.WideShapes Go.ChangeAt Go.RowKit Go.PlainAid
set_option linter.unusedVariables false
theorem name_yes (s : ByteArray) (h1 : 1 ≤ s.size) (h2 : s.size ≤ 12) (h : ∀ j, j < s.size → nameB (bn s j) = true) : nameOk s = true := by
 unfold nameOk
 rw [decide_eq_true h1, decide_eq_true h2]
 simp only [Bool.true_and, List.all_eq_true, List.mem_range]
 exact h
theorem name_no (s : ByteArray) (k : Nat) (hk : k < s.size) (h : nameB (bn s k) = false) : nameOk s = false := by
 unfold nameOk
 have : ((List.range s.size).all fun j => nameB (bn s j)) = false := by
  rw [List.all_eq_false]
  exact ⟨k, List.mem_range.2 hk, by rw [h]; exact Bool.false_ne_true⟩
 rw [this, Bool.and_false]
theorem name_out (s : ByteArray) (h : s.size < 1 ∨ 12 < s.size) : nameOk s = false := by
 unfold nameOk
 rcases h with h | h
 ·rw [decide_eq_false (show ¬ 1 ≤ s.size by omega)]; rfl
 ·rw [decide_eq_false (show ¬ s.size ≤ 12 by omega), Bool.and_false]; rfl
set_option maxHeartbeats 1000000 in
theorem nameV (s : ByteArray) (w : World) (hs : s.size ≤ 9223372036854775807) :
  Calls Tryz.prog 47 #[.string s] w fun e w' => e = .returned (.bool (nameOk s)) ∧ w = w' := by
 have hbt := get_bn s
 have c1 := inB (s.size : Int) 1 12 w
 by_cases h : s.size < 1 ∨ 12 < s.size
 ·have HY : Hid (nameOk s = false) := name_out s h
  have hz : (decide ((1 : Int) ≤ (s.size : Int)) && decide ((s.size : Int) ≤ 12)) = false := by
   rcases h with h | h
   ·rw [decide_eq_false (by omega)]; rfl
   ·rw [decide_eq_false (show ¬ (s.size : Int) ≤ 12 by omega), Bool.and_false]
  rw [hz] at c1
  clear h hz
  go_enter Tryz.func47, Tryz.ntmps47
  go_wp2_with fail
  refine c1.mono ?_
  rintro e w1 ⟨rfl, rfl⟩
  go_wp2_with fail
  go_ret
  exact ⟨by rw [HY.out]; rfl, rfl⟩
 ·have hz : (decide ((1 : Int) ≤ (s.size : Int)) && decide ((s.size : Int) ≤ 12)) = true := by rw [decide_eq_true (by omega), decide_eq_true (by omega)]; rfl
  rw [hz] at c1
  have q1 : (s.size : Int) ≤ 12 := by omega
  have HS1 : Hid (1 ≤ s.size) := by unfold Hid; omega
  have HS2 : Hid (s.size ≤ 12) := by unfold Hid; omega
  clear h hz hs
  go_enter Tryz.func47, Tryz.ntmps47
  go_wp2_with fail
  refine c1.mono ?_
  rintro e w1 ⟨rfl, rfl⟩
  go_wp2_with fail
  go_loop [3] (fun v3 => ∃ k : Nat, k ≤ s.size ∧ v3 = .int .i64 (k : Int) ∧ ∀ j, j < k → nameB (bn s j) = true) (fun i => s.size - (intOf i).toNat)
  case atStart => exact ⟨0, by omega, rfl, fun j hj => by omega⟩
  case round =>
   obtain ⟨k, hk, rfl, hno⟩ := hrel
   have HN : Hid (∀ j, j < k → nameB (bn s j) = true) := hno
   clear hno
   by_cases hlt : k < s.size
   ·have q4 : (k : Int) < (s.size : Int) := by omega
    have hb := bn_lt s k
    have hbk := hbt k hlt
    clear hbt
    by_cases hok : nameB (bn s k) = true
    ·have HE : Hid (∀ j, j < k + 1 → nameB (bn s j) = true) := less_succ HN.out hok
     generalize bn s k = b at *
     have hc : (97 ≤ b ∧ b ≤ 122) ∨ (48 ≤ b ∧ b ≤ 57) ∨ b = 46 := by
      unfold nameB at hok
      simp at hok
      omega
     clear hok
     rcases hc with hc | hc | hc
     ·have z1 : decide ((97 : Int) ≤ (b : Int)) = true := decide_eq_true (by omega)
      have z2 : decide ((b : Int) ≤ 122) = true := decide_eq_true (by omega)
      have y1 : (97 : Int) ≤ (b : Int) := by omega
      have y2 : (b : Int) ≤ 122 := by omega
      clear hc
      go_wp2_with fail
      go_round
      case rel => exact ⟨k + 1, by omega, by go_num, HE.out⟩
      case measure => simp [intOf]; omega
     ·have z1 : decide ((97 : Int) ≤ (b : Int)) = false := decide_eq_false (by omega)
      have z3 : decide ((48 : Int) ≤ (b : Int)) = true := decide_eq_true (by omega)
      have z4 : decide ((b : Int) ≤ 57) = true := decide_eq_true (by omega)
      have y1 : (b : Int) < 97 := by omega
      have y2 : (48 : Int) ≤ (b : Int) := by omega
      have y3 : (b : Int) ≤ 57 := by omega
      clear hc
      go_wp2_with fail
      go_round
      case rel => exact ⟨k + 1, by omega, by go_num, HE.out⟩
      case measure => simp [intOf]; omega
     ·subst hc
      go_wp2_with fail
      go_round
      case rel => exact ⟨k + 1, by omega, by go_num, HE.out⟩
      case measure => simp [intOf]; omega
    ·have hok2 : nameB (bn s k) = false := by simpa using hok
     have HY : Hid (nameOk s = false) := name_no s k hlt hok2
     generalize bn s k = b at *
     have hc : 122 < b ∨ (b < 97 ∧ 57 < b) ∨ (b < 48 ∧ b ≠ 46) := by
      unfold nameB at hok2
      simp at hok2
      omega
     clear hok hok2
     rcases hc with hc | hc | hc
     ·have z1 : decide ((97 : Int) ≤ (b : Int)) = true := decide_eq_true (by omega)
      have z2 : decide ((b : Int) ≤ 122) = false := decide_eq_false (by omega)
      have z3 : decide ((48 : Int) ≤ (b : Int)) = true := decide_eq_true (by omega)
      have z4 : decide ((b : Int) ≤ 57) = false := decide_eq_false (by omega)
      have z5 : ((b : Int) == 46) = false := by simp only [beq_eq_false_iff_ne, ne_eq]; omega
      have y1 : (122 : Int) < (b : Int) := by omega
      clear hc
      go_wp2_with fail
      go_ret
      exact ⟨by rw [HY.out]; rfl, rfl⟩
     ·have z1 : decide ((97 : Int) ≤ (b : Int)) = false := decide_eq_false (by omega)
      have z3 : decide ((48 : Int) ≤ (b : Int)) = true := decide_eq_true (by omega)
      have z4 : decide ((b : Int) ≤ 57) = false := decide_eq_false (by omega)
      have z5 : ((b : Int) == 46) = false := by simp only [beq_eq_false_iff_ne, ne_eq]; omega
      have y1 : (b : Int) < 97 := by omega
      have y2 : (57 : Int) < (b : Int) := by omega
      clear hc
      go_wp2_with fail
      go_ret
      exact ⟨by rw [HY.out]; rfl, rfl⟩
     ·have z1 : decide ((97 : Int) ≤ (b : Int)) = false := decide_eq_false (by omega)
      have z3 : decide ((48 : Int) ≤ (b : Int)) = false := decide_eq_false (by omega)
      have z5 : ((b : Int) == 46) = false := by simp only [beq_eq_false_iff_ne, ne_eq]; omega
      have y1 : (b : Int) < 48 := by omega
      have y2 : ¬ (b : Int) = 46 := by omega
      clear hc
      go_wp2_with fail
      go_ret
      exact ⟨by rw [HY.out]; rfl, rfl⟩
   ·obtain rfl : k = s.size := by omega
    have HY : Hid (nameOk s = true) := name_yes s HS1.out HS2.out HN.out
    go_wp2_with fail
    go_ret
    exact ⟨by rw [HY.out]; rfl, rfl⟩
theorem bytesOf_snoc (l : List Nod) (k : Nat) (h : k < l.length) : bytesOf (l.take (k + 1)) = bytesOf (l.take k) + (l.getD k default).data.size := by
 rw [← getD_at l k h]
 induction l generalizing k with
 | nil => simp at h
 | cons x r ih =>
  cases k with
  | zero => simp [bytesOf]
  | succ k => simp only [List.take_succ_cons, bytesOf, List.getElem_cons_succ]; rw [ih k (by simpa using h)]; omega
theorem bytesOf_le (l : List Nod) (k : Nat) : bytesOf (l.take k) ≤ bytesOf l := by
 induction l generalizing k with
 | nil => simp [bytesOf]
 | cons x r ih =>
  cases k with
  | zero => simp [bytesOf]
  | succ k => simp only [List.take_succ_cons, bytesOf]; have := ih k; omega
set_option maxHeartbeats 1000000 in
theorem bytesV (d : Dsk) (v : Value) (w : World) (B : Nat) (hv : DiskV w B v d) (hn : d.nods.length ≤ 1048576) (hs : bytesOf d.nods ≤ 4194304) (hB : B ≤ w.heap.size) :
  Calls Tryz.prog 44 #[v] w fun e w' => e = .returned (.int .i64 (bytesOf d.nods : Int)) ∧ Below w.heap.size w w' := by
 obtain ⟨v1, v2, v3, rfl, h1, h2, h3⟩ := hv
 obtain ⟨A, cap, rfl, hl⟩ := nod_look h1
 have HL : Hid (∀ j, j < d.nods.length → ∃ g off, A = some ⟨g, off, none⟩ ∧ g < B ∧ _) := hl
 have HB : Hid (B ≤ w.heap.size) := hB
 have HS : Hid (bytesOf d.nods ≤ 4194304) := hs
 clear hl h1 h2 h3 hB hs
 have q1 : (d.nods.length : Int) ≤ 1048576 := by omega
 generalize hll : d.nods = l at *
 generalize hN : l.length = n at *
 go_enter Tryz.func44, Tryz.ntmps44
 go_wp2
 have hb0 : Below w.heap.size w (w.alloc (.cells #[.int .i64 d.room, .int .i64 d.next, .slice A n cap, v2, v3] 41)) := (Below.refl _ _).alloc (Nat.le_refl _) _
 have e0 := (Blk.new w #[.int .i64 d.room, .int .i64 d.next, .slice A n cap, v2, v3] 41).cell 2 _ rfl
 generalize w.alloc (.cells #[.int .i64 d.room, .int .i64 d.next, .slice A n cap, v2, v3] 41) = W at *
 have B0 : Hid (Below w.heap.size w W) := hb0
 clear hb0
 have e1 : W.cell? ⟨w.heap.size, 2, none⟩ = some (.slice A n cap) := e0
 clear e0
 go_loop [3, 4] (fun v3 v4 => ∃ k : Nat, k ≤ n ∧ v4 = .int .i64 (k : Int) ∧ v3 = .int .i64 (bytesOf (l.take k) : Int)) (fun _ i => n - (intOf i).toNat)
 case atStart => exact ⟨0, by omega, rfl, rfl⟩
 case round =>
  obtain ⟨k, hk, rfl, rfl⟩ := hrel
  have q5 : (bytesOf (l.take k) : Int) ≤ 4194304 := by have := bytesOf_le l k; have := HS.out; omega
  by_cases hlt : k < n
  ·have q4 : (k : Int) < (n : Int) := by omega
   obtain ⟨g, off, rfl, hg, hc0, hc1, hc2⟩ := HL.out k hlt
   have hgw : g < w.heap.size := Nat.lt_of_lt_of_le hg HB.out
   rw [← B0.out.cell (p := ⟨_, _, none⟩) hgw] at hc1
   have EB := bytesOf_snoc l k (by omega)
   have q6 : ((l.getD k default).data.size : Int) ≤ 4194304 := by have := bytesOf_le l (k + 1); have := HS.out; omega
   have EI : Hid ((bytesOf (l.take (k + 1)) : Int) = (bytesOf (l.take k) : Int) + ((l.getD k default).data.size : Int)) := by unfold Hid; rw [EB]; omega
   clear hc0 hc2 EB
   generalize (l.getD k default).data = x at *
   generalize bytesOf (l.take k) = y at *
   go_wp2
   go_round
   case rel => exact ⟨k + 1, by omega, by go_num, by rw [EI.out]⟩
   case measure => simp [intOf]; omega
  ·obtain rfl : k = n := by omega
   go_wp2
   go_ret
   exact ⟨by rw [← hN, List.take_length]; rfl, B0.out⟩
end Go.Proofs.YtdimaoloapbeoaaGreatDoor
