/-
  Contracts of the laws' own copies of a disk that came in: toInode, toLink, toMove, toInodeS, toLinkS, toMoveS, toDisk.
-/
import Derived.Test.YtnnfnhpehacelaaGreatRows
import Derived.Test.YtnnfnhpehacelaaGreatDkSz
import Derived.Test.YtnnfnhpehacelaaGreatDkPut
namespace Go.Proofs.YtnnfnhpehacelaaGreat
open Go.ChangeShapes Go.WideShapes Go.ChangeAt Go.RowKit Go.PlainAid
set_option linter.unusedVariables false

theorem below_alloc3 (w : World) (a b c : Obj) : Below w.heap.size w (((w.alloc a).alloc b).alloc c) := (((Below.refl _ w).alloc (Nat.le_refl _) a).alloc (by simp) b).alloc (by simp; omega) c
set_option maxHeartbeats 400000 in
theorem toInode (x : Nod) (w : World) : Calls Tryz.prog 53 #[vNod x] w fun e w' => e = .returned (vNod x) ∧ Below w.heap.size w w' := by
  unfold vNod
  go_enter Tryz.func53, Tryz.ntmps53
  go_wp2
  exact bodyPost_ret (v := .agg #[.int .i64 x.id, .string x.data, .int .i64 x.sure]) (by simp [results, go_sem]) rfl ⟨rfl, below_alloc3 _ _ _ _⟩
theorem Tryz.infoNod : (Tryz.prog.info? 76).map (fun i => (i.zero, i.size, i.bytes)) = some (some (.agg #[.int .i64 0, .string ⟨#[]⟩, .int .i64 0]), 3, 32) := by kernel_rfl
/-- A row of noughts. -/
def nodZ : List Value := [.int .i64 0, .string ⟨#[]⟩, .int .i64 0]
theorem nod_made (n : Nat) : madeCells #[.int .i64 0, .string ⟨#[]⟩, .int .i64 0] (n * 3) = (List.replicate n nodZ).flatten.toArray := by
  apply Array.ext'
  rw [List.toList_toArray]
  apply List.ext_getElem?
  intro k
  have hz : ∀ r ∈ List.replicate n nodZ, r.length = 3 := fun r hr => by rw [List.eq_of_mem_replicate hr]; rfl
  by_cases hk : k < n * 3
  · have e : k = k / 3 * 3 + k % 3 := by omega
    have hf : k % 3 < 3 := Nat.mod_lt _ (by omega)
    have hj : k / 3 < n := Nat.div_lt_of_lt_mul (by omega)
    have := flat_at 3 (List.replicate n nodZ) hz (k / 3) (k % 3) (by simpa using hj) hf
    rw [← e] at this
    have hr : (List.replicate n nodZ)[k / 3]'(by simpa using hj) = nodZ := by simp
    rw [this, hr]
    have hs : (madeCells #[.int .i64 0, .string ⟨#[]⟩, .int .i64 0] (n * 3)).toList[k]? = some (#[.int .i64 0, .string ⟨#[]⟩, .int .i64 0].getD (k % 3) default) := by simp [madeCells, hk]
    rw [hs]
    have : k % 3 = 0 ∨ k % 3 = 1 ∨ k % 3 = 2 := by omega
    rcases this with h | h | h <;> rw [h] <;> rfl
  · have hl : (List.replicate n nodZ).flatten.length = n * 3 := by rw [flat_length 3 _ hz]; simp
    have hr : (List.replicate n nodZ).flatten[k]? = none := List.getElem?_eq_none (by omega)
    rw [hr]
    apply List.getElem?_eq_none
    rw [Array.length_toList, size_madeCells]
    omega

set_option maxHeartbeats 1000000 in
theorem toInodeS (l : List Nod) (v : Value) (w : World) (B : Nat) (hv : Lies w B 3 v (nodR l)) (hn : l.length ≤ 1048576) (hB : B ≤ w.heap.size) :
    Calls Tryz.prog 24 #[v] w fun e w' => ∃ u, e = .returned u ∧ Owns w' w.heap.size 76 3 u (nodR l) ∧ Below w.heap.size w w' := by
  obtain ⟨A, cap, rfl, hl⟩ := nod_look hv
  have HL : Hid (∀ j, j < l.length → ∃ g off, A = some ⟨g, off, none⟩ ∧ g < B ∧ _) := hl
  have HB : Hid (B ≤ w.heap.size) := hB
  clear hl hB hv
  have q1 : (l.length : Int) ≤ 1048576 := by omega
  generalize hN : l.length = n at *
  obtain ⟨i0, hi, hz0, hz1, hz2⟩ := info_parts Tryz.infoNod
  have hmk : ∀ wx : World, (Instr.makeSlice 31 (.int .i64 (n : Int)) (.int .i64 (n : Int))).run Tryz.prog wx = .ok (.slice (some ⟨wx.heap.size, 0, none⟩) n n) (wx.alloc (.cells (List.replicate n nodZ).flatten.toArray 76)) := fun wx => by
    have h := run_make (P := Tryz.prog) wx 31 76 i0 _ Tryz.underlying31 hi hz0 .i64 .i64 (n : Int) (n : Int) (by omega) (by omega) (by rw [hz2]; omega) (by omega)
    rw [hz1] at h
    have e : (Value.agg #[.int .i64 0, .string ⟨#[]⟩, .int .i64 0]).cells = #[.int .i64 0, .string ⟨#[]⟩, .int .i64 0] := rfl
    rw [e, Int.toNat_natCast, nod_made] at h
    exact h
  clear hi hz0 hz1 hz2
  go_enter Tryz.func24, Tryz.ntmps24
  go_wp2_with fail
  go_loopw [4] (fun v4 wr => ∃ k : Nat, k ≤ n ∧ v4 = .int .i64 (k : Int) ∧ Owns wr w.heap.size 76 3 (.slice (some ⟨w.heap.size, 0, none⟩) n n) (nodR (l.take k) ++ List.replicate (n - k) nodZ) ∧ Below w.heap.size w wr) (fun i _ => n - (intOf i).toNat)
  case atStart =>
    refine ⟨0, by omega, rfl, ?_, (Below.refl _ _).alloc (Nat.le_refl _) _⟩
    rw [List.take_zero, Nat.sub_zero, show nodR [] = [] from rfl, List.nil_append]
    refine ⟨fun r hr => by rw [List.eq_of_mem_replicate hr]; rfl, ?_⟩
    have hz : ∀ r ∈ List.replicate n nodZ, r.length = 3 := fun r hr => by rw [List.eq_of_mem_replicate hr]; rfl
    have hl := flat_length 3 (List.replicate n nodZ) hz
    rw [List.length_replicate] at hl ⊢
    exact World.ownsRow_lit w (List.replicate n nodZ).flatten.toArray n (Nat.le_refl _) (by unfold maxLen; omega) (by simpa using hl)
  case round =>
    obtain ⟨k, hk, rfl, hO, hb⟩ := hrel
    have HO : Hid (Owns wr w.heap.size 76 3 (.slice (some ⟨w.heap.size, 0, none⟩) n n) (nodR (l.take k) ++ List.replicate (n - k) nodZ)) := hO
    have HB1 : Hid (Below w.heap.size w wr) := hb
    clear hO hb
    by_cases hlt : k < n
    · have q4 : (k : Int) < (n : Int) := by omega
      obtain ⟨g, off, rfl, hg, hc0, hc1, hc2⟩ := HL.out k (by omega)
      have hgw : g < w.heap.size := Nat.lt_of_lt_of_le hg HB.out
      rw [← HB1.out.cell (p := ⟨_, _, none⟩) hgw] at hc0
      rw [← HB1.out.cell (p := ⟨_, _, none⟩) hgw] at hc1
      rw [← HB1.out.cell (p := ⟨_, _, none⟩) hgw] at hc2
      have c1 := fun wx => toInode (l.getD k default) wx
      unfold vNod at c1
      generalize hx : l.getD k default = x at *
      have HX : Hid (l.getD k default = x) := hx
      clear hx
      go_wp2_with fail
      refine (c1 _).mono ?_
      rintro e w2 ⟨rfl, hb2⟩
      have hlen : (nodR (l.take k) ++ List.replicate (n - k) nodZ).length = n := by rw [List.length_append, List.length_replicate]; simp [nodR]; omega
      have hdl : (nodR (l.take k)).length = k := by simp [nodR]; omega
      have hO2 := HO.out.on hb2
      have hO3 := hO2
      rw [show (Value.slice (some ⟨w.heap.size, 0, none⟩) n n) = .slice (some ⟨w.heap.size, 0, none⟩) (nodR (l.take k) ++ List.replicate (n - k) nodZ).length n by rw [hlen]] at hO2
      obtain ⟨y0, d0⟩ := hO2.cellX k 0 (by rw [hlen]; exact hlt) (by omega)
      have f0 := hO2.free (k * 3)
      obtain ⟨y1, d1⟩ := hO2.cellX k 1 (by rw [hlen]; exact hlt) (by omega)
      have f1 := hO2.free (k * 3 + 1)
      obtain ⟨y2, d2⟩ := hO2.cellX k 2 (by rw [hlen]; exact hlt) (by omega)
      have f2 := hO2.free (k * 3 + 2)
      rw [Nat.add_zero] at d0
      have hP := hO2.put3 k (by rw [hlen]; exact hlt) (.int .i64 x.id) (.string x.data) (.int .i64 x.sure)
      rw [hlen, fill_step _ _ _ n k hdl hlt, show nodR (l.take k) ++ [[.int .i64 x.id, .string x.data, .int .i64 x.sure]] = nodR (l.take (k + 1)) by rw [nodR_snoc l k (by omega), HX.out]; rfl] at hP
      have HP : Hid (Owns ((((w2).setCell ⟨w.heap.size, k * 3, none⟩ (.int .i64 x.id)).setCell ⟨w.heap.size, k * 3 + 1, none⟩ (.string x.data)).setCell ⟨w.heap.size, k * 3 + 2, none⟩ (.int .i64 x.sure)) w.heap.size 76 3 (.slice (some ⟨w.heap.size, 0, none⟩) n n) (nodR (l.take (k + 1)) ++ List.replicate (n - (k + 1)) nodZ)) := hP
      have HB2 : Hid (Below w.heap.size w w2) := HB1.out.trans (hb2.mono HB1.out.size)
      clear hO2 hO3 hP hb2 hlen hdl
      go_wp2_with fail
      go_roundw
      case rel => exact ⟨k + 1, by omega, by go_num, HP.out, (((HB2.out).setCell (Nat.le_refl _) _).setCell (Nat.le_refl _) _).setCell (Nat.le_refl _) _⟩
      case measure => simp [intOf]; omega
    · obtain rfl : k = n := by omega
      go_wp2_with fail
      go_ret
      refine ⟨_, rfl, ?_, HB1.out⟩
      have := HO.out
      rw [← hN, List.take_length, Nat.sub_self, List.replicate_zero, List.append_nil] at this
      rw [← hN]
      exact this
set_option maxHeartbeats 400000 in
theorem toLink (x : Lnk) (w : World) : Calls Tryz.prog 54 #[vLnk x] w fun e w' => e = .returned (vLnk x) ∧ Below w.heap.size w w' := by
  unfold vLnk
  go_enter Tryz.func54, Tryz.ntmps54
  go_wp2
  exact bodyPost_ret (v := .agg #[.string x.name, .int .i64 x.id]) (by simp [results, go_sem]) rfl ⟨rfl, below_alloc3 _ _ _ _⟩
theorem Tryz.infoLnk : (Tryz.prog.info? 79).map (fun i => (i.zero, i.size, i.bytes)) = some (some (.agg #[.string ⟨#[]⟩, .int .i64 0]), 2, 24) := by kernel_rfl
/-- A row of noughts. -/
def lnkZ : List Value := [.string ⟨#[]⟩, .int .i64 0]
theorem lnk_made (n : Nat) : madeCells #[.string ⟨#[]⟩, .int .i64 0] (n * 2) = (List.replicate n lnkZ).flatten.toArray := by
  apply Array.ext'
  rw [List.toList_toArray]
  apply List.ext_getElem?
  intro k
  have hz : ∀ r ∈ List.replicate n lnkZ, r.length = 2 := fun r hr => by rw [List.eq_of_mem_replicate hr]; rfl
  by_cases hk : k < n * 2
  · have e : k = k / 2 * 2 + k % 2 := by omega
    have hf : k % 2 < 2 := Nat.mod_lt _ (by omega)
    have hj : k / 2 < n := Nat.div_lt_of_lt_mul (by omega)
    have := flat_at 2 (List.replicate n lnkZ) hz (k / 2) (k % 2) (by simpa using hj) hf
    rw [← e] at this
    have hr : (List.replicate n lnkZ)[k / 2]'(by simpa using hj) = lnkZ := by simp
    rw [this, hr]
    have hs : (madeCells #[.string ⟨#[]⟩, .int .i64 0] (n * 2)).toList[k]? = some (#[.string ⟨#[]⟩, .int .i64 0].getD (k % 2) default) := by simp [madeCells, hk]
    rw [hs]
    have : k % 2 = 0 ∨ k % 2 = 1 := by omega
    rcases this with h | h <;> rw [h] <;> rfl
  · have hl : (List.replicate n lnkZ).flatten.length = n * 2 := by rw [flat_length 2 _ hz]; simp
    have hr : (List.replicate n lnkZ).flatten[k]? = none := List.getElem?_eq_none (by omega)
    rw [hr]
    apply List.getElem?_eq_none
    rw [Array.length_toList, size_madeCells]
    omega

set_option maxHeartbeats 1000000 in
theorem toLinkS (l : List Lnk) (v : Value) (w : World) (B : Nat) (hv : Lies w B 2 v (lnkR l)) (hn : l.length ≤ 1048576) (hB : B ≤ w.heap.size) :
    Calls Tryz.prog 25 #[v] w fun e w' => ∃ u, e = .returned u ∧ Owns w' w.heap.size 79 2 u (lnkR l) ∧ Below w.heap.size w w' := by
  obtain ⟨A, cap, rfl, hl⟩ := lnk_look hv
  have HL : Hid (∀ j, j < l.length → ∃ g off, A = some ⟨g, off, none⟩ ∧ g < B ∧ _) := hl
  have HB : Hid (B ≤ w.heap.size) := hB
  clear hl hB hv
  have q1 : (l.length : Int) ≤ 1048576 := by omega
  generalize hN : l.length = n at *
  obtain ⟨i0, hi, hz0, hz1, hz2⟩ := info_parts Tryz.infoLnk
  have hmk : ∀ wx : World, (Instr.makeSlice 32 (.int .i64 (n : Int)) (.int .i64 (n : Int))).run Tryz.prog wx = .ok (.slice (some ⟨wx.heap.size, 0, none⟩) n n) (wx.alloc (.cells (List.replicate n lnkZ).flatten.toArray 79)) := fun wx => by
    have h := run_make (P := Tryz.prog) wx 32 79 i0 _ Tryz.underlying32 hi hz0 .i64 .i64 (n : Int) (n : Int) (by omega) (by omega) (by rw [hz2]; omega) (by omega)
    rw [hz1] at h
    have e : (Value.agg #[.string ⟨#[]⟩, .int .i64 0]).cells = #[.string ⟨#[]⟩, .int .i64 0] := rfl
    rw [e, Int.toNat_natCast, lnk_made] at h
    exact h
  clear hi hz0 hz1 hz2
  go_enter Tryz.func25, Tryz.ntmps25
  go_wp2_with fail
  go_loopw [4] (fun v4 wr => ∃ k : Nat, k ≤ n ∧ v4 = .int .i64 (k : Int) ∧ Owns wr w.heap.size 79 2 (.slice (some ⟨w.heap.size, 0, none⟩) n n) (lnkR (l.take k) ++ List.replicate (n - k) lnkZ) ∧ Below w.heap.size w wr) (fun i _ => n - (intOf i).toNat)
  case atStart =>
    refine ⟨0, by omega, rfl, ?_, (Below.refl _ _).alloc (Nat.le_refl _) _⟩
    rw [List.take_zero, Nat.sub_zero, show lnkR [] = [] from rfl, List.nil_append]
    refine ⟨fun r hr => by rw [List.eq_of_mem_replicate hr]; rfl, ?_⟩
    have hz : ∀ r ∈ List.replicate n lnkZ, r.length = 2 := fun r hr => by rw [List.eq_of_mem_replicate hr]; rfl
    have hl := flat_length 2 (List.replicate n lnkZ) hz
    rw [List.length_replicate] at hl ⊢
    exact World.ownsRow_lit w (List.replicate n lnkZ).flatten.toArray n (Nat.le_refl _) (by unfold maxLen; omega) (by simpa using hl)
  case round =>
    obtain ⟨k, hk, rfl, hO, hb⟩ := hrel
    have HO : Hid (Owns wr w.heap.size 79 2 (.slice (some ⟨w.heap.size, 0, none⟩) n n) (lnkR (l.take k) ++ List.replicate (n - k) lnkZ)) := hO
    have HB1 : Hid (Below w.heap.size w wr) := hb
    clear hO hb
    by_cases hlt : k < n
    · have q4 : (k : Int) < (n : Int) := by omega
      obtain ⟨g, off, rfl, hg, hc0, hc1⟩ := HL.out k (by omega)
      have hgw : g < w.heap.size := Nat.lt_of_lt_of_le hg HB.out
      rw [← HB1.out.cell (p := ⟨_, _, none⟩) hgw] at hc0
      rw [← HB1.out.cell (p := ⟨_, _, none⟩) hgw] at hc1
      have c1 := fun wx => toLink (l.getD k default) wx
      unfold vLnk at c1
      generalize hx : l.getD k default = x at *
      have HX : Hid (l.getD k default = x) := hx
      clear hx
      go_wp2_with fail
      refine (c1 _).mono ?_
      rintro e w2 ⟨rfl, hb2⟩
      have hlen : (lnkR (l.take k) ++ List.replicate (n - k) lnkZ).length = n := by rw [List.length_append, List.length_replicate]; simp [lnkR]; omega
      have hdl : (lnkR (l.take k)).length = k := by simp [lnkR]; omega
      have hO2 := HO.out.on hb2
      have hO3 := hO2
      rw [show (Value.slice (some ⟨w.heap.size, 0, none⟩) n n) = .slice (some ⟨w.heap.size, 0, none⟩) (lnkR (l.take k) ++ List.replicate (n - k) lnkZ).length n by rw [hlen]] at hO2
      obtain ⟨y0, d0⟩ := hO2.cellX k 0 (by rw [hlen]; exact hlt) (by omega)
      have f0 := hO2.free (k * 2)
      obtain ⟨y1, d1⟩ := hO2.cellX k 1 (by rw [hlen]; exact hlt) (by omega)
      have f1 := hO2.free (k * 2 + 1)
      rw [Nat.add_zero] at d0
      have hP := hO2.put2 k (by rw [hlen]; exact hlt) (.string x.name) (.int .i64 x.id)
      rw [hlen, fill_step _ _ _ n k hdl hlt, show lnkR (l.take k) ++ [[.string x.name, .int .i64 x.id]] = lnkR (l.take (k + 1)) by rw [lnkR_snoc l k (by omega), HX.out]; rfl] at hP
      have HP : Hid (Owns (((w2).setCell ⟨w.heap.size, k * 2, none⟩ (.string x.name)).setCell ⟨w.heap.size, k * 2 + 1, none⟩ (.int .i64 x.id)) w.heap.size 79 2 (.slice (some ⟨w.heap.size, 0, none⟩) n n) (lnkR (l.take (k + 1)) ++ List.replicate (n - (k + 1)) lnkZ)) := hP
      have HB2 : Hid (Below w.heap.size w w2) := HB1.out.trans (hb2.mono HB1.out.size)
      clear hO2 hO3 hP hb2 hlen hdl
      go_wp2_with fail
      go_roundw
      case rel => exact ⟨k + 1, by omega, by go_num, HP.out, ((HB2.out).setCell (Nat.le_refl _) _).setCell (Nat.le_refl _) _⟩
      case measure => simp [intOf]; omega
    · obtain rfl : k = n := by omega
      go_wp2_with fail
      go_ret
      refine ⟨_, rfl, ?_, HB1.out⟩
      have := HO.out
      rw [← hN, List.take_length, Nat.sub_self, List.replicate_zero, List.append_nil] at this
      rw [← hN]
      exact this
set_option maxHeartbeats 400000 in
theorem toMove (x : Mov) (w : World) : Calls Tryz.prog 55 #[vMov x] w fun e w' => e = .returned (vMov x) ∧ Below w.heap.size w w' := by
  unfold vMov
  go_enter Tryz.func55, Tryz.ntmps55
  go_wp2
  exact bodyPost_ret (v := .agg #[.int .i64 x.kind, .string x.name, .string x.to, .int .i64 x.id]) (by simp [results, go_sem]) rfl ⟨rfl, below_alloc3 _ _ _ _⟩
theorem Tryz.infoMov : (Tryz.prog.info? 81).map (fun i => (i.zero, i.size, i.bytes)) = some (some (.agg #[.int .i64 0, .string ⟨#[]⟩, .string ⟨#[]⟩, .int .i64 0]), 4, 48) := by kernel_rfl
/-- A row of noughts. -/
def movZ : List Value := [.int .i64 0, .string ⟨#[]⟩, .string ⟨#[]⟩, .int .i64 0]
theorem mov_made (n : Nat) : madeCells #[.int .i64 0, .string ⟨#[]⟩, .string ⟨#[]⟩, .int .i64 0] (n * 4) = (List.replicate n movZ).flatten.toArray := by
  apply Array.ext'
  rw [List.toList_toArray]
  apply List.ext_getElem?
  intro k
  have hz : ∀ r ∈ List.replicate n movZ, r.length = 4 := fun r hr => by rw [List.eq_of_mem_replicate hr]; rfl
  by_cases hk : k < n * 4
  · have e : k = k / 4 * 4 + k % 4 := by omega
    have hf : k % 4 < 4 := Nat.mod_lt _ (by omega)
    have hj : k / 4 < n := Nat.div_lt_of_lt_mul (by omega)
    have := flat_at 4 (List.replicate n movZ) hz (k / 4) (k % 4) (by simpa using hj) hf
    rw [← e] at this
    have hr : (List.replicate n movZ)[k / 4]'(by simpa using hj) = movZ := by simp
    rw [this, hr]
    have hs : (madeCells #[.int .i64 0, .string ⟨#[]⟩, .string ⟨#[]⟩, .int .i64 0] (n * 4)).toList[k]? = some (#[.int .i64 0, .string ⟨#[]⟩, .string ⟨#[]⟩, .int .i64 0].getD (k % 4) default) := by simp [madeCells, hk]
    rw [hs]
    have : k % 4 = 0 ∨ k % 4 = 1 ∨ k % 4 = 2 ∨ k % 4 = 3 := by omega
    rcases this with h | h | h | h <;> rw [h] <;> rfl
  · have hl : (List.replicate n movZ).flatten.length = n * 4 := by rw [flat_length 4 _ hz]; simp
    have hr : (List.replicate n movZ).flatten[k]? = none := List.getElem?_eq_none (by omega)
    rw [hr]
    apply List.getElem?_eq_none
    rw [Array.length_toList, size_madeCells]
    omega

set_option maxHeartbeats 1000000 in
theorem toMoveS (l : List Mov) (v : Value) (w : World) (B : Nat) (hv : Lies w B 4 v (movR l)) (hn : l.length ≤ 1048576) (hB : B ≤ w.heap.size) :
    Calls Tryz.prog 26 #[v] w fun e w' => ∃ u, e = .returned u ∧ Owns w' w.heap.size 81 4 u (movR l) ∧ Below w.heap.size w w' := by
  obtain ⟨A, cap, rfl, hl⟩ := mov_look hv
  have HL : Hid (∀ j, j < l.length → ∃ g off, A = some ⟨g, off, none⟩ ∧ g < B ∧ _) := hl
  have HB : Hid (B ≤ w.heap.size) := hB
  clear hl hB hv
  have q1 : (l.length : Int) ≤ 1048576 := by omega
  generalize hN : l.length = n at *
  obtain ⟨i0, hi, hz0, hz1, hz2⟩ := info_parts Tryz.infoMov
  have hmk : ∀ wx : World, (Instr.makeSlice 33 (.int .i64 (n : Int)) (.int .i64 (n : Int))).run Tryz.prog wx = .ok (.slice (some ⟨wx.heap.size, 0, none⟩) n n) (wx.alloc (.cells (List.replicate n movZ).flatten.toArray 81)) := fun wx => by
    have h := run_make (P := Tryz.prog) wx 33 81 i0 _ Tryz.underlying33 hi hz0 .i64 .i64 (n : Int) (n : Int) (by omega) (by omega) (by rw [hz2]; omega) (by omega)
    rw [hz1] at h
    have e : (Value.agg #[.int .i64 0, .string ⟨#[]⟩, .string ⟨#[]⟩, .int .i64 0]).cells = #[.int .i64 0, .string ⟨#[]⟩, .string ⟨#[]⟩, .int .i64 0] := rfl
    rw [e, Int.toNat_natCast, mov_made] at h
    exact h
  clear hi hz0 hz1 hz2
  go_enter Tryz.func26, Tryz.ntmps26
  go_wp2_with fail
  go_loopw [4] (fun v4 wr => ∃ k : Nat, k ≤ n ∧ v4 = .int .i64 (k : Int) ∧ Owns wr w.heap.size 81 4 (.slice (some ⟨w.heap.size, 0, none⟩) n n) (movR (l.take k) ++ List.replicate (n - k) movZ) ∧ Below w.heap.size w wr) (fun i _ => n - (intOf i).toNat)
  case atStart =>
    refine ⟨0, by omega, rfl, ?_, (Below.refl _ _).alloc (Nat.le_refl _) _⟩
    rw [List.take_zero, Nat.sub_zero, show movR [] = [] from rfl, List.nil_append]
    refine ⟨fun r hr => by rw [List.eq_of_mem_replicate hr]; rfl, ?_⟩
    have hz : ∀ r ∈ List.replicate n movZ, r.length = 4 := fun r hr => by rw [List.eq_of_mem_replicate hr]; rfl
    have hl := flat_length 4 (List.replicate n movZ) hz
    rw [List.length_replicate] at hl ⊢
    exact World.ownsRow_lit w (List.replicate n movZ).flatten.toArray n (Nat.le_refl _) (by unfold maxLen; omega) (by simpa using hl)
  case round =>
    obtain ⟨k, hk, rfl, hO, hb⟩ := hrel
    have HO : Hid (Owns wr w.heap.size 81 4 (.slice (some ⟨w.heap.size, 0, none⟩) n n) (movR (l.take k) ++ List.replicate (n - k) movZ)) := hO
    have HB1 : Hid (Below w.heap.size w wr) := hb
    clear hO hb
    by_cases hlt : k < n
    · have q4 : (k : Int) < (n : Int) := by omega
      obtain ⟨g, off, rfl, hg, hc0, hc1, hc2, hc3⟩ := HL.out k (by omega)
      have hgw : g < w.heap.size := Nat.lt_of_lt_of_le hg HB.out
      rw [← HB1.out.cell (p := ⟨_, _, none⟩) hgw] at hc0
      rw [← HB1.out.cell (p := ⟨_, _, none⟩) hgw] at hc1
      rw [← HB1.out.cell (p := ⟨_, _, none⟩) hgw] at hc2
      rw [← HB1.out.cell (p := ⟨_, _, none⟩) hgw] at hc3
      have c1 := fun wx => toMove (l.getD k default) wx
      unfold vMov at c1
      generalize hx : l.getD k default = x at *
      have HX : Hid (l.getD k default = x) := hx
      clear hx
      go_wp2_with fail
      refine (c1 _).mono ?_
      rintro e w2 ⟨rfl, hb2⟩
      have hlen : (movR (l.take k) ++ List.replicate (n - k) movZ).length = n := by rw [List.length_append, List.length_replicate]; simp [movR]; omega
      have hdl : (movR (l.take k)).length = k := by simp [movR]; omega
      have hO2 := HO.out.on hb2
      have hO3 := hO2
      rw [show (Value.slice (some ⟨w.heap.size, 0, none⟩) n n) = .slice (some ⟨w.heap.size, 0, none⟩) (movR (l.take k) ++ List.replicate (n - k) movZ).length n by rw [hlen]] at hO2
      obtain ⟨y0, d0⟩ := hO2.cellX k 0 (by rw [hlen]; exact hlt) (by omega)
      have f0 := hO2.free (k * 4)
      obtain ⟨y1, d1⟩ := hO2.cellX k 1 (by rw [hlen]; exact hlt) (by omega)
      have f1 := hO2.free (k * 4 + 1)
      obtain ⟨y2, d2⟩ := hO2.cellX k 2 (by rw [hlen]; exact hlt) (by omega)
      have f2 := hO2.free (k * 4 + 2)
      obtain ⟨y3, d3⟩ := hO2.cellX k 3 (by rw [hlen]; exact hlt) (by omega)
      have f3 := hO2.free (k * 4 + 3)
      rw [Nat.add_zero] at d0
      have hP := hO2.put4 k (by rw [hlen]; exact hlt) (.int .i64 x.kind) (.string x.name) (.string x.to) (.int .i64 x.id)
      rw [hlen, fill_step _ _ _ n k hdl hlt, show movR (l.take k) ++ [[.int .i64 x.kind, .string x.name, .string x.to, .int .i64 x.id]] = movR (l.take (k + 1)) by rw [movR_snoc l k (by omega), HX.out]; rfl] at hP
      have HP : Hid (Owns (((((w2).setCell ⟨w.heap.size, k * 4, none⟩ (.int .i64 x.kind)).setCell ⟨w.heap.size, k * 4 + 1, none⟩ (.string x.name)).setCell ⟨w.heap.size, k * 4 + 2, none⟩ (.string x.to)).setCell ⟨w.heap.size, k * 4 + 3, none⟩ (.int .i64 x.id)) w.heap.size 81 4 (.slice (some ⟨w.heap.size, 0, none⟩) n n) (movR (l.take (k + 1)) ++ List.replicate (n - (k + 1)) movZ)) := hP
      have HB2 : Hid (Below w.heap.size w w2) := HB1.out.trans (hb2.mono HB1.out.size)
      clear hO2 hO3 hP hb2 hlen hdl
      go_wp2_with fail
      go_roundw
      case rel => exact ⟨k + 1, by omega, by go_num, HP.out, ((((HB2.out).setCell (Nat.le_refl _) _).setCell (Nat.le_refl _) _).setCell (Nat.le_refl _) _).setCell (Nat.le_refl _) _⟩
      case measure => simp [intOf]; omega
    · obtain rfl : k = n := by omega
      go_wp2_with fail
      go_ret
      refine ⟨_, rfl, ?_, HB1.out⟩
      have := HO.out
      rw [← hN, List.take_length, Nat.sub_self, List.replicate_zero, List.append_nil] at this
      rw [← hN]
      exact this
end Go.Proofs.YtnnfnhpehacelaaGreat
