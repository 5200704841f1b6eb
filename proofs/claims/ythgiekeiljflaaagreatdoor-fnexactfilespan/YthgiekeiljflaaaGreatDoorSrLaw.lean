/-
  Contracts of the laws' own helpers over slices of series: szSeries, szSeriesS, toSeries, toSeriesS, eqSeries, eqSeriesS (no condition but that the slices are short).
-/
import Derived.Test.YthgiekeiljflaaaGreatDoorGA
import Derived.Test.YthgiekeiljflaaaGreatDoorSrArg
namespace Go.Proofs.YthgiekeiljflaaaGreatDoor
open Go.ChangeShapes Go.WideShapes Go.ChangeAt Go.RowKit Go.PlainAid
set_option linter.unusedVariables false

/-- How much a series weighs. -/
def wtS1 (x : Ser) : Nat := x.key.size + x.pts.length
def wtS (l : List Ser) : Nat := (l.map wtS1).sum
theorem wtS_snoc (l : List Ser) (k : Nat) (h : k < l.length) : wtS (l.take (k + 1)) = wtS (l.take k) + wtS1 (l.getD k default) := by
  unfold wtS
  rw [take_getD l k h, List.map_append, List.sum_append]
  simp
theorem wtS_mem (l : List Ser) (x : Ser) (h : x ∈ l) : wtS1 x ≤ wtS l := by
  induction l with
  | nil => cases h
  | cons y l ih =>
    unfold wtS at ih ⊢
    rw [List.map_cons, List.sum_cons]
    rcases List.mem_cons.1 h with rfl | h
    · omega
    · have := ih h
      omega
/-- The series are short. -/
def SShort (l : List Ser) : Prop := l.length ≤ 1048576 ∧ ∀ x ∈ l, x.pts.length ≤ 1048576
theorem SShort.of {l : List Ser} {n : Nat} (h : l.length + wtS l ≤ n) (hn : n ≤ 1048576) : SShort l := by
  refine ⟨by omega, fun x hx => ?_⟩
  have := wtS_mem l x hx
  unfold wtS1 at this
  omega
theorem SShort.at {l : List Ser} (h : SShort l) (k : Nat) (hk : k < l.length) : (l.getD k default).pts.length ≤ 1048576 := h.2 _ (getD_mem l k hk)

theorem Tryz.infoSr : (Tryz.prog.info? 46).map (fun i => (i.zero, i.size, i.bytes)) = some (some (.agg #[.string ⟨#[]⟩, .slice none 0 0]), 2, 40) := by kernel_rfl
theorem sr_made (n : Nat) : madeCells #[.string ⟨#[]⟩, .slice none 0 0] (n * 2) = (List.replicate n srZ).flatten.toArray := by
  apply Array.ext'
  rw [List.toList_toArray]
  apply List.ext_getElem?
  intro k
  have hz : ∀ r ∈ List.replicate n srZ, r.length = 2 := fun r hr => by rw [List.eq_of_mem_replicate hr]; rfl
  by_cases hk : k < n * 2
  · have e : k = k / 2 * 2 + k % 2 := by omega
    have hf : k % 2 < 2 := Nat.mod_lt _ (by omega)
    have hj : k / 2 < n := Nat.div_lt_of_lt_mul (by omega)
    have := flat_at 2 (List.replicate n srZ) hz (k / 2) (k % 2) (by simpa using hj) hf
    rw [← e] at this
    have hr : (List.replicate n srZ)[k / 2]'(by simpa using hj) = srZ := by simp
    rw [this, hr]
    have hs : (madeCells #[.string ⟨#[]⟩, .slice none 0 0] (n * 2)).toList[k]? = some (#[.string ⟨#[]⟩, .slice none 0 0].getD (k % 2) default) := by simp [madeCells, hk]
    rw [hs]
    have : k % 2 = 0 ∨ k % 2 = 1 := by omega
    rcases this with h | h <;> rw [h] <;> rfl
  · have hl : (List.replicate n srZ).flatten.length = n * 2 := by rw [flat_length 2 _ hz]; simp
    have hr : (List.replicate n srZ).flatten[k]? = none := List.getElem?_eq_none (by omega)
    rw [hr]
    apply List.getElem?_eq_none
    rw [Array.length_toList, size_madeCells]
    omega
/-- A series more, whose points are laid anew. -/
theorem apart_snoc {L : List (Ser × Value)} {x : Ser} {u : Value} {w w' : World} {base : Nat} {e : TypeId} {sz : Nat} {r : List (List Value)} (h : L.Pairwise fun p q => Apart p.2 q.2) (hL : ∀ p ∈ L, Owns w base 52 2 p.2 (ptR p.1.pts)) (hu : Owns w' w.heap.size e sz u r) : (L ++ [(x, u)]).Pairwise fun p q => Apart p.2 q.2 := by
  rw [List.pairwise_append]
  refine ⟨h, List.pairwise_singleton _ _, fun p hp q hq => ?_⟩
  rw [List.mem_singleton.1 hq]
  intro g h1 h2
  have := ((hL p hp).lt g h1).2
  have := (hu.lt g h2).1
  omega
set_option maxHeartbeats 1000000 in
theorem eqSeries (x : Ser) (u v : Value) (w : World) (B : Nat) (hu : Lies w B 2 u (ptR x.pts)) (hv : Lies w B 2 v (ptR x.pts)) (hn : x.pts.length ≤ 1048576) (hB : B ≤ w.heap.size) : Calls Tryz.prog 25 #[vSr x.key u, vSr x.key v] w fun e w' => e = .returned (.bool true) ∧ Below w.heap.size w w' := by
  have HU : Hid (Lies w B 2 u (ptR x.pts)) := hu
  have HV : Hid (Lies w B 2 v (ptR x.pts)) := hv
  have HB : Hid (B ≤ w.heap.size) := hB
  have HP : Hid (x.pts.length ≤ 1048576) := hn
  unfold vSr
  obtain ⟨xk, xp⟩ := x
  simp only at HU HV HP ⊢
  clear hu hB hn hv
  obtain ⟨A, cap, rfl, _⟩ := pt_look HU.out
  obtain ⟨A', cap', rfl, _⟩ := pt_look HV.out
  have hk : (xk.toList == xk.toList) = true := by simp
  go_enter Tryz.func25, Tryz.ntmps25
  go_wp2_with fail
  have hb2 : Hid (Below w.heap.size w ((w.alloc (.cells #[.string xk, .slice A xp.length cap] 46)).alloc (.cells #[.string xk, .slice A' xp.length cap'] 46))) := below_alloc2 _ _ _
  refine (eqPointS xp _ _ _ B (HU.out.on (hb2.out.mono HB.out)) (HV.out.on (hb2.out.mono HB.out)) HP.out (Nat.le_trans HB.out hb2.out.size)).mono ?_
  rintro e w1 ⟨rfl, hb⟩
  have B1 : Hid (Below w.heap.size w w1) := hb2.out.trans (hb.mono hb2.out.size)
  clear hb hb2
  go_wp2_with fail
  go_ret
  exact ⟨rfl, B1.out⟩

set_option maxHeartbeats 1000000 in
theorem eqSeriesS (l : List Ser) (va vb : Value) (w : World) (B : Nat) (ha : SerV w B va l) (hb : SerV w B vb l) (hn : SShort l) (hB : B ≤ w.heap.size) :
    Calls Tryz.prog 8 #[va, vb] w fun e w' => e = .returned (.bool true) ∧ Below w.heap.size w w' := by
  obtain ⟨A, cap, rfl, hl⟩ := ha.look
  obtain ⟨A', cap', rfl, hl'⟩ := hb.look
  have HL : Hid (∀ j, j < l.length → ∃ g off u, A = some ⟨g, off, none⟩ ∧ g < B ∧ _) := hl
  have HL' : Hid (∀ j, j < l.length → ∃ g off u, A' = some ⟨g, off, none⟩ ∧ g < B ∧ _) := hl'
  have HB : Hid (B ≤ w.heap.size) := hB
  have HS : Hid (SShort l) := hn
  have q1 : (l.length : Int) ≤ 1048576 := by have := hn.1; omega
  clear hl hl' hB ha hb hn
  generalize hN : l.length = n at *
  go_enter Tryz.func8, Tryz.ntmps8
  go_wp2_with fail
  go_loopw [5] (fun v5 wr => ∃ k : Nat, k ≤ n ∧ v5 = .int .i64 (k : Int) ∧ Below w.heap.size w wr) (fun i _ => n - (intOf i).toNat)
  case atStart => exact ⟨0, by omega, rfl, Below.refl _ _⟩
  case round =>
    obtain ⟨k, hk, rfl, hb⟩ := hrel
    have HB1 : Hid (Below w.heap.size w wr) := hb
    clear hb
    by_cases hlt : k < n
    · have q4 : (k : Int) < (n : Int) := by omega
      obtain ⟨g, off, u, rfl, hg, ha0, ha1, hu⟩ := HL.out k hlt
      obtain ⟨g', off', u', rfl, hg', hb0, hb1, hu'⟩ := HL'.out k hlt
      have hgw : g < w.heap.size := Nat.lt_of_lt_of_le hg HB.out
      have hgw' : g' < w.heap.size := Nat.lt_of_lt_of_le hg' HB.out
      rw [← HB1.out.cell (p := ⟨_, _, none⟩) hgw] at ha0
      rw [← HB1.out.cell (p := ⟨_, _, none⟩) hgw'] at hb0
      rw [← HB1.out.cell (p := ⟨_, _, none⟩) hgw] at ha1
      rw [← HB1.out.cell (p := ⟨_, _, none⟩) hgw'] at hb1
      have c1 := fun (wx : World) (hw : Below w.heap.size w wx) => eqSeries (l.getD k default) u u' wx B (hu.on (hw.mono HB.out)) (hu'.on (hw.mono HB.out)) (HS.out.at k (by omega)) (Nat.le_trans HB.out hw.size)
      obtain ⟨A1, cap1, rfl, _⟩ := pt_look hu
      obtain ⟨A2, cap2, rfl, _⟩ := pt_look hu'
      unfold vSr at c1
      clear hu hu'
      generalize (l.getD k default).pts.length = pn at *
      generalize (l.getD k default).key = x at *
      have hsz := HB1.out.size
      go_wp2_with fail
      go_region_with (go_at_call 25; refine (c1 _ HB1.out.drew).mono ?_; rintro e w1 ⟨rfl, hb1⟩)
      all_goals go_wp2_with fail
      all_goals exact ⟨⟨k + 1, by omega, by go_num, HB1.out.trans (((Below.refl _ wr).drew.trans hb1).mono hsz)⟩, by simp [intOf]; omega⟩
    · obtain rfl : k = n := by omega
      go_wp2_with fail
      go_ret
      exact ⟨rfl, HB1.out⟩
end Go.Proofs.YthgiekeiljflaaaGreatDoor
