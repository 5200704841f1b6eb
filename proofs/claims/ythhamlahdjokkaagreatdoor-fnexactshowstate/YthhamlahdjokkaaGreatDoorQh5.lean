/- SrLaw EgRow FlAid FlWrite FlRead BtOk BtRise BldLay BtDif -/
import Derived.Test.YthhamlahdjokkaaGreatDoorQh2
import Derived.Test.YthhamlahdjokkaaGreatDoorQh4
import Derived.Test.YthhamlahdjokkaaGreatDoorQh1
import Derived.Test.YthhamlahdjokkaaGreatDoorRows
import Derived.WalkKit
import Derived.ProofKit
import Derived.OpenShut
import Derived.Below
import Derived.WalkSmall
import Derived.BigQuiet
import Derived.Deep.QuietTactic
import Derived.Deep.RegionWith
import Derived.Handy
import Derived.Test.YthhamlahdjokkaaGreatDoorQh3
import Derived.Shelf.Strings.BuilderK
open List (setIfInBounds_toArray set_cons_zero set_cons_succ)
namespace Go.Proofs.YthhamlahdjokkaaGreatDoor
open Go.ChangeShapes Go.WideShapes Go.ChangeAt Go.RowKit Go.PlainAid
set_option linter.unusedVariables false
def wtS1 (x : Ser) : Nat := x.key.size + x.pts.length
def wtS (l : List Ser) : Nat := (l.map wtS1).sum
theorem wtS_snoc (l : List Ser) (k : Nat) (h : k < l.length) : wtS (l.take (k + 1)) = wtS (l.take k) + wtS1 (l.getD k default) := by
 unfold wtS
 rw [take_getD l k h, List.map_append, List.sum_append]
 simp
theorem wtS_mem (l : List Ser) (x : Ser) (h : x ∈ l) : wtS1 x ≤ wtS l := by
 induction l with
 | nil => cases h
 | cons y l ih =>
  unfold wtS at ih ⊢
  rw [List.map_cons, List.sum_cons]
  rcases List.mem_cons.1 h with rfl | h
  ·omega
  ·have := ih h
   omega
set_option maxHeartbeats 1000000 in
theorem szSeries (x : Ser) (u : Value) (left : Int) (w : World) (B : Nat) (hu : Lies w B 2 u (ptR x.pts)) (h0 : 0 ≤ left) (h1 : left ≤ 1048576) (hx : x.key.size ≤ maxLen) (hp : x.pts.length ≤ maxLen) (hB : B ≤ w.heap.size) :
  Calls Tryz.prog 99 #[vSr x.key u, .int .i64 left] w fun e w' => (∃ r, e = .returned (.int .i64 r) ∧ Hid (r = -1 ∨ 0 ≤ r ∧ r + (wtS1 x : Int) = left)) ∧ Below w.heap.size w w' := by
 have HU : Hid (Lies w B 2 u (ptR x.pts)) := hu
 have HB : Hid (B ≤ w.heap.size) := hB
 have HP : Hid (x.pts.length ≤ maxLen) := hp
 unfold maxLen at hx
 unfold vSr wtS1
 obtain ⟨xk, xp⟩ := x
 simp only at hx HU HP ⊢
 clear hu hB hp
 obtain ⟨A, cap, rfl, _⟩ := pt_look HU.out
 generalize hn : xk.size = n at *
 have q1 : (n : Int) ≤ 9223372036854775807 := by omega
 have w2 : wrap64 (left - (n : Int)) = left - (n : Int) := by unfold wrap64; omega
 by_cases hl : left < (n : Int)
 ·have q2 : left - (n : Int) < 0 := by omega
  go_enter Tryz.func99, Tryz.ntmps99
  go_wp2_with fail
  go_ret
  exact ⟨⟨_, rfl, .inl rfl⟩, (Below.refl _ _).alloc (Nat.le_refl _) _⟩
 ·have HL : Hid ((n : Int) ≤ left) := by unfold Hid; omega
  have q2 : 0 ≤ left - (n : Int) := by omega
  have q3 : decide (left - (n : Int) < 0) = false := decide_eq_false (by omega)
  have HQ : Hid (left - (n : Int) ≤ 1048576) := by unfold Hid; omega
  have c1 := fun wx hx => szPointS xp (.slice A xp.length cap) (left - (n : Int)) wx B hx HP.out q2 HQ.out
  go_enter Tryz.func99, Tryz.ntmps99
  go_wp2_with fail
  refine (c1 _ (HU.out.on (((Below.refl _ w).alloc (Nat.le_refl _) _).mono HB.out))).mono ?_
  rintro e w' ⟨⟨r, rfl, HR⟩, rfl⟩
  rcases HR.out with rfl | ⟨hp, hq⟩
  ·go_wp2_with fail
   go_ret
   exact ⟨⟨_, rfl, .inl rfl⟩, (Below.refl _ _).alloc (Nat.le_refl _) _⟩
  ·have q5 : decide (r < 0) = false := decide_eq_false (by omega)
   go_wp2_with fail
   go_ret
   exact ⟨⟨_, rfl, .inr ⟨hp, by omega⟩⟩, (Below.refl _ _).alloc (Nat.le_refl _) _⟩
set_option maxHeartbeats 1000000 in
theorem szSeriesS (l : List Ser) (v : Value) (left : Int) (w : World) (B : Nat) (hv : SerV w B v l) (hd : SFits l) (h0 : 0 ≤ left) (h1 : left ≤ 1048576) (hB : B ≤ w.heap.size) :
  Calls Tryz.prog 55 #[v, .int .i64 left] w fun e w' => ∃ r : Int, e = .returned (.int .i64 r) ∧ (r = -1 ∨ 0 ≤ r ∧ r + ((l.length + wtS l : Nat) : Int) = left) ∧ Below w.heap.size w w' := by
 have hn := hd.1
 unfold maxLen at hn
 obtain ⟨A, cap, rfl, hl⟩ := hv.look
 have HL : Hid (∀ j, j < l.length → ∃ g off u, A = some ⟨g, off, none⟩ ∧ g < B ∧ _) := hl
 have HD : Hid (∀ x ∈ l, x.key.size ≤ maxLen ∧ x.pts.length ≤ maxLen) := hd.2
 have HB : Hid (B ≤ w.heap.size) := hB
 clear hl hd hB hv
 have q1 : (l.length : Int) ≤ 9223372036854775807 := by omega
 have w2 : wrap64 (left - (l.length : Int)) = left - (l.length : Int) := by unfold wrap64; omega
 by_cases hs : left < (l.length : Int)
 ·have q2 : left - (l.length : Int) < 0 := by omega
  go_enter Tryz.func55, Tryz.ntmps55
  go_wp2_with fail
  go_ret
  exact ⟨-1, rfl, .inl rfl, Below.refl _ _⟩
 ·have q2 : 0 ≤ left - (l.length : Int) := by omega
  have q3 : decide (left - (l.length : Int) < 0) = false := decide_eq_false (by omega)
  have HQ : Hid (0 ≤ left - (l.length : Int)) := q2
  generalize hN : l.length = n at *
  go_enter Tryz.func55, Tryz.ntmps55
  go_wp2_with fail
  clear q2 q3 w2
  go_loopw [1, 5] (fun v1 v5 wr => ∃ (k : Nat) (r : Int), k ≤ n ∧ v5 = .int .i64 (k : Int) ∧ v1 = .int .i64 r ∧ 0 ≤ r ∧ r + ((n + wtS (l.take k) : Nat) : Int) = left ∧ Below w.heap.size w wr) (fun _ i _ => n - (intOf i).toNat)
  case atStart => exact ⟨0, left - (n : Int), by omega, rfl, rfl, HQ.out, by simp [wtS], Below.refl _ _⟩
  case round =>
   obtain ⟨k, r, hk, rfl, rfl, hr0, hr, hb⟩ := hrel
   have HR : Hid (r + ((n + wtS (l.take k) : Nat) : Int) = left) := hr
   have HB1 : Hid (Below w.heap.size w wr) := hb
   have q9 : r ≤ 1048576 := by omega
   clear hr hb
   by_cases hlt : k < n
   ·have q4 : (k : Int) < (n : Int) := by omega
    obtain ⟨g, off, u, rfl, hg, hc0, hc1, hu⟩ := HL.out k (by omega)
    have hgw : g < w.heap.size := Nat.lt_of_lt_of_le hg HB.out
    rw [← HB1.out.cell (p := ⟨_, _, none⟩) hgw] at hc0
    rw [← HB1.out.cell (p := ⟨_, _, none⟩) hgw] at hc1
    have c1 := szSeries (l.getD k default) u r wr B (hu.on (HB1.out.mono HB.out)) hr0 q9 (HD.out _ (getD_mem l k (by omega))).1 (HD.out _ (getD_mem l k (by omega))).2 (Nat.le_trans HB.out HB1.out.size)
    have HW : Hid (wtS (l.take (k + 1)) = wtS (l.take k) + wtS1 (l.getD k default)) := wtS_snoc l k (by omega)
    obtain ⟨A', cap', rfl, _⟩ := pt_look hu
    unfold vSr at c1
    clear hu
    generalize wtS1 (l.getD k default) = t at *
    generalize (l.getD k default).pts.length = pn at *
    generalize (l.getD k default).key = x at *
    go_wp2_with fail
    refine c1.mono ?_
    rintro e w2 ⟨⟨r2, rfl, hr2⟩, hb2⟩
    have HR2 : Hid (r2 = -1 ∨ 0 ≤ r2 ∧ r2 + (t : Int) = r) := hr2
    have HB2 : Hid (Below w.heap.size w w2) := HB1.out.trans (hb2.mono HB1.out.size)
    clear hr2 hb2
    rcases HR2.out with rfl | ⟨hp, hq⟩
    ·go_wp2_with fail
     go_ret
     exact ⟨-1, rfl, .inl rfl, HB2.out⟩
    ·have q5 : decide (r2 < 0) = false := decide_eq_false (by omega)
     have HQ2 : Hid (r2 + (t : Int) = r) := hq
     clear hq
     go_wp2_with fail
     go_roundw
     case rel => exact ⟨k + 1, r2, by omega, by go_num, rfl, hp, by have := HR.out; have := HQ2.out; rw [HW.out]; omega, HB2.out⟩
     case measure => simp [intOf]; omega
   ·obtain rfl : k = n := by omega
    go_wp2_with fail
    go_ret
    exact ⟨r, rfl, .inr ⟨hr0, by have := HR.out; rw [← hN, List.take_length] at this; rw [← hN]; exact this⟩, HB1.out⟩
def SShort (l : List Ser) : Prop := l.length ≤ 1048576 ∧ ∀ x ∈ l, x.pts.length ≤ 1048576
theorem SShort.of {l : List Ser} {n : Nat} (h : l.length + wtS l ≤ n) (hn : n ≤ 1048576) : SShort l := by
 refine ⟨by omega, fun x hx => ?_⟩
 have := wtS_mem l x hx
 unfold wtS1 at this
 omega
theorem SShort.at {l : List Ser} (h : SShort l) (k : Nat) (hk : k < l.length) : (l.getD k default).pts.length ≤ 1048576 := h.2 _ (getD_mem l k hk)
set_option maxHeartbeats 1000000 in
theorem toSeries (x : Ser) (u : Value) (w : World) (B : Nat) (hu : Lies w B 2 u (ptR x.pts)) (hn : x.pts.length ≤ 1048576) (hB : B ≤ w.heap.size) :
  Calls Tryz.prog 105 #[vSr x.key u] w fun e w' => ∃ u', e = .returned (vSr x.key u') ∧ Owns w' w.heap.size 98 2 u' (ptR x.pts) ∧ Below w.heap.size w w' := by
 have HU : Hid (Lies w B 2 u (ptR x.pts)) := hu
 have HB : Hid (B ≤ w.heap.size) := hB
 have HP : Hid (x.pts.length ≤ 1048576) := hn
 unfold vSr
 obtain ⟨xk, xp⟩ := x
 simp only at HU HP ⊢
 clear hu hB hn
 obtain ⟨A, cap, rfl, _⟩ := pt_look HU.out
 have c1 := fun wx hx hb => toPointS xp (.slice A xp.length cap) wx B hx HP.out hb
 go_enter Tryz.func105, Tryz.ntmps105
 go_wp2_with fail
 have hB3 : Hid (Below w.heap.size w (((w.alloc (.cells #[.string xk, .slice A xp.length cap] 151)).alloc (.cells #[.string ⟨#[]⟩, .slice none 0 0] 101)).alloc (.cells #[.string xk, .slice none 0 0] 101))) := below_alloc3 _ _ _ _
 have b0 := Blk.new ((w.alloc (.cells #[.string xk, .slice A xp.length cap] 151)).alloc (.cells #[.string ⟨#[]⟩, .slice none 0 0] 101)) #[.string xk, .slice none 0 0] 101
 rw [World.size_alloc, World.size_alloc] at b0
 have r0 := (Blk.new (w.alloc (.cells #[.string xk, .slice A xp.length cap] 151)) #[.string ⟨#[]⟩, .slice none 0 0] 101).alloc (.cells #[.string xk, .slice none 0 0] 101)
 rw [World.size_alloc] at r0
 refine (c1 _ (HU.out.on (hB3.out.mono HB.out)) (Nat.le_trans HB.out hB3.out.size)).mono ?_
 have HS3 : (((w.alloc (.cells #[.string xk, .slice A xp.length cap] 151)).alloc (.cells #[.string ⟨#[]⟩, .slice none 0 0] 101)).alloc (.cells #[.string xk, .slice none 0 0] 101)).heap.size = w.heap.size + 3 := by simp only [World.size_alloc]
 rintro e w1 ⟨u, rfl, hO, hb⟩
 rw [HS3] at hO
 have B1 : Hid (Below w.heap.size w w1) := hB3.out.trans (hb.mono hB3.out.size)
 have b1 := b0.on hb (by rw [HS3]; omega)
 have r1 := r0.on hb (by rw [HS3]; omega)
 clear hb hB3 b0 HS3 c1 r0
 generalize hG : w.heap.size + 1 + 1 = G at *
 generalize hR : w.heap.size + 1 = R at *
 have HG : Hid (R + 1 = G ∧ w.heap.size + 1 = R) := ⟨hG, hR⟩
 have m0 : w1.cell? ⟨G, 0, none⟩ = some (.string xk) := b1.cell 0 _ rfl
 have m1 : w1.cell? ⟨G, 1, none⟩ = some (.slice none 0 0) := b1.cell 1 _ rfl
 have f1 := b1.free 1
 obtain ⟨A', n', c', rfl⟩ := hO.shape
 have b2 := b1.set 1 (.slice A' n' c')
 have k0 := b2.cell 0 (.string xk) rfl
 have k1 := b2.cell 1 (.slice A' n' c') rfl
 have hRG : R ≠ G := by omega
 have r2 := r1.other hRG 1 (.slice A' n' c')
 have e0 : _ = some (Value.string ⟨#[]⟩) := r2.cell 0 _ rfl
 have e1 := r2.free 0
 have r3 := r2.set 0 (.string xk)
 have e2 : _ = some (Value.slice none 0 0) := r3.cell 1 _ rfl
 have e3 := r3.free 1
 have r4 := r3.set 1 (.slice A' n' c')
 have e4 := r4.cell 0 (.string xk) rfl
 have e5 := r4.cell 1 (.slice A' n' c') rfl
 have hne : (Value.slice A' n' c').ownBlock ≠ some G := fun e => by have := (hO.lt G e).1; omega
 have hne' : (Value.slice A' n' c').ownBlock ≠ some R := fun e => by have := (hO.lt R e).1; omega
 have hO2 : Hid (Owns (((w1.setCell ⟨G, 1, none⟩ (.slice A' n' c')).setCell ⟨R, 0, none⟩ (.string xk)).setCell ⟨R, 1, none⟩ (.slice A' n' c')) w.heap.size 98 2 (.slice A' n' c') (ptR xp)) := (((hO.other hne 1 _).other hne' 0 _).other hne' 1 _).mono (by omega)
 have B2 : Hid (Below w.heap.size w (((w1.setCell ⟨G, 1, none⟩ (.slice A' n' c')).setCell ⟨R, 0, none⟩ (.string xk)).setCell ⟨R, 1, none⟩ (.slice A' n' c'))) := ((B1.out.setCell (show w.heap.size ≤ G by omega) _).setCell (show w.heap.size ≤ R by omega) _).setCell (show w.heap.size ≤ R by omega) _
 clear hO b1 b2 hG hR r1 r2 r3 r4 hne hne' hRG
 go_wp2_with fail
 exact bodyPost_ret (v := .agg #[.string xk, .slice A' n' c']) (by simp [results, go_sem, e4, e5]) rfl ⟨_, rfl, hO2.out, B2.out⟩
theorem Tryz.infoSr : (Tryz.prog.info? 101).map (fun i => (i.zero, i.size, i.bytes)) = some (some (.agg #[.string ⟨#[]⟩, .slice none 0 0]), 2, 40) := by kernel_rfl
theorem sr_made (n : Nat) : madeCells #[.string ⟨#[]⟩, .slice none 0 0] (n * 2) = (List.replicate n srZ).flatten.toArray := by
 apply Array.ext'
 rw [List.toList_toArray]
 apply List.ext_getElem?
 intro k
 have hz : ∀ r ∈ List.replicate n srZ, r.length = 2 := fun r hr => by rw [List.eq_of_mem_replicate hr]; rfl
 by_cases hk : k < n * 2
 ·have e : k = k / 2 * 2 + k % 2 := by omega
  have hf : k % 2 < 2 := Nat.mod_lt _ (by omega)
  have hj : k / 2 < n := Nat.div_lt_of_lt_mul (by omega)
  have := flat_at 2 (List.replicate n srZ) hz (k / 2) (k % 2) (by simpa using hj) hf
  rw [← e] at this
  have hr : (List.replicate n srZ)[k / 2]'(by simpa using hj) = srZ := by simp
  rw [this, hr]
  have hs : (madeCells #[.string ⟨#[]⟩, .slice none 0 0] (n * 2)).toList[k]? = some (#[.string ⟨#[]⟩, .slice none 0 0].getD (k % 2) default) := by simp [madeCells, hk]
  rw [hs]
  have : k % 2 = 0 ∨ k % 2 = 1 := by omega
  rcases this with h | h <;> rw [h] <;> rfl
 ·have hl : (List.replicate n srZ).flatten.length = n * 2 := by rw [flat_length 2 _ hz]; simp
  have hr : (List.replicate n srZ).flatten[k]? = none := List.getElem?_eq_none (by omega)
  rw [hr]
  apply List.getElem?_eq_none
  rw [Array.length_toList, size_madeCells]
  omega
theorem apart_snoc {L : List (Ser × Value)} {x : Ser} {u : Value} {w w' : World} {base : Nat} {e : TypeId} {sz : Nat} {r : List (List Value)} (h : L.Pairwise fun p q => Apart p.2 q.2) (hL : ∀ p ∈ L, Owns w base 98 2 p.2 (ptR p.1.pts)) (hu : Owns w' w.heap.size e sz u r) : (L ++ [(x, u)]).Pairwise fun p q => Apart p.2 q.2 := by
 rw [List.pairwise_append]
 refine ⟨h, List.pairwise_singleton _ _, fun p hp q hq => ?_⟩
 rw [List.mem_singleton.1 hq]
 intro g h1 h2
 have := ((hL p hp).lt g h1).2
 have := (hu.lt g h2).1
 omega
set_option maxHeartbeats 2000000 in
theorem toSeriesS (l : List Ser) (v : Value) (w : World) (B : Nat) (hv : SerV w B v l) (hn : SShort l) (hB : B ≤ w.heap.size) :
  Calls Tryz.prog 63 #[v] w fun e w' => ∃ u L, e = .returned u ∧ L.map Prod.fst = l ∧ SerO w' w.heap.size u L ∧ Below w.heap.size w w' := by
 obtain ⟨A, cap, rfl, hl⟩ := hv.look
 have HL : Hid (∀ j, j < l.length → ∃ g off u, A = some ⟨g, off, none⟩ ∧ g < B ∧ _) := hl
 have HB : Hid (B ≤ w.heap.size) := hB
 have HS : Hid (SShort l) := hn
 have q1 : (l.length : Int) ≤ 1048576 := by have := hn.1; omega
 clear hl hB hv hn
 generalize hN : l.length = n at *
 obtain ⟨i0, hi, hz0, hz1, hz2⟩ := info_parts Tryz.infoSr
 have hmk : ∀ wx : World, (Instr.makeSlice 33 (.int .i64 (n : Int)) (.int .i64 (n : Int))).run Tryz.prog wx = .ok (.slice (some ⟨wx.heap.size, 0, none⟩) n n) (wx.alloc (.cells (List.replicate n srZ).flatten.toArray 101)) := fun wx => by
  have h := run_make (P := Tryz.prog) wx 33 101 i0 _ Tryz.underlying33 hi hz0 .i64 .i64 (n : Int) (n : Int) (by omega) (by omega) (by rw [hz2]; omega) (by omega)
  rw [hz1] at h
  have e : (Value.agg #[.string ⟨#[]⟩, .slice none 0 0]).cells = #[.string ⟨#[]⟩, .slice none 0 0] := rfl
  rw [e, Int.toNat_natCast, sr_made] at h
  exact h
 clear hi hz0 hz1 hz2
 go_enter Tryz.func63, Tryz.ntmps63
 go_wp2_with fail
 go_loopw [4] (fun v4 wr => ∃ (k : Nat) (L : List (Ser × Value)), k ≤ n ∧ v4 = .int .i64 (k : Int) ∧ L.map Prod.fst = l.take k ∧ Owns wr w.heap.size 101 2 (.slice (some ⟨w.heap.size, 0, none⟩) n n) (srR L ++ List.replicate (n - k) srZ) ∧ (∀ p ∈ L, Owns wr w.heap.size 98 2 p.2 (ptR p.1.pts)) ∧ (L.Pairwise fun p q => Apart p.2 q.2) ∧ Below w.heap.size w wr) (fun i _ => n - (intOf i).toNat)
 case atStart =>
  refine ⟨0, [], by omega, rfl, by simp, ?_, fun p hp => (by cases hp), List.Pairwise.nil, (Below.refl _ _).alloc (Nat.le_refl _) _⟩
  rw [Nat.sub_zero, show srR [] = [] from rfl, List.nil_append]
  refine ⟨fun r hr => by rw [List.eq_of_mem_replicate hr]; rfl, ?_⟩
  have hz : ∀ r ∈ List.replicate n srZ, r.length = 2 := fun r hr => by rw [List.eq_of_mem_replicate hr]; rfl
  have hl := flat_length 2 (List.replicate n srZ) hz
  rw [List.length_replicate] at hl ⊢
  exact World.ownsRow_lit w (List.replicate n srZ).flatten.toArray n (Nat.le_refl _) (by unfold maxLen; omega) (by simpa using hl)
 case round =>
  obtain ⟨k, L, hk, rfl, hLm, hO, hP, hA, hb⟩ := hrel
  have HLM : Hid (L.map Prod.fst = l.take k) := hLm
  have HLL : Hid (L.length = k) := by have := congrArg List.length hLm; rw [List.length_map, List.length_take] at this; unfold Hid; omega
  have HO : Hid (Owns wr w.heap.size 101 2 (.slice (some ⟨w.heap.size, 0, none⟩) n n) (srR L ++ List.replicate (n - k) srZ)) := hO
  have HP : Hid (∀ p ∈ L, Owns wr w.heap.size 98 2 p.2 (ptR p.1.pts)) := hP
  have HA : Hid (L.Pairwise fun p q => Apart p.2 q.2) := hA
  have HB1 : Hid (Below w.heap.size w wr) := hb
  clear hO hb hLm hP hA
  by_cases hlt : k < n
  ·have q4 : (k : Int) < (n : Int) := by omega
   obtain ⟨g, off, u, rfl, hg, hc0, hc1, hu⟩ := HL.out k (by omega)
   have hgw : g < w.heap.size := Nat.lt_of_lt_of_le hg HB.out
   rw [← HB1.out.cell (p := ⟨_, _, none⟩) hgw] at hc0
   rw [← HB1.out.cell (p := ⟨_, _, none⟩) hgw] at hc1
   have c1 := toSeries (l.getD k default) u wr B (hu.on (HB1.out.mono HB.out)) (HS.out.at k (by omega)) (Nat.le_trans HB.out HB1.out.size)
   obtain ⟨A', cap', rfl, _⟩ := pt_look hu
   unfold vSr at c1
   clear hu
   have HT : Hid (l.take (k + 1) = l.take k ++ [l.getD k default]) := take_getD l k (by omega)
   generalize (l.getD k default).pts.length = pn at *
   generalize hx : l.getD k default = x at *
   have HX : Hid (l.getD k default = x) := hx
   clear hx
   go_wp2_with fail
   refine c1.mono ?_
   rintro e w2 ⟨u', rfl, hO', hb2⟩
   have hlen : (srR L ++ List.replicate (n - k) srZ).length = n := by rw [List.length_append, List.length_replicate, srR_length, HLL.out]; omega
   have hdl : (srR L).length = k := by rw [srR_length, HLL.out]
   have hO2 := HO.out.on hb2
   rw [show (Value.slice (some ⟨w.heap.size, 0, none⟩) n n) = .slice (some ⟨w.heap.size, 0, none⟩) (srR L ++ List.replicate (n - k) srZ).length n by rw [hlen]] at hO2
   obtain ⟨y0, d0⟩ := hO2.cellX k 0 (by rw [hlen]; exact hlt) (by omega)
   have f0 := hO2.free (k * 2)
   obtain ⟨y1, d1⟩ := hO2.cellX k 1 (by rw [hlen]; exact hlt) (by omega)
   have f1 := hO2.free (k * 2 + 1)
   rw [Nat.add_zero] at d0
   obtain ⟨A2, n2, c2, rfl⟩ := hO'.shape
   have hPp := hO2.put2 k (by rw [hlen]; exact hlt) (.string x.key) (.slice A2 n2 c2)
   rw [hlen, fill_step _ _ _ n k hdl hlt, show srR L ++ [[.string x.key, .slice A2 n2 c2]] = srR (L ++ [(x, Value.slice A2 n2 c2)]) by rw [srR_append]; rfl] at hPp
   have HPp : Hid (Owns ((w2.setCell ⟨w.heap.size, k * 2, none⟩ (.string x.key)).setCell ⟨w.heap.size, k * 2 + 1, none⟩ (.slice A2 n2 c2)) w.heap.size 101 2 (.slice (some ⟨w.heap.size, 0, none⟩) n n) (srR (L ++ [(x, Value.slice A2 n2 c2)]) ++ List.replicate (n - (k + 1)) srZ)) := hPp
   have HB2 : Hid (Below w.heap.size w w2) := HB1.out.trans (hb2.mono HB1.out.size)
   have hap := hO2
   have HPn : Hid (∀ p ∈ L ++ [(x, Value.slice A2 n2 c2)], Owns ((w2.setCell ⟨w.heap.size, k * 2, none⟩ (.string x.key)).setCell ⟨w.heap.size, k * 2 + 1, none⟩ (.slice A2 n2 c2)) w.heap.size 98 2 p.2 (ptR p.1.pts)) := by
    intro p hp
    have hw2 : Owns w2 w.heap.size 98 2 p.2 (ptR p.1.pts) := by
     rcases List.mem_append.1 hp with hp | hp
     ·exact (HP.out p hp).on hb2
     ·rw [List.mem_singleton.1 hp]
      exact hO'.mono HB1.out.size
    have hne : p.2.ownBlock ≠ some w.heap.size := fun e => hw2.apartT hap (by decide) w.heap.size e rfl
    exact (hw2.other hne _ _).other hne _ _
   have HAn : Hid (List.Pairwise (fun p q : Ser × Value => Apart p.2 q.2) (L ++ [(x, Value.slice A2 n2 c2)])) := apart_snoc HA.out HP.out hO'
   have HLMn : Hid ((L ++ [(x, Value.slice A2 n2 c2)]).map Prod.fst = l.take (k + 1)) := by
    unfold Hid
    rw [HT.out, List.map_append, HLM.out]
    rfl
   clear hO2 hPp hb2 hlen hdl hO' hap
   go_wp2_with fail
   go_roundw
   case rel => exact ⟨k + 1, _, by omega, by go_num, HLMn.out, HPp.out, HPn.out, HAn.out, ((HB2.out).setCell (Nat.le_refl _) _).setCell (Nat.le_refl _) _⟩
   case measure => simp [intOf]; omega
  ·obtain rfl : k = n := by omega
   go_wp2_with fail
   go_ret
   refine ⟨_, L, rfl, ?_, ⟨?_, HP.out, HA.out⟩, HB1.out⟩
   ·rw [HLM.out, ← hN, List.take_length]
   ·have := HO.out
    rw [Nat.sub_self, List.replicate_zero, List.append_nil] at this
    exact this
set_option maxHeartbeats 1000000 in
theorem eqSeries (x : Ser) (u v : Value) (w : World) (B : Nat) (hu : Lies w B 2 u (ptR x.pts)) (hv : Lies w B 2 v (ptR x.pts)) (hn : x.pts.length ≤ 1048576) (hB : B ≤ w.heap.size) : Calls Tryz.prog 110 #[vSr x.key u, vSr x.key v] w fun e w' => e = .returned (.bool true) ∧ Below w.heap.size w w' := by
 have HU : Hid (Lies w B 2 u (ptR x.pts)) := hu
 have HV : Hid (Lies w B 2 v (ptR x.pts)) := hv
 have HB : Hid (B ≤ w.heap.size) := hB
 have HP : Hid (x.pts.length ≤ 1048576) := hn
 unfold vSr
 obtain ⟨xk, xp⟩ := x
 simp only at HU HV HP ⊢
 clear hu hB hn hv
 obtain ⟨A, cap, rfl, _⟩ := pt_look HU.out
 obtain ⟨A', cap', rfl, _⟩ := pt_look HV.out
 have hk : (xk.toList == xk.toList) = true := by simp
 go_enter Tryz.func110, Tryz.ntmps110
 go_wp2_with fail
 have hb2 : Hid (Below w.heap.size w ((w.alloc (.cells #[.string xk, .slice A xp.length cap] 101)).alloc (.cells #[.string xk, .slice A' xp.length cap'] 101))) := below_alloc2 _ _ _
 refine (eqPointS xp _ _ _ B (HU.out.on (hb2.out.mono HB.out)) (HV.out.on (hb2.out.mono HB.out)) HP.out (Nat.le_trans HB.out hb2.out.size)).mono ?_
 rintro e w1 ⟨rfl, hb⟩
 have B1 : Hid (Below w.heap.size w w1) := hb2.out.trans (hb.mono hb2.out.size)
 clear hb hb2
 go_wp2_with fail
 go_ret
 exact ⟨rfl, B1.out⟩
set_option maxHeartbeats 1000000 in
theorem eqSeriesS (l : List Ser) (va vb : Value) (w : World) (B : Nat) (ha : SerV w B va l) (hb : SerV w B vb l) (hn : SShort l) (hB : B ≤ w.heap.size) :
  Calls Tryz.prog 73 #[va, vb] w fun e w' => e = .returned (.bool true) ∧ Below w.heap.size w w' := by
 obtain ⟨A, cap, rfl, hl⟩ := ha.look
 obtain ⟨A', cap', rfl, hl'⟩ := hb.look
 have HL : Hid (∀ j, j < l.length → ∃ g off u, A = some ⟨g, off, none⟩ ∧ g < B ∧ _) := hl
 have HL' : Hid (∀ j, j < l.length → ∃ g off u, A' = some ⟨g, off, none⟩ ∧ g < B ∧ _) := hl'
 have HB : Hid (B ≤ w.heap.size) := hB
 have HS : Hid (SShort l) := hn
 have q1 : (l.length : Int) ≤ 1048576 := by have := hn.1; omega
 clear hl hl' hB ha hb hn
 generalize hN : l.length = n at *
 go_enter Tryz.func73, Tryz.ntmps73
 go_wp2_with fail
 go_loopw [5] (fun v5 wr => ∃ k : Nat, k ≤ n ∧ v5 = .int .i64 (k : Int) ∧ Below w.heap.size w wr) (fun i _ => n - (intOf i).toNat)
 case atStart => exact ⟨0, by omega, rfl, Below.refl _ _⟩
 case round =>
  obtain ⟨k, hk, rfl, hb⟩ := hrel
  have HB1 : Hid (Below w.heap.size w wr) := hb
  clear hb
  by_cases hlt : k < n
  ·have q4 : (k : Int) < (n : Int) := by omega
   obtain ⟨g, off, u, rfl, hg, ha0, ha1, hu⟩ := HL.out k hlt
   obtain ⟨g', off', u', rfl, hg', hb0, hb1, hu'⟩ := HL'.out k hlt
   have hgw : g < w.heap.size := Nat.lt_of_lt_of_le hg HB.out
   have hgw' : g' < w.heap.size := Nat.lt_of_lt_of_le hg' HB.out
   rw [← HB1.out.cell (p := ⟨_, _, none⟩) hgw] at ha0
   rw [← HB1.out.cell (p := ⟨_, _, none⟩) hgw'] at hb0
   rw [← HB1.out.cell (p := ⟨_, _, none⟩) hgw] at ha1
   rw [← HB1.out.cell (p := ⟨_, _, none⟩) hgw'] at hb1
   have c1 := fun (wx : World) (hw : Below w.heap.size w wx) => eqSeries (l.getD k default) u u' wx B (hu.on (hw.mono HB.out)) (hu'.on (hw.mono HB.out)) (HS.out.at k (by omega)) (Nat.le_trans HB.out hw.size)
   obtain ⟨A1, cap1, rfl, _⟩ := pt_look hu
   obtain ⟨A2, cap2, rfl, _⟩ := pt_look hu'
   unfold vSr at c1
   clear hu hu'
   generalize (l.getD k default).pts.length = pn at *
   generalize (l.getD k default).key = x at *
   have hsz := HB1.out.size
   go_wp2_with fail
   go_region_with (go_at_call 110; refine (c1 _ HB1.out.drew).mono ?_; rintro e w1 ⟨rfl, hb1⟩)
   all_goals go_wp2_with fail
   all_goals exact ⟨⟨k + 1, by omega, by go_num, HB1.out.trans (((Below.refl _ wr).drew.trans hb1).mono hsz)⟩, by simp [intOf]; omega⟩
  ·obtain rfl : k = n := by omega
   go_wp2_with fail
   go_ret
   exact ⟨rfl, HB1.out⟩
end Go.Proofs.YthhamlahdjokkaaGreatDoor
namespace Go.Proofs.YthhamlahdjokkaaGreatDoor
open Go.RowKit Go.PlainAid
def stC (s : ByteArray) : List Value := [.string s]
def stR (l : List ByteArray) : List (List Value) := l.map stC
theorem stR_length (l : List ByteArray) : (stR l).length = l.length := by simp [stR]
theorem stR_append (l m : List ByteArray) : stR (l ++ m) = stR l ++ stR m := by simp [stR]
theorem stR_flat (l : List ByteArray) : (stR l).flatten = strCells l := by
 induction l with
 | nil => rfl
 | cons x l ih => simp only [stR, strCells, List.map_cons, List.flatten_cons] at ih ⊢; rw [ih]; rfl
theorem stR_sz (l : List ByteArray) : ∀ r ∈ stR l, r.length = 1 := by
 intro r hr
 obtain ⟨x, _, rfl⟩ := List.mem_map.1 hr
 rfl
theorem st_one (l : List ByteArray) : ∀ r ∈ stR l, ∀ y ∈ r, y.oneCell' = true := by
 intro r hr y hy
 obtain ⟨x, _, rfl⟩ := List.mem_map.1 hr
 simp only [stC, List.mem_cons, List.not_mem_nil, or_false] at hy
 rw [hy]; rfl
theorem owns_strs {w : World} {base : Nat} {v : Value} {l : List ByteArray} (h : Owns w base 9 1 v (stR l)) : Strs w base v l := by
 have := h.2
 rw [stR_length, stR_flat] at this
 exact this
theorem strs_owns {w : World} {base : Nat} {v : Value} {l : List ByteArray} (h : Strs w base v l) : Owns w base 9 1 v (stR l) := ⟨stR_sz l, by rw [stR_length, stR_flat]; exact h⟩
theorem st_look {w : World} {B : Nat} {v : Value} {l : List ByteArray} (h : Lies w B 1 v (stR l)) : ∃ A cap, v = .slice A l.length cap ∧ ∀ j, j < l.length → ∃ g off, A = some ⟨g, off, none⟩ ∧ g < B ∧ w.cell? ⟨g, off + j, none⟩ = some (.string (l.getD j default)) := by
 obtain ⟨A, cap, e, h⟩ := h.look
 refine ⟨A, cap, by rw [e]; simp [stR], fun j hj => ?_⟩
 rw [← getD_at l j hj]
 obtain ⟨g, off, e, hg, hc⟩ := h j (by simpa [stR] using hj)
 refine ⟨g, off, e, hg, ?_⟩
 have := hc 0 _ (by omega) (by simp [stR, stC]; rfl)
 simpa using this
theorem st_cells {w : World} {B n c : Nat} {A : Option Addr} {l : List ByteArray} (h : Lies w B 1 (.slice A n c) (stR l)) : ∀ j, j < l.length → ∃ g off, A = some ⟨g, off, none⟩ ∧ g < B ∧ w.cell? ⟨g, off + j, none⟩ = some (.string (l.getD j default)) := by
 obtain ⟨A', c', e, hl⟩ := st_look h
 cases e
 exact hl
def laR (us : List Value) : List (List Value) := us.map fun u => [u]
theorem laR_length (us : List Value) : (laR us).length = us.length := by simp [laR]
theorem laR_append (l m : List Value) : laR (l ++ m) = laR l ++ laR m := by simp [laR]
theorem la_look {w : World} {B : Nat} {v : Value} {us : List Value} (h : Lies w B 1 v (laR us)) : ∃ A cap, v = .slice A us.length cap ∧ ∀ j, j < us.length → ∃ g off, A = some ⟨g, off, none⟩ ∧ g < B ∧ w.cell? ⟨g, off + j, none⟩ = some (us.getD j default) := by
 obtain ⟨A, cap, e, h⟩ := h.look
 refine ⟨A, cap, by rw [e]; simp [laR], fun j hj => ?_⟩
 rw [← getD_at us j hj]
 obtain ⟨g, off, e, hg, hc⟩ := h j (by simpa [laR] using hj)
 refine ⟨g, off, e, hg, ?_⟩
 have := hc 0 _ (by omega) (by simp [laR]; rfl)
 simpa using this
def LayL (w : World) (B : Nat) (us : List Value) (ls : List (List Ser)) : Prop := us.length = ls.length ∧ ∀ j, j < ls.length → SerV w B (us.getD j default) (ls.getD j [])
def LayV (w : World) (B : Nat) (v : Value) (ls : List (List Ser)) : Prop := ∃ us, Lies w B 1 v (laR us) ∧ LayL w B us ls
theorem LayL.on {w w' : World} {B : Nat} {us : List Value} {ls : List (List Ser)} (h : LayL w B us ls) (hb : Below B w w') : LayL w' B us ls := ⟨h.1, fun j hj => (h.2 j hj).on hb⟩
theorem LayL.mono {w : World} {B C : Nat} {us : List Value} {ls : List (List Ser)} (h : LayL w B us ls) (hB : B ≤ C) : LayL w C us ls := ⟨h.1, fun j hj => (h.2 j hj).mono hB⟩
theorem LayV.on {w w' : World} {B : Nat} {v : Value} {ls : List (List Ser)} (h : LayV w B v ls) (hb : Below B w w') : LayV w' B v ls := h.imp fun _ h => ⟨h.1.on hb, h.2.on hb⟩
theorem LayV.mono {w : World} {B C : Nat} {v : Value} {ls : List (List Ser)} (h : LayV w B v ls) (hB : B ≤ C) : LayV w C v ls := h.imp fun _ h => ⟨h.1.mono hB, h.2.mono hB⟩
theorem LayL.snoc {w : World} {B : Nat} {us : List Value} {ls : List (List Ser)} (h : LayL w B us ls) {u : Value} {l : List Ser} (hu : SerV w B u l) : LayL w B (us ++ [u]) (ls ++ [l]) := by
 refine ⟨by simp [h.1], fun j hj => ?_⟩
 rw [List.length_append, List.length_singleton] at hj
 by_cases e : j < ls.length
 ·rw [List.getD_eq_getElem?_getD, List.getD_eq_getElem?_getD, List.getElem?_append_left (by rw [h.1]; exact e), List.getElem?_append_left e, ← List.getD_eq_getElem?_getD, ← List.getD_eq_getElem?_getD]
  exact h.2 j e
 ·obtain rfl : j = ls.length := by omega
  rw [List.getD_eq_getElem?_getD, List.getD_eq_getElem?_getD, List.getElem?_append_right (by rw [h.1]; exact Nat.le_refl _), List.getElem?_append_right (Nat.le_refl _), h.1, Nat.sub_self]
  exact hu
theorem LayV.look {w : World} {B : Nat} {v : Value} {ls : List (List Ser)} (h : LayV w B v ls) : ∃ A cap, v = .slice A ls.length cap ∧ ∀ j, j < ls.length → ∃ g off u, A = some ⟨g, off, none⟩ ∧ g < B ∧ w.cell? ⟨g, off + j, none⟩ = some u ∧ SerV w B u (ls.getD j []) := by
 obtain ⟨us, h1, h2⟩ := h
 obtain ⟨A, cap, e, hl⟩ := la_look h1
 refine ⟨A, cap, by rw [e, h2.1], fun j hj => ?_⟩
 obtain ⟨g, off, e, hg, hc⟩ := hl j (by rw [h2.1]; exact hj)
 exact ⟨g, off, _, e, hg, hc, h2.2 j hj⟩
def vE (f : Int) (vc vf : Value) : Value := .agg #[.int .i64 f, vc, vf]
def EngV (w : World) (B : Nat) (v : Value) (e : Eng) : Prop := ∃ vc vf, v = vE e.floor vc vf ∧ SerV w B vc e.cache ∧ Lies w B 1 vf (stR e.files)
theorem EngV.on {w w' : World} {B : Nat} {v : Value} {e : Eng} (h : EngV w B v e) (hb : Below B w w') : EngV w' B v e := by
 obtain ⟨vc, vf, h1, h2, h3⟩ := h
 exact ⟨vc, vf, h1, h2.on hb, h3.on hb⟩
theorem EngV.mono {w : World} {B C : Nat} {v : Value} {e : Eng} (h : EngV w B v e) (hB : B ≤ C) : EngV w C v e := by
 obtain ⟨vc, vf, h1, h2, h3⟩ := h
 exact ⟨vc, vf, h1, h2.mono hB, h3.mono hB⟩
def EngO (w : World) (base : Nat) (v : Value) (e : Eng) : Prop := ∃ vc vf L, v = vE e.floor vc vf ∧ L.map Prod.fst = e.cache ∧ SerO w base vc L ∧ Strs w base vf e.files
theorem EngO.view {w : World} {base : Nat} {v : Value} {e : Eng} (h : EngO w base v e) : EngV w w.heap.size v e := by
 obtain ⟨vc, vf, L, h1, h2, h3, h4⟩ := h
 exact ⟨vc, vf, h1, by rw [← h2]; exact h3.view, (strs_owns h4).lies⟩
theorem EngO.on {w w' : World} {base : Nat} {v : Value} {e : Eng} (h : EngO w base v e) (hb : Below w.heap.size w w') : EngO w' base v e := by
 obtain ⟨vc, vf, L, h1, h2, h3, h4⟩ := h
 exact ⟨vc, vf, L, h1, h2, h3.on hb, h4.on hb⟩
theorem EngO.mono {w : World} {base base' : Nat} {v : Value} {e : Eng} (h : EngO w base v e) (hb : base' ≤ base) : EngO w base' v e := by
 obtain ⟨vc, vf, L, h1, h2, h3, h4⟩ := h
 exact ⟨vc, vf, L, h1, h2, h3.mono hb, h4.mono hb⟩
def EShort (e : Eng) : Prop := SShort e.cache ∧ (∀ x ∈ e.cache, x.key.size ≤ maxLen) ∧ e.files.length ≤ 1048576 ∧ ∀ s ∈ e.files, s.size ≤ 1048576
end Go.Proofs.YthhamlahdjokkaaGreatDoor
namespace Go.Proofs.YthhamlahdjokkaaGreatDoor
open Go.ChangeShapes Go.WideShapes Go.ChangeAt Go.RowKit Go.PlainAid
set_option linter.unusedVariables false
def KeptBut (g : Nat) (w w' : World) : Prop := Below g w w' ∧ ∀ b, b ≠ g → b < w.heap.size → w'.heap[b]? = w.heap[b]?
theorem KeptBut.of {g : Nat} {w w' : World} (h : Below w.heap.size w w') (hg : g < w.heap.size) : KeptBut g w w' := ⟨h.mono (Nat.le_of_lt hg), fun b _ hb => h.block b hb⟩
theorem KeptBut.refl (g : Nat) (w : World) : KeptBut g w w := ⟨Below.refl _ _, fun _ _ _ => rfl⟩
theorem KeptBut.trans {g : Nat} {w w' w'' : World} (h : KeptBut g w w') (h' : KeptBut g w' w'') : KeptBut g w w'' := ⟨h.1.trans h'.1, fun b hb hl => by rw [h'.2 b hb (Nat.lt_of_lt_of_le hl h.1.size), h.2 b hb hl]⟩
theorem KeptBut.set {g : Nat} {w w' : World} (h : KeptBut g w w') (i : Nat) (x : Value) : KeptBut g w (w'.setCell ⟨g, i, none⟩ x) := ⟨h.1.setCell (Nat.le_refl _) _, fun b hb hl => by rw [Below.heap_setCell _ _ _ _ hb]; exact h.2 b hb hl⟩
theorem KeptBut.setNew {g k : Nat} {w w' : World} (h : KeptBut g w w') (hk : w.heap.size ≤ k) (hg : g ≤ k) (i : Nat) (x : Value) : KeptBut g w (w'.setCell ⟨k, i, none⟩ x) := ⟨h.1.setCell hg _, fun b hb hl => by rw [Below.heap_setCell _ _ _ _ (show b ≠ k by omega)]; exact h.2 b hb hl⟩
theorem KeptBut.drew {g : Nat} {w w' : World} (h : KeptBut g w w') : KeptBut g w w'.drew := ⟨h.1.drew, h.2⟩
theorem KeptBut.size {g : Nat} {w w' : World} (h : KeptBut g w w') : w.heap.size ≤ w'.heap.size := h.1.size
theorem KeptBut.owns {g : Nat} {w w' : World} {base : Nat} {e : TypeId} {sz : Nat} {v : Value} {rows : List (List Value)} (h : KeptBut g w w') (ho : Owns w base e sz v rows) (hne : v.ownBlock ≠ some g) : Owns w' base e sz v rows := ho.kept fun k hk hv => h.2 k (fun e => hne (by rw [hv, e])) hk
theorem KeptBut.blk {g b : Nat} {w w' : World} {cs : Array Value} {t : TypeId} (h : KeptBut g w w') (hb : Blk w b cs t) (hne : b ≠ g) : Blk w' b cs t := (h.2 b hne hb.lt).trans hb
theorem Owns.notBlk {w : World} {base : Nat} {e t : TypeId} {sz g : Nat} {cs : Array Value} {v : Value} {rows : List (List Value)} (h : Owns w base e sz v rows) (hb : Blk w g cs t) (hne : e ≠ t) : v.ownBlock ≠ some g := fun hv => by
 rcases h.2.2 with ⟨rfl, _⟩ | ⟨g1, c1, cur1, rfl, _, k1, _⟩
 ·cases hv
 ·cases hv
  rw [hb] at k1
  cases k1
  exact hne rfl
def spC (x : Spot) : List Value := [.string x.key, .int .i64 (x.at' : Int), .int .i64 (x.size : Int), .int .i64 (x.first : Int), .int .i64 (x.last : Int)]
def spR (l : List Spot) : List (List Value) := l.map spC
theorem spR_length (l : List Spot) : (spR l).length = l.length := by simp [spR]
theorem spR_append (l m : List Spot) : spR (l ++ m) = spR l ++ spR m := by simp [spR]
theorem sp_one (x : Spot) : ∀ u ∈ spC x, u.oneCell' = true := by
 intro u hu
 simp only [spC, List.mem_cons, List.not_mem_nil, or_false] at hu
 rcases hu with rfl | rfl | rfl | rfl | rfl <;> rfl
theorem sp_look {w : World} {B : Nat} {v : Value} {l : List Spot} (h : Lies w B 5 v (spR l)) : ∃ A cap, v = .slice A l.length cap ∧ ∀ j, j < l.length → ∃ g off, A = some ⟨g, off, none⟩ ∧ g < B ∧
  w.cell? ⟨g, off + j * 5, none⟩ = some (.string (l.getD j default).key) ∧ w.cell? ⟨g, off + j * 5 + 1, none⟩ = some (.int .i64 ((l.getD j default).at' : Int)) ∧ w.cell? ⟨g, off + j * 5 + 2, none⟩ = some (.int .i64 ((l.getD j default).size : Int)) ∧
  w.cell? ⟨g, off + j * 5 + 3, none⟩ = some (.int .i64 ((l.getD j default).first : Int)) ∧ w.cell? ⟨g, off + j * 5 + 4, none⟩ = some (.int .i64 ((l.getD j default).last : Int)) := by
 obtain ⟨A, cap, e, h⟩ := h.look
 refine ⟨A, cap, by rw [e]; simp [spR], fun j hj => ?_⟩
 rw [← getD_at l j hj]
 obtain ⟨g, off, e, hg, hc⟩ := h j (by simpa [spR] using hj)
 refine ⟨g, off, e, hg, ?_, ?_, ?_, ?_, ?_⟩
 ·have := hc 0 _ (by omega) (by simp [spR, spC]; rfl); simpa [Nat.add_assoc] using this
 ·have := hc 1 _ (by omega) (by simp [spR, spC]; rfl); simpa [Nat.add_assoc] using this
 ·have := hc 2 _ (by omega) (by simp [spR, spC]; rfl); simpa [Nat.add_assoc] using this
 ·have := hc 3 _ (by omega) (by simp [spR, spC]; rfl); simpa [Nat.add_assoc] using this
 ·have := hc 4 _ (by omega) (by simp [spR, spC]; rfl); simpa [Nat.add_assoc] using this
def vSp (x : Spot) : Value := .agg #[.string x.key, .int .i64 (x.at' : Int), .int .i64 (x.size : Int), .int .i64 (x.first : Int), .int .i64 (x.last : Int)]
theorem Tryz.infoSp : (Tryz.prog.info? 127).map (fun i => (i.zero, i.size, i.bytes)) = some (some (.agg #[.string ⟨#[]⟩, .int .i64 0, .int .i64 0, .int .i64 0, .int .i64 0]), 5, 48) := by kernel_rfl
def SpFits (x : Spot) : Prop := x.key.size ≤ 1048576 ∧ x.at' ≤ 562949953421311 ∧ x.size ≤ 562949953421311 ∧ x.first ≤ 562949953421311 ∧ x.last ≤ 562949953421311
def CurB (w : World) (g : Nat) (t : ByteArray) (p : Nat) (ty : TypeId) : Prop := Blk w g #[.string t, .int .i64 (p : Int)] ty
end Go.Proofs.YthhamlahdjokkaaGreatDoor
namespace Go.Proofs.YthhamlahdjokkaaGreatDoor
open Go.ChangeShapes Go.WideShapes Go.ChangeAt Go.RowKit Go.PlainAid
set_option linter.unusedVariables false
set_option maxHeartbeats 1000000 in
theorem placeV (w : World) (g p : Nat) (hc : w.cell? ⟨g, 1, none⟩ = some (.int .i64 (p : Int))) : Calls Tryz.prog 83 #[.pointer (some ⟨g, 0, none⟩)] w fun e w' => e = .returned (.int .i64 (p : Int)) ∧ w = w' := by
 go_enter Tryz.func83, Tryz.ntmps83
 go_wp2
 go_ret
 exact ⟨rfl, rfl⟩
set_option maxHeartbeats 1000000 in
theorem goToV (t : ByteArray) (p a : Nat) (w : World) (g : Nat) (ty : TypeId) (hb : CurB w g t p ty) (hs : t.size ≤ 1048576) (ha : a ≤ 9007199254740992) : Calls Tryz.prog 118 #[.pointer (some ⟨g, 0, none⟩), .int .i64 (a : Int)] w fun e w' => (∃ u, e = .returned u) ∧ w' = w.setCell ⟨g, 1, none⟩ (.int .i64 ((min a t.size : Nat) : Int)) := by
 have c0 : w.cell? ⟨g, 0, none⟩ = some (.string t) := Blk.cell hb 0 _ rfl
 have c1 : w.cell? ⟨g, 1, none⟩ = some (.int .i64 (p : Int)) := Blk.cell hb 1 _ rfl
 have f1 := Blk.free hb 1
 have q0 : (t.size : Int) ≤ 1048576 := by omega
 have q1 : (a : Int) ≤ 9007199254740992 := by omega
 have hm : ((min a t.size : Nat) : Int) = min (a : Int) (t.size : Int) := by omega
 clear hb
 rw [hm]
 go_enter Tryz.func118, Tryz.ntmps118
 go_wp2_with fail
 exact bodyPost_end (v := .tuple #[]) (by simp [results, go_sem]) rfl ⟨⟨_, rfl⟩, rfl⟩
set_option maxHeartbeats 1000000 in
theorem writeV (t part : ByteArray) (w : World) (g p : Nat) (hb : CurB w g t p 123) (hs : t.size + part.size ≤ 1000000) : Calls Tryz.prog 81 #[.pointer (some ⟨g, 0, none⟩), .string part] w fun e w' => (∃ u, e = .returned u) ∧ CurB w' g (t ++ part) (t ++ part).size 123 ∧ KeptBut g w w' := by
 have HB : Hid (CurB w g t p 123) := hb
 have c0 : w.cell? ⟨g, 0, none⟩ = some (.string t) := Blk.cell hb 0 _ rfl
 have f0 := Blk.free hb 0
 have q0 : (t.size : Int) + (part.size : Int) ≤ 1000000 := by omega
 have HN : Hid ((t ++ part).size = t.size + part.size) := ByteArray.size_append
 clear hb hs
 have b1 := Blk.set HB.out 0 (.string (t ++ part))
 have B1 : Hid (CurB (w.setCell ⟨g, 0, none⟩ (.string (t ++ part))) g (t ++ part) p 123) := b1
 have K1 : Hid (KeptBut g w (w.setCell ⟨g, 0, none⟩ (.string (t ++ part)))) := (KeptBut.refl g w).set 0 _
 clear b1
 have q1 : ((t ++ part).size : Int) ≤ 1048576 := by have := HN.out; omega
 generalize htp : t ++ part = tp at *
 generalize hW : w.setCell ⟨g, 0, none⟩ (.string tp) = W1 at *
 have S0 : Hid (W1.drew.cell? ⟨g, 0, none⟩ = some (.string tp)) := Blk.cell B1.out 0 _ rfl
 have c1 := goToV tp p tp.size W1.drew g 123 B1.out (by omega) (by omega)
 have HM : Hid (min tp.size tp.size = tp.size) := Nat.min_self _
 rw [HM.out] at c1
 go_enter Tryz.func81, Tryz.ntmps81
 go_wp2_with fail
 refine wp_region_until (fun w' => w'.cell? ⟨g, 0, none⟩ = some (.string tp)) (fun _ => false) 10 (by rfl) (by kernel_rfl) ?_
 refine tKf 0 S0.out ?_
 refine tKf 1 S0.out ?_
 refine tKf 2 S0.out ?_
 refine tKf 3 S0.out ?_
 refine tKf 4 S0.out ?_
 refine tKf 5 S0.out ?_
 refine tKf 6 S0.out ?_
 refine tKf 7 S0.out ?_
 refine tKf 8 S0.out ?_
 refine uNe 9 (fun K hK => ?_)
 go_simp
 refine c1.mono ?_
 rintro e w2 ⟨⟨u, rfl⟩, rfl⟩
 have B2 : Hid (CurB (W1.drew.setCell ⟨g, 1, none⟩ (.int .i64 (tp.size : Int))) g tp tp.size 123) := Blk.set B1.out 1 _
 have K2 : Hid (KeptBut g w (W1.drew.setCell ⟨g, 1, none⟩ (.int .i64 (tp.size : Int)))) := K1.out.drew.set 1 _
 go_wp2_with fail
 refine hK.out _ _ (fun _ _ => Blk.cell B2.out 0 _ rfl) ?_
 clear hK K
 try simp only [Act.put, zQ1, zQ2, zQ3]
 refine until_done (by kernel_rfl) ?_ _
 go_wp2_with fail
 exact bodyPost_end (v := .tuple #[]) (by simp [results, go_sem]) rfl ⟨⟨_, rfl⟩, B2.out, K2.out⟩
end Go.Proofs.YthhamlahdjokkaaGreatDoor
namespace Go.Proofs.YthhamlahdjokkaaGreatDoor
open Go.ChangeShapes Go.WideShapes Go.ChangeAt Go.RowKit Go.PlainAid
set_option linter.unusedVariables false
set_option maxHeartbeats 2000000 in
theorem takeVarV (s : ByteArray) (p g : Nat) (w : World) (hb : CurB w g s p 231) (hs : s.size ≤ 1048576) (hp : p ≤ s.size) : Calls Tryz.prog 207 #[.pointer (some ⟨g, 0, none⟩)] w fun e w' => e = .returned (.int .i64 (tkN s p : Int)) ∧ CurB w' g s (tkP s p) 231 ∧ KeptBut g w w' := by
 have HB : Hid (CurB w g s p 231) := hb
 have S0 : Hid (w.drew.cell? ⟨g, 0, none⟩ = some (.string s) ∧ w.drew.cell? ⟨g, 1, none⟩ = some (.int .i64 (p : Int))) := ⟨Blk.cell hb 0 _ rfl, Blk.cell hb 1 _ rfl⟩
 have S1 : Hid (w.drew.drew.cell? ⟨g, 0, none⟩ = some (.string s) ∧ w.drew.drew.cell? ⟨g, 1, none⟩ = some (.int .i64 (p : Int))) := S0.out
 have HS : Hid (s.size ≤ 1048576) := hs
 have q0 : (s.size : Int) ≤ 1048576 := by omega
 have q1 : (p : Int) ≤ (s.size : Int) := by omega
 have hk := rvK_le (rest s p)
 rw [rest_size] at hk
 have HK : Hid (tkP s p = p + rvK (rest s p) ∧ tkN s p = rvN (rest s p) ∧ tkP s p ≤ s.size) := ⟨rfl, rfl, tkP_le s p hp⟩
 have c1 : Calls Tryz.prog 166 #[.string (s.extract p s.size)] w.drew fun e w' => e = .returned (.tuple #[.int .i64 (rvN (rest s p) : Int), .int .i64 (rvK (rest s p) : Int)]) ∧ w.drew = w' := by
  refine (impl_readVar (s.extract p s.size) w.drew (by rw [ByteArray.size_extract]; omega)).mono ?_
  rintro e w' ⟨h, rfl⟩
  obtain ⟨n, k, h1, rfl⟩ := h.rd
  obtain ⟨rfl, rfl⟩ := rv_is h1
  exact ⟨rfl, rfl⟩
 clear hb hs hp
 generalize rvN (rest s p) = nn at *
 generalize rvK (rest s p) = kk at *
 have q2 : (p : Int) + (kk : Int) ≤ (s.size : Int) := by omega
 have HM : Hid (min (p + kk) s.size = p + kk) := by unfold Hid; omega
 have e8 : IntKind.i64.wrap ((p : Int) + (kk : Int)) = (p : Int) + (kk : Int) := by rw [IntKind.wrap_i64]; omega
 have cg := goToV s p (p + kk) w.drew.drew g 231 HB.out HS.out (by have := HS.out; omega)
 rw [HM.out] at cg
 rw [Int.natCast_add] at cg
 go_enter Tryz.func207, Tryz.ntmps207
 go_wp2_with fail
 refine wp_region_until (fun w' => w'.cell? ⟨g, 0, none⟩ = some (.string s) ∧ w'.cell? ⟨g, 1, none⟩ = some (.int .i64 (p : Int))) (fun _ => false) 16 (by rfl) (by kernel_rfl) ?_
 refine tKf 0 S0.out ?_
 refine tKf 1 S0.out ?_
 refine tKf 2 S0.out ?_
 refine tKf 3 S0.out ?_
 refine tKf 4 S0.out ?_
 refine tKf 5 S0.out ?_
 refine tKf 6 S0.out ?_
 refine tKf 7 S0.out ?_
 refine uNe 8 (fun K hK => ?_)
 go_simp
 refine (placeV _ g p S0.out.2).mono ?_
 rintro e w' ⟨rfl, rfl⟩
 go_wp2_with fail
 refine hK.out _ _ (fun _ h => h) ?_
 clear hK K
 try simp only [Act.put, zQ1, zQ2, zQ3]
 refine pUf 9 ?_
 refine uNe 10 (fun K hK => ?_)
 go_simp
 refine c1.mono ?_
 rintro e w' ⟨rfl, rfl⟩
 go_wp2_with fail
 refine hK.out _ _ (fun _ h => h) ?_
 clear hK K
 try simp only [Act.put, zQ1, zQ2, zQ3]
 refine pUf 11 ?_
 refine pUf 12 ?_
 refine pUf 13 ?_
 refine pUf 14 ?_
 refine pUf 15 ?_
 refine until_done (by kernel_rfl) ?_ _
 go_wp2_with fail
 refine wp_region_until (fun w' => w'.cell? ⟨g, 0, none⟩ = some (.string s) ∧ w'.cell? ⟨g, 1, none⟩ = some (.int .i64 (p : Int))) (fun i => i == 9) 10 (by rfl) (by kernel_rfl) ?_
 refine tKf 0 S0.out ?_
 refine tKf 1 S0.out ?_
 refine tKf 2 S0.out ?_
 refine tKf 3 S0.out ?_
 refine tKf 4 S0.out ?_
 refine tKf 5 S0.out ?_
 refine tKf 7 S0.out ?_
 refine uNe 6 (fun K hK => ?_)
 go_simp
 refine (placeV w.drew.drew g p S1.out.2).mono ?_
 rintro e w' ⟨rfl, rfl⟩
 go_wp2_with fail
 refine hK.out _ _ (fun _ h => h) ?_
 clear hK K
 try simp only [Act.put, zQ1, zQ2, zQ3]
 refine pUf 8 ?_
 refine uNe 9 (fun K hK => ?_)
 go_simp
 refine cg.mono ?_
 rintro e w2 ⟨⟨u, rfl⟩, rfl⟩
 have B2 : Hid (CurB (w.drew.drew.setCell ⟨g, 1, none⟩ (.int .i64 ((p : Int) + (kk : Int)))) g s (tkP s p) 231) := by
  unfold Hid CurB
  rw [HK.out.1, Int.natCast_add]
  exact Blk.set HB.out 1 _
 have K2 : Hid (KeptBut g w (w.drew.drew.setCell ⟨g, 1, none⟩ (.int .i64 ((p : Int) + (kk : Int))))) := (KeptBut.refl g w).drew.drew.set 1 _
 go_wp2_with fail
 refine hK.out _ _ (fun hx _ => absurd hx (by decide)) ?_
 clear hK K
 try simp only [Act.put, zQ1, zQ2, zQ3]
 refine until_done (by kernel_rfl) ?_ _
 go_wp2_with fail
 go_ret
 exact ⟨by rw [HK.out.2.1]; rfl, B2.out, K2.out⟩
set_option maxHeartbeats 2000000 in
theorem takeV (s : ByteArray) (p many g : Nat) (w : World) (hb : CurB w g s p 231) (hs : s.size ≤ 1048576) (hp : p ≤ s.size) (hm : many ≤ 562949953421311) : Calls Tryz.prog 204 #[.pointer (some ⟨g, 0, none⟩), .int .i64 (many : Int)] w fun e w' => e = .returned (.string (s.extract p (tk s p many))) ∧ CurB w' g s (tk s p many) 231 ∧ KeptBut g w w' := by
 have HB : Hid (CurB w g s p 231) := hb
 have m0 : w.cell? ⟨g, 1, none⟩ = some (.int .i64 (p : Int)) := Blk.cell hb 1 _ rfl
 have q0 : (s.size : Int) ≤ 1048576 := by omega
 have q1 : (p : Int) ≤ (s.size : Int) := by omega
 have q2 : (many : Int) ≤ 562949953421311 := by omega
 have HT : Hid (min (p + many) s.size = tk s p many) := rfl
 have htk : tk s p many ≤ s.size ∧ p ≤ tk s p many := by unfold tk; omega
 have cg := goToV s p (p + many) w g 231 hb hs (by omega)
 rw [HT.out, Int.natCast_add] at cg
 clear hb hs hp hm
 generalize hq : tk s p many = q at *
 have q3 : (q : Int) ≤ (s.size : Int) := by omega
 have q4 : (p : Int) ≤ (q : Int) := by omega
 have e5 : ((q : Int)).toNat = q := by omega
 have B2 : Hid (CurB (w.setCell ⟨g, 1, none⟩ (.int .i64 (q : Int))).drew g s q 231) := Blk.set HB.out 1 _
 have K2 : Hid (KeptBut g w (w.setCell ⟨g, 1, none⟩ (.int .i64 (q : Int))).drew) := ((KeptBut.refl g w).set 1 _).drew
 have S0 : Hid ((w.setCell ⟨g, 1, none⟩ (.int .i64 (q : Int))).drew.cell? ⟨g, 0, none⟩ = some (.string s) ∧ (w.setCell ⟨g, 1, none⟩ (.int .i64 (q : Int))).drew.cell? ⟨g, 1, none⟩ = some (.int .i64 (q : Int))) := ⟨Blk.cell B2.out 0 _ rfl, Blk.cell B2.out 1 _ rfl⟩
 clear hq HT htk
 go_enter Tryz.func204, Tryz.ntmps204
 go_wp2_with fail
 refine (placeV w g p m0).mono ?_
 rintro e w' ⟨rfl, rfl⟩
 go_wp2_with fail
 refine cg.mono ?_
 rintro e w2 ⟨⟨u, rfl⟩, rfl⟩
 go_wp2_with fail
 refine wp_region_until (fun w' => w'.cell? ⟨g, 0, none⟩ = some (.string s) ∧ w'.cell? ⟨g, 1, none⟩ = some (.int .i64 (q : Int))) (fun _ => false) 12 (by rfl) (by kernel_rfl) ?_
 refine tKf 0 S0.out ?_
 refine tKf 1 S0.out ?_
 refine tKf 2 S0.out ?_
 refine tKf 3 S0.out ?_
 refine tKf 4 S0.out ?_
 refine tKf 5 S0.out ?_
 refine tKf 6 S0.out ?_
 refine tKf 7 S0.out ?_
 refine tKf 8 S0.out ?_
 refine uNe 9 (fun K hK => ?_)
 go_simp
 refine (placeV _ g q S0.out.2).mono ?_
 rintro e w' ⟨rfl, rfl⟩
 go_wp2_with fail
 refine hK.out _ _ (fun _ h => h) ?_
 clear hK K
 try simp only [Act.put, zQ1, zQ2, zQ3]
 refine pUf 10 ?_
 refine pUf 11 ?_
 refine until_done (by kernel_rfl) ?_ _
 go_wp2_with fail
 go_ret
 exact ⟨rfl, B2.out, K2.out⟩
end Go.Proofs.YthhamlahdjokkaaGreatDoor
namespace Go.Proofs.YthhamlahdjokkaaGreatDoor
open Go.ChangeShapes Go.WideShapes Go.ChangeAt Go.RowKit Go.PlainAid
set_option linter.unusedVariables false
set_option maxHeartbeats 1000000 in
theorem implValuesOk (l : List Int) (v : Value) (w : World) (B : Nat) (hv : NumsV w B v l) (hn : l.length ≤ 1048576) : Calls Tryz.prog 188 #[v] w fun e w' => e = .returned (.bool (decide (VOk l))) ∧ w = w' := by
 obtain ⟨A, cap, rfl, _, _, hl⟩ := hv
 have HL : Hid (∀ j, j < l.length → ∃ g off, A = some ⟨g, off, none⟩ ∧ g < B ∧ _) := hl
 have HD : Hid (∀ b, (b = true ↔ VOk l) → decide (VOk l) = b) := by
  intro b hb
  cases b
  ·exact decide_eq_false fun h => by simp [h] at hb
  ·exact decide_eq_true (hb.1 rfl)
 have HV : Hid (VOk l ↔ 1 ≤ l.length ∧ l.length ≤ 60 ∧ ∀ j, j < l.length → -1099511627776 ≤ l.getD j 0 ∧ l.getD j 0 ≤ 1099511627776) := Iff.rfl
 have q0 : (l.length : Int) ≤ 1048576 := by omega
 clear hl hn
 generalize hN : l.length = n at *
 clear hN
 by_cases h1 : (n : Int) < 1
 ·go_enter Tryz.func188, Tryz.ntmps188
  go_wp2
  go_ret
  refine ⟨?_, rfl⟩
  rw [HD.out false]
  ·rfl
  rw [HV.out]
  constructor
  ·intro h; cases h
  ·intro h; omega
 by_cases h2 : (60 : Int) < (n : Int)
 ·go_enter Tryz.func188, Tryz.ntmps188
  go_wp2
  go_ret
  refine ⟨?_, rfl⟩
  rw [HD.out false]
  ·rfl
  rw [HV.out]
  constructor
  ·intro h; cases h
  ·intro h; omega
 go_enter Tryz.func188, Tryz.ntmps188
 go_wp2
 go_loop [15] (fun v15 => ∃ k : Nat, k ≤ n ∧ v15 = .int .i64 (k : Int) ∧ Hid (∀ j, j < k → -1099511627776 ≤ l.getD j 0 ∧ l.getD j 0 ≤ 1099511627776)) (fun i => n - (intOf i).toNat)
 case atStart => exact ⟨0, by omega, rfl, fun j hj => by omega⟩
 case round =>
  obtain ⟨k, hk, rfl, HJ⟩ := hrel
  by_cases hlt : k < n
  ·have q2 : (k : Int) < (n : Int) := by omega
   obtain ⟨g, off, rfl, _, e1⟩ := HL.out k hlt
   have HX : Hid (l.getD k 0 = l.getD k 0) := rfl
   generalize hx : l.getD k 0 = x at *
   have HXX : Hid (l.getD k 0 = x) := hx
   clear hx HX
   by_cases c1 : x < -1099511627776
   ·go_wp2
    go_ret
    refine ⟨?_, rfl⟩
    rw [HD.out false]
    ·rfl
    rw [HV.out]
    constructor
    ·intro h; cases h
    ·intro h; have := h.2.2 k hlt; rw [HXX.out] at this; omega
   by_cases c2 : 1099511627776 < x
   ·go_wp2
    go_ret
    refine ⟨?_, rfl⟩
    rw [HD.out false]
    ·rfl
    rw [HV.out]
    constructor
    ·intro h; cases h
    ·intro h; have := h.2.2 k hlt; rw [HXX.out] at this; omega
   go_wp2
   go_round
   case rel =>
    refine ⟨k + 1, by omega, by go_num, fun j hj => ?_⟩
    by_cases e : j = k
    ·subst e; rw [HXX.out]; omega
    ·exact HJ.out j (by omega)
   case measure => simp [intOf]; omega
  ·have hkk : k = n := by omega
   subst hkk
   go_wp2
   go_ret
   refine ⟨?_, rfl⟩
   rw [HD.out true]
   ·rfl
   rw [HV.out]
   exact ⟨fun _ => ⟨by omega, by omega, HJ.out⟩, fun _ => rfl⟩
set_option maxHeartbeats 1000000 in
theorem implTimesOk (l : List Int) (v : Value) (w : World) (B : Nat) (hv : NumsV w B v l) (hn : l.length ≤ 1048576) : Calls Tryz.prog 183 #[v] w fun e w' => e = .returned (.bool (decide (TOk l))) ∧ w = w' := by
 obtain ⟨A, cap, rfl, _, _, hl⟩ := hv
 have HL : Hid (∀ j, j < l.length → ∃ g off, A = some ⟨g, off, none⟩ ∧ g < B ∧ _) := hl
 have HD : Hid (∀ b, (b = true ↔ TOk l) → decide (TOk l) = b) := by
  intro b hb
  cases b
  ·exact decide_eq_false fun h => by simp [h] at hb
  ·exact decide_eq_true (hb.1 rfl)
 have HV : Hid (TOk l ↔ 1 ≤ l.length ∧ l.length ≤ 60 ∧ ∀ j, j < l.length → (0 ≤ l.getD j 0 ∧ l.getD j 0 ≤ 1099511627776) ∧ (0 < j → l.getD (j - 1) 0 < l.getD j 0)) := Iff.rfl
 have q0 : (l.length : Int) ≤ 1048576 := by omega
 clear hl hn
 generalize hN : l.length = n at *
 clear hN
 by_cases h1 : (n : Int) < 1
 ·go_enter Tryz.func183, Tryz.ntmps183
  go_wp2
  go_ret
  refine ⟨?_, rfl⟩
  rw [HD.out false]
  ·rfl
  rw [HV.out]
  constructor
  ·intro h; cases h
  ·intro h; omega
 by_cases h2 : (60 : Int) < (n : Int)
 ·go_enter Tryz.func183, Tryz.ntmps183
  go_wp2
  go_ret
  refine ⟨?_, rfl⟩
  rw [HD.out false]
  ·rfl
  rw [HV.out]
  constructor
  ·intro h; cases h
  ·intro h; omega
 go_enter Tryz.func183, Tryz.ntmps183
 go_wp2
 go_loop [3, 16] (fun v3 v16 => ∃ (k : Nat) (m : Int), k ≤ n ∧ v16 = .int .i64 (k : Int) ∧ v3 = .int .i64 m ∧ 0 ≤ m ∧ m ≤ 1099511627777 ∧ Hid ((k = 0 → m = 0) ∧ (0 < k → m = l.getD (k - 1) 0 + 1)) ∧ Hid (∀ j, j < k → (0 ≤ l.getD j 0 ∧ l.getD j 0 ≤ 1099511627776) ∧ (0 < j → l.getD (j - 1) 0 < l.getD j 0))) (fun _ i => n - (intOf i).toNat)
 case atStart => exact ⟨0, 0, by omega, rfl, rfl, by omega, by omega, ⟨fun _ => rfl, fun h => by omega⟩, fun j hj => by omega⟩
 case round =>
  obtain ⟨k, m, hk, rfl, rfl, hm0, hm1, HM, HJ⟩ := hrel
  by_cases hlt : k < n
  ·have q2 : (k : Int) < (n : Int) := by omega
   obtain ⟨g, off, rfl, _, e1⟩ := HL.out k hlt
   generalize hx : l.getD k 0 = x at *
   have HXX : Hid (l.getD k 0 = x) := hx
   clear hx
   have HM2 : Hid (m ≤ x ↔ (0 ≤ x ∧ (0 < k → l.getD (k - 1) 0 < x))) := by
    obtain ⟨m1, m2⟩ := HM.out
    unfold Hid
    by_cases hk0 : k = 0
    ·rw [m1 hk0]
     constructor
     ·intro h; exact ⟨h, fun h => by omega⟩
     ·intro h; exact h.1
    ·have := m2 (by omega)
     constructor
     ·intro h; exact ⟨by omega, fun _ => by omega⟩
     ·intro h; have := h.2 (by omega); omega
   by_cases c1 : x < m
   ·go_wp2
    go_ret
    refine ⟨?_, rfl⟩
    rw [HD.out false]
    ·rfl
    rw [HV.out]
    constructor
    ·intro h; cases h
    ·intro h; have := h.2.2 k hlt; rw [HXX.out] at this; have := HM2.out.2 ⟨this.1.1, this.2⟩; omega
   by_cases c2 : 1099511627776 < x
   ·go_wp2
    go_ret
    refine ⟨?_, rfl⟩
    rw [HD.out false]
    ·rfl
    rw [HV.out]
    constructor
    ·intro h; cases h
    ·intro h; have := h.2.2 k hlt; rw [HXX.out] at this; omega
   go_wp2
   go_round
   case rel =>
    refine ⟨k + 1, x + 1, by omega, by go_num, by go_num, by omega, by omega, ⟨fun h => by omega, fun _ => by rw [Nat.add_sub_cancel, HXX.out]⟩, fun j hj => ?_⟩
    by_cases e : j = k
    ·subst e
     rw [HXX.out]
     have := HM2.out.1 (by omega)
     exact ⟨⟨this.1, by omega⟩, this.2⟩
    ·exact HJ.out j (by omega)
   case measure => simp [intOf]; omega
  ·have hkk : k = n := by omega
   subst hkk
   go_wp2
   go_ret
   refine ⟨?_, rfl⟩
   rw [HD.out true]
   ·rfl
   rw [HV.out]
   exact ⟨fun _ => ⟨by omega, by omega, HJ.out⟩, fun _ => rfl⟩
set_option maxHeartbeats 1000000 in
theorem specValuesOk (l : List Int) (v : Value) (w : World) (B : Nat) (hv : NumsV w B v l) (hn : l.length ≤ 1048576) : Calls Tryz.prog 157 #[v] w fun e w' => e = .returned (.bool (decide (VOk l))) ∧ w = w' := by
 obtain ⟨A, cap, rfl, _, _, hl⟩ := hv
 have HL : Hid (∀ j, j < l.length → ∃ g off, A = some ⟨g, off, none⟩ ∧ g < B ∧ _) := hl
 have HD : Hid (∀ b, (b = true ↔ VOk l) → decide (VOk l) = b) := by
  intro b hb
  cases b
  ·exact decide_eq_false fun h => by simp [h] at hb
  ·exact decide_eq_true (hb.1 rfl)
 have HV : Hid (VOk l ↔ 1 ≤ l.length ∧ l.length ≤ 60 ∧ ∀ j, j < l.length → -1099511627776 ≤ l.getD j 0 ∧ l.getD j 0 ≤ 1099511627776) := Iff.rfl
 have q0 : (l.length : Int) ≤ 1048576 := by omega
 clear hl hn
 generalize hN : l.length = n at *
 clear hN
 by_cases h1 : (n : Int) < 1 ∨ (60 : Int) < (n : Int)
 ·have c := fun wx => in_no (n : Int) 1 60 wx h1
  have H1 : Hid ((n : Int) < 1 ∨ (60 : Int) < (n : Int)) := h1
  clear h1
  go_enter Tryz.func157, Tryz.ntmps157
  go_wp2_with (go_at_call 20; refine (c _).mono ?_; rintro e w' ⟨rfl, rfl⟩)
  go_ret
  refine ⟨?_, rfl⟩
  rw [HD.out false]
  ·rfl
  rw [HV.out]
  constructor
  ·intro h; cases h
  ·intro h; have := H1.out; omega
 have c := fun wx => in_yes (n : Int) 1 60 wx (by omega) (by omega)
 have q1 : (n : Int) ≤ 60 := by omega
 have q11 : (1 : Int) ≤ (n : Int) := by omega
 clear h1
 go_enter Tryz.func157, Tryz.ntmps157
 go_wp2_with (go_at_call 20; refine (c _).mono ?_; rintro e w' ⟨rfl, rfl⟩)
 go_loop [3] (fun v3 => ∃ k : Nat, k ≤ n ∧ v3 = .int .i64 (k : Int) ∧ Hid (∀ j, j < k → -1099511627776 ≤ l.getD j 0 ∧ l.getD j 0 ≤ 1099511627776)) (fun i => n - (intOf i).toNat)
 case atStart => exact ⟨0, by omega, rfl, fun j hj => by omega⟩
 case round =>
  obtain ⟨k, hk, rfl, HJ⟩ := hrel
  by_cases hlt : k < n
  ·have q2 : (k : Int) < (n : Int) := by omega
   obtain ⟨g, off, rfl, _, e1⟩ := HL.out k hlt
   generalize hx : l.getD k 0 = x at *
   have HXX : Hid (l.getD k 0 = x) := hx
   clear hx
   by_cases c1 : x < -1099511627776 ∨ 1099511627776 < x
   ·have c2 := fun wx => in_no x (-1099511627776) 1099511627776 wx c1
    have H1 : Hid (x < -1099511627776 ∨ 1099511627776 < x) := c1
    clear c1
    go_wp2_with (go_at_call 20; refine (c2 _).mono ?_; rintro e w' ⟨rfl, rfl⟩)
    go_ret
    refine ⟨?_, rfl⟩
    rw [HD.out false]
    ·rfl
    rw [HV.out]
    constructor
    ·intro h; cases h
    ·intro h; have := h.2.2 k hlt; rw [HXX.out] at this; have := H1.out; omega
   have c2 := fun wx => in_yes x (-1099511627776) 1099511627776 wx (by omega) (by omega)
   have H1 : Hid (¬ (x < -1099511627776 ∨ 1099511627776 < x)) := c1
   clear c1
   go_wp2_with (go_at_call 20; refine (c2 _).mono ?_; rintro e w' ⟨rfl, rfl⟩)
   go_round
   case rel =>
    refine ⟨k + 1, by omega, by go_num, fun j hj => ?_⟩
    by_cases e : j = k
    ·subst e; rw [HXX.out]; have := H1.out; omega
    ·exact HJ.out j (by omega)
   case measure => simp [intOf]; omega
  ·have hkk : k = n := by omega
   subst hkk
   go_wp2
   go_ret
   refine ⟨?_, rfl⟩
   rw [HD.out true]
   ·rfl
   rw [HV.out]
   exact ⟨fun _ => ⟨by omega, by omega, HJ.out⟩, fun _ => rfl⟩
end Go.Proofs.YthhamlahdjokkaaGreatDoor
namespace Go.Proofs.YthhamlahdjokkaaGreatDoor
open Go.ChangeShapes Go.WideShapes Go.ChangeAt Go.RowKit Go.PlainAid
set_option linter.unusedVariables false
set_option maxHeartbeats 1000000 in
theorem specRise (l : List Int) (v : Value) (w : World) (B : Nat) (hv : NumsV w B v l) (hn : l.length ≤ 1048576) : Calls Tryz.prog 155 #[v] w fun e w' => e = .returned (.bool (decide (TOk l))) ∧ Like w w' := by
 obtain ⟨A, cap, rfl, _, _, hl⟩ := hv
 have HL : Hid (∀ j, j < l.length → ∃ g off, A = some ⟨g, off, none⟩ ∧ g < B ∧ _) := hl
 have HD : Hid (∀ b, (b = true ↔ TOk l) → decide (TOk l) = b) := by
  intro b hb
  cases b
  ·exact decide_eq_false fun h => by simp [h] at hb
  ·exact decide_eq_true (hb.1 rfl)
 have HV : Hid (TOk l ↔ 1 ≤ l.length ∧ l.length ≤ 60 ∧ ∀ j, j < l.length → (0 ≤ l.getD j 0 ∧ l.getD j 0 ≤ 1099511627776) ∧ (0 < j → l.getD (j - 1) 0 < l.getD j 0)) := Iff.rfl
 have q0 : (l.length : Int) ≤ 1048576 := by omega
 clear hl hn
 generalize hN : l.length = n at *
 clear hN
 by_cases h1 : (n : Int) < 1 ∨ (60 : Int) < (n : Int)
 ·have c := fun wx => in_no (n : Int) 1 60 wx h1
  have H1 : Hid ((n : Int) < 1 ∨ (60 : Int) < (n : Int)) := h1
  clear h1
  go_enter Tryz.func155, Tryz.ntmps155
  go_wp2_with (go_at_call 20; refine (c _).mono ?_; rintro e w' ⟨rfl, rfl⟩)
  go_ret
  refine ⟨?_, Like.refl _⟩
  rw [HD.out false]
  ·rfl
  rw [HV.out]
  constructor
  ·intro h; cases h
  ·intro h; have := H1.out; omega
 have c := fun wx => in_yes (n : Int) 1 60 wx (by omega) (by omega)
 have q1 : (n : Int) ≤ 60 := by omega
 have q11 : (1 : Int) ≤ (n : Int) := by omega
 clear h1
 go_enter Tryz.func155, Tryz.ntmps155
 go_wp2_with (go_at_call 20; refine (c _).mono ?_; rintro e w' ⟨rfl, rfl⟩)
 go_loopw [3] (fun v3 wr => ∃ k : Nat, k ≤ n ∧ v3 = .int .i64 (k : Int) ∧ Like w wr ∧ Hid (∀ j, j < k → (0 ≤ l.getD j 0 ∧ l.getD j 0 ≤ 1099511627776) ∧ (0 < j → l.getD (j - 1) 0 < l.getD j 0))) (fun i _ => n - (intOf i).toNat)
 case atStart => exact ⟨0, by omega, rfl, Like.refl _, fun j hj => by omega⟩
 case round =>
  obtain ⟨k, hk, rfl, hLk, HJ⟩ := hrel
  by_cases hlt : k < n
  ·have q2 : (k : Int) < (n : Int) := by omega
   obtain ⟨g, off, rfl, _, e1⟩ := HL.out k hlt
   obtain ⟨g', off', eA, _, e0⟩ := HL.out (k - 1) (by omega)
   injection eA with eA
   injection eA with eA1 eA2
   subst eA1
   subst eA2
   rw [← cell?_heap hLk.1] at e1 e0
   generalize hx : l.getD k 0 = x at *
   have HXX : Hid (l.getD k 0 = x) := hx
   clear hx
   generalize hy : l.getD (k - 1) 0 = y at *
   have HYY : Hid (l.getD (k - 1) 0 = y) := hy
   clear hy
   by_cases c1 : x < 0 ∨ 1099511627776 < x
   ·have c2 := fun wx => in_no x 0 1099511627776 wx c1
    have H1 : Hid (x < 0 ∨ 1099511627776 < x) := c1
    clear c1
    go_wp2_with fail
    go_quiet ((go_at_call 20; exact Calls.quiet_of_same ((c2 _).mono fun _ _ h => ⟨h.1, h.2.symm⟩)))
    go_wp2_with fail
    go_ret
    refine ⟨?_, hLk.drewN _⟩
    rw [HD.out false]
    ·rfl
    rw [HV.out]
    constructor
    ·intro h; cases h
    ·intro h; have := h.2.2 k hlt; rw [HXX.out] at this; have := H1.out; omega
   have c2 := fun wx => in_yes x 0 1099511627776 wx (by omega) (by omega)
   have H1 : Hid (¬ (x < 0 ∨ 1099511627776 < x)) := c1
   clear c1
   by_cases hk0 : k = 0
   ·have d0 : decide ((0 : Int) < (k : Int)) = false := decide_eq_false (by omega)
    have d1 : decide (0 < k) = false := decide_eq_false (by omega)
    have HK0 : Hid (k = 0) := hk0
    clear e0 hk0
    go_wp2_with fail
    go_quiet ((go_at_call 20; exact Calls.quiet_of_same ((c2 _).mono fun _ _ h => ⟨h.1, h.2.symm⟩)))
    go_wp2_with fail
    go_roundw
    case rel =>
     refine ⟨k + 1, by omega, by go_num, hLk.drewN _, fun j hj => ?_⟩
     have hk0 := HK0.out
     obtain rfl : j = k := by omega
     rw [HXX.out]
     have := H1.out
     exact ⟨by omega, fun h => by omega⟩
    case measure => simp [intOf]; omega
   have q3 : (0 : Int) < (k : Int) := by omega
   have q4 : decide (0 < k) = true := decide_eq_true (by omega)
   have q5 : 0 < k := by omega
   have e3 : ((k : Int) - 1).toNat = k - 1 := by omega
   by_cases c3 : x ≤ y
   ·go_wp2_with fail
    go_quiet ((go_at_call 20; exact Calls.quiet_of_same ((c2 _).mono fun _ _ h => ⟨h.1, h.2.symm⟩)))
    go_wp2_with fail
    go_ret
    refine ⟨?_, hLk.drewN _⟩
    rw [HD.out false]
    ·rfl
    rw [HV.out]
    constructor
    ·intro h; cases h
    ·intro h; have := (h.2.2 k hlt).2 (by omega); rw [HXX.out, HYY.out] at this; omega
   ·have d1 : decide (x ≤ y) = false := decide_eq_false c3
    go_wp2_with fail
    go_quiet ((go_at_call 20; exact Calls.quiet_of_same ((c2 _).mono fun _ _ h => ⟨h.1, h.2.symm⟩)))
    go_wp2_with fail
    go_roundw
    case rel =>
     refine ⟨k + 1, by omega, by go_num, hLk.drewN _, fun j hj => ?_⟩
     by_cases e : j = k
     ·subst e
      rw [HXX.out, HYY.out]
      have := H1.out
      exact ⟨by omega, fun _ => by omega⟩
     ·exact HJ.out j (by omega)
    case measure => simp [intOf]; omega
  ·have hkk : k = n := by omega
   subst hkk
   go_wp2
   go_ret
   refine ⟨?_, hLk⟩
   rw [HD.out true]
   ·rfl
   rw [HV.out]
   exact ⟨fun _ => ⟨by omega, by omega, HJ.out⟩, fun _ => rfl⟩
end Go.Proofs.YthhamlahdjokkaaGreatDoor
namespace Go.Proofs.YthhamlahdjokkaaGreatDoor
open Go.Shelf Go.RowKit
set_option linter.unusedVariables false
def bldRen : Go.Shelf.Ren := ⟨fun | 166 => 39 | 169 => 45 | 240 => 79 | 276 => 115 | f => f, fun | 20 => 20 | 37 => 68 | 70 => 73 | 72 => 75 | 75 => 77 | 80 => 81 | 127 => 131 | 164 => 165 | t => t, fun g => g⟩
theorem bld_lays166 : Go.Proofs.Lays.n166 Tryz.prog bldRen where
 mixed := by kernel_rfl
 f166 := Tryz.func39.trans (congrArg some (by kernel_rfl))
 f240 := Tryz.func79.trans (congrArg some (by kernel_rfl))
 f276 := Tryz.func115.trans (congrArg some (by kernel_rfl))
 t0 := Tryz.underlying0
 a0 := Tryz.isAgg0
 z0 := Tryz.sizeOf0
 v0 := Tryz.zeroValue0
 t3 := Tryz.underlying3
 a3 := Tryz.isAgg3
 z3 := Tryz.sizeOf3
 v3 := Tryz.zeroValue3
 t4 := Tryz.underlying4
 a4 := Tryz.isAgg4
 z4 := Tryz.sizeOf4
 v4 := Tryz.zeroValue4
 t9 := Tryz.underlying9
 a9 := Tryz.isAgg9
 z9 := Tryz.sizeOf9
 v9 := Tryz.zeroValue9
 t20 := Tryz.underlying20
 a20 := Tryz.isAgg20
 z20 := Tryz.sizeOf20
 v20 := Tryz.zeroValue20
 t37 := Tryz.underlying68
 a37 := Tryz.isAgg68
 z37 := Tryz.sizeOf68
 v37 := Tryz.zeroValue68
 t70 := Tryz.underlying73
 a70 := Tryz.isAgg73
 z70 := Tryz.sizeOf73
 v70 := Tryz.zeroValue73
 t72 := Tryz.underlying75
 a72 := Tryz.isAgg75
 z72 := Tryz.sizeOf75
 v72 := Tryz.zeroValue75
 t75 := Tryz.underlying77
 a75 := Tryz.isAgg77
 z75 := Tryz.sizeOf77
 v75 := Tryz.zeroValue77
 t164 := Tryz.underlying165
 a164 := Tryz.isAgg165
 z164 := Tryz.sizeOf165
 v164 := Tryz.zeroValue165
theorem bld_lays169 : Go.Proofs.Lays.n169 Tryz.prog bldRen where
 mixed := by kernel_rfl
 f169 := Tryz.func45.trans (congrArg some (by kernel_rfl))
 t0 := Tryz.underlying0
 a0 := Tryz.isAgg0
 z0 := Tryz.sizeOf0
 v0 := Tryz.zeroValue0
 t3 := Tryz.underlying3
 a3 := Tryz.isAgg3
 z3 := Tryz.sizeOf3
 v3 := Tryz.zeroValue3
 t9 := Tryz.underlying9
 a9 := Tryz.isAgg9
 z9 := Tryz.sizeOf9
 v9 := Tryz.zeroValue9
 t37 := Tryz.underlying68
 a37 := Tryz.isAgg68
 z37 := Tryz.sizeOf68
 v37 := Tryz.zeroValue68
 t70 := Tryz.underlying73
 a70 := Tryz.isAgg73
 z70 := Tryz.sizeOf73
 v70 := Tryz.zeroValue73
 t72 := Tryz.underlying75
 a72 := Tryz.isAgg75
 z72 := Tryz.sizeOf75
 v72 := Tryz.zeroValue75
 t127 := Tryz.underlying131
 a127 := Tryz.isAgg131
 z127 := Tryz.sizeOf131
 v127 := Tryz.zeroValue131
theorem bld_extra : Go.Proofs.Builder.Extra Tryz.prog bldRen where
 sizeBuilder := by kernel_rfl
 liesBuilder := by kernel_rfl
 t5 := Tryz.underlying5
 a5 := Tryz.isAgg5
 z5 := Tryz.sizeOf5
 v5 := Tryz.zeroValue5
 infoByte := by kernel_rfl
 cellsByte := by kernel_rfl
 sizeByte := by kernel_rfl
 neB5 := by decide
theorem bldWrite (B b : Nat) (bs : List Value) (s : ByteArray) (w : World) (h : Lib.IsBuilderF 75 5 B b bs w) (hlen : bs.length + s.size ≤ 140737488355328) (hBw : B ≤ w.heap.size) :
  Calls Tryz.prog 39 #[.pointer (some ⟨b, 0, none⟩), .string s] w fun e w' => e = .returned (.tuple #[.int .i64 s.size, .nilIface]) ∧ (Lib.BuilderAtF 75 5 B b (.pointer (some ⟨b, 0, none⟩)) (bs ++ Lib.strCells s) w' ∧ Below B w w' ∧ Lib.OthersKept 5 (some b) w w') := Any.Builder_WriteString_k bld_lays166 bld_extra B b bs s w h hlen hBw
theorem bldString (B b : Nat) (l : List UInt8) (w : World) (h : Lib.IsBuilderF 75 5 B b (Lib.byteCells l) w) (hBw : B ≤ w.heap.size) :
  Calls Tryz.prog 45 #[.pointer (some ⟨b, 0, none⟩)] w fun e w' => e = .returned (.string ⟨l.toArray⟩) ∧ (Lib.IsBuilderF 75 5 B b (Lib.byteCells l) w' ∧ Below B w w' ∧ Lib.OthersKept 5 (some b) w w') := Any.Builder_String_any_k bld_lays169 bld_extra B b l w h hBw
end Go.Proofs.YthhamlahdjokkaaGreatDoor
namespace Go.Proofs.YthhamlahdjokkaaGreatDoor
open Go.ChangeShapes Go.WideShapes Go.ChangeAt Go.RowKit Go.PlainAid
set_option linter.unusedVariables false
set_option maxHeartbeats 1000000 in
theorem differencesV (l : List Int) (v : Value) (w : World) (B : Nat) (F : Nat) (caps : Array Value) (Inv : Nat → World → Prop)
  (hF : ∀ args w, (callFunc F args).run Tryz.prog w = .ok (.enter F args) w) (hn : l.length ≤ 1048576) (hd : ∀ k, k < l.length → -4611686018427387904 ≤ dif l k ∧ dif l k ≤ 4611686018427387904)
  (hv : ∀ k wx, Inv k wx → NumsV wx B v l) (h0 : Inv 0 w)
  (hC : ∀ k, k < l.length → ∀ wx, Inv k wx → Calls Tryz.prog F (#[.int .i64 (k : Int), .int .i64 (dif l k)] ++ caps) wx fun e w' => (∃ u, e = .returned u) ∧ Inv (k + 1) w') :
  Calls Tryz.prog 184 #[v, .func (.func F) #[] caps] w fun e w' => (∃ u, e = .returned u) ∧ Inv l.length w' := by
 have HV : Hid (∀ k wx, Inv k wx → NumsV wx B v l) := hv
 have HC : Hid (∀ k, k < l.length → ∀ wx, Inv k wx → Calls Tryz.prog F (#[.int .i64 (k : Int), .int .i64 (dif l k)] ++ caps) wx fun e w' => (∃ u, e = .returned u) ∧ Inv (k + 1) w') := hC
 have HD : Hid (∀ k, k < l.length → -4611686018427387904 ≤ dif l k ∧ dif l k ≤ 4611686018427387904) := hd
 obtain ⟨A, cap, rfl, _, _, hl⟩ := hv 0 w h0
 have q0 : (l.length : Int) ≤ 1048576 := by omega
 clear hl hn hd hv hC
 generalize hN : l.length = n at *
 have HN : Hid (l.length = n) := hN
 clear hN
 go_enter Tryz.func184, Tryz.ntmps184
 go_wp2
 go_loopw [4, 9] (fun v4 v9 wr => ∃ k : Nat, k ≤ n ∧ v9 = .int .i64 (k : Int) ∧ v4 = .int .i64 (prv l k) ∧ Inv k wr) (fun _ i _ => n - (intOf i).toNat)
 case atStart => exact ⟨0, by omega, rfl, rfl, h0⟩
 case round =>
  obtain ⟨k, hk, rfl, rfl, hI⟩ := hrel
  by_cases hlt : k < n
  ·have q2 : (k : Int) < (n : Int) := by omega
   obtain ⟨A', cap', e', _, _, hl⟩ := HV.out k wr hI
   injection e' with ea eb ec
   subst ea
   subst ec
   obtain ⟨g, off, rfl, _, e1⟩ := hl k (by rw [HN.out]; exact hlt)
   have hdk := HD.out k hlt
   have cC := HC.out k hlt wr hI
   have HP : Hid (prv l (k + 1) = l.getD k 0) := prv_succ l k
   have ed : dif l k = l.getD k 0 - prv l k := rfl
   rw [ed] at hdk cC
   generalize l.getD k 0 = x at *
   generalize prv l k = y at *
   have hw : wrap64 (x - y) = x - y := by unfold wrap64; omega
   clear hl eb ed
   go_wp2_with fail
   refine cC.mono ?_
   rintro e w1 ⟨⟨u, rfl⟩, hI1⟩
   go_wp2_with fail
   go_roundw
   case rel => exact ⟨k + 1, by omega, by go_num, by rw [HP.out], hI1⟩
   case measure => simp [intOf]; omega
  ·obtain rfl : k = n := by omega
   go_wp2_with fail
   exact bodyPost_end (v := .tuple #[]) (by simp [results, go_sem]) rfl ⟨⟨_, rfl⟩, hI⟩
theorem strCells_append (a b : ByteArray) : Lib.strCells (a ++ b) = Lib.strCells a ++ Lib.strCells b := by simp [Lib.strCells, ByteArray.data_append]
theorem strCells_txt (l m : List UInt8) : Lib.strCells (txt (l ++ m)) = Lib.strCells (txt l) ++ Lib.strCells (txt m) := by rw [← txt_cat, strCells_append]
theorem bld_on {w w' : World} {B b : Nat} {bs : List Value} (h : Lib.IsBuilderF 75 5 B b bs w) (hb : Below w.heap.size w w') : Lib.IsBuilderF 75 5 B b bs w' := by
 have key : ∀ p, Lib.BuilderAtF 75 5 B b p bs w → Lib.BuilderAtF 75 5 B b p bs w' := by
  rintro p ⟨hB, v, hh, hown, hne⟩
  refine ⟨hB, v, by rw [hb.block b (lt_of_block hh)]; exact hh, ⟨hown.1, ?_⟩, hne⟩
  rcases hown.2 with h | ⟨g, cap, cur, fz, rfl, hbg, hg, rest⟩
  ·exact .inl h
  ·refine .inr ⟨g, cap, cur, fz, rfl, hbg, ?_, rest⟩
   rw [hb.block g (Array.getElem?_eq_some_iff.1 hg).1]
   exact hg
 exact h.imp (key _) (key _)
theorem bld_new {w : World} {b : Nat} (h : w.heap[b]? = some (.cells #[.pointer none, .slice none 0 0] 75 (0, 0))) : Lib.IsBuilderF 75 5 b b (Lib.strCells ByteArray.empty) w :=
 .inl ⟨Nat.le_refl _, .slice none 0 0, h, ⟨rfl, .inl ⟨rfl, rfl⟩⟩, fun e => by cases e⟩
def Bld (gb : Nat) (l : List UInt8) (w : World) : Prop := Lib.IsBuilderF 75 5 gb gb (Lib.strCells (txt l)) w
theorem Bld.on {gb : Nat} {l : List UInt8} {w w' : World} (h : Bld gb l w) (hb : Below w.heap.size w w') : Bld gb l w' := bld_on h hb
theorem bldWriteT (gb : Nat) (l m : List UInt8) (w : World) (h : Bld gb l w) (hlen : l.length + m.length ≤ 1048576) (hBw : gb ≤ w.heap.size) :
  Calls Tryz.prog 39 #[.pointer (some ⟨gb, 0, none⟩), .string (txt m)] w fun e w' => e = .returned (.tuple #[.int .i64 (m.length : Int), .nilIface]) ∧ Bld gb (l ++ m) w' ∧ Below gb w w' ∧ Lib.OthersKept 5 (some gb) w w' := by
 refine (bldWrite gb gb _ (txt m) w h (by rw [Lib.strCells_length]; have h1 := txt_size l; have h2 := txt_size m; omega) hBw).mono ?_
 rintro e w' ⟨rfl, h1, h2, h3⟩
 refine ⟨by rw [txt_size], ?_, h2, h3⟩
 unfold Bld
 rw [strCells_txt]
 exact .inr h1
theorem bldStringT (gb : Nat) (l : List UInt8) (w : World) (h : Bld gb l w) (hBw : gb ≤ w.heap.size) :
  Calls Tryz.prog 45 #[.pointer (some ⟨gb, 0, none⟩)] w fun e w' => e = .returned (.string (txt l)) ∧ Below gb w w' := by
 have h' : Lib.IsBuilderF 75 5 gb gb (Lib.byteCells l) w := by
  have : Lib.strCells (txt l) = Lib.byteCells l := by simp [Lib.strCells, Lib.byteCells, txt]
  rw [← this]
  exact h
 refine (bldString gb gb l w h' hBw).mono ?_
 rintro e w' ⟨rfl, _, h2, _⟩
 exact ⟨rfl, h2⟩
set_option maxHeartbeats 1000000 in
theorem specShowValues (l : List Int) (v : Value) (w : World) (B : Nat) (hv : NumsV w B v l) (hn : l.length ≤ 1048576) (hB : B ≤ w.heap.size) : Calls Tryz.prog 114 #[v] w fun e w' => e = .returned (.string (showV l)) ∧ Below w.heap.size w w' := by
 have c := specValuesOk l v w B hv hn
 have HV : Hid (NumsV w B v l) := hv
 have HB : Hid (B ≤ w.heap.size) := hB
 obtain ⟨A, cap, rfl, _, _, _⟩ := hv
 by_cases ho : VOk l
 ·have HE : Hid (showV l = txt (cat (vPiece l) l.length)) := by unfold Hid showV; rw [if_pos ho]
  have HO : Hid (VOk l) := ho
  rw [decide_eq_true ho] at c
  have q0 : (l.length : Int) ≤ 60 := by have := ho.2.1; omega
  clear ho hn hB
  generalize hN : l.length = n at *
  have HN : Hid (l.length = n) := hN
  clear hN
  go_enter Tryz.func114, Tryz.ntmps114
  go_wp2_with fail
  refine c.mono ?_
  rintro e w0 ⟨rfl, rfl⟩
  go_wp2_with fail
  go_loopw [3, 4, 5] (fun v3 v4 v5 wr => ∃ k : Nat, k ≤ n ∧ v5 = .int .i64 (k : Int) ∧ v4 = .int .i64 (prv l k) ∧ v3 = .string (txt (cat (vPiece l) k)) ∧ Below w.heap.size w wr) (fun _ _ i _ => n - (intOf i).toNat)
  case atStart => exact ⟨0, by omega, rfl, rfl, rfl, Below.refl _ _⟩
  case round =>
   obtain ⟨k, hk, rfl, rfl, rfl, hb⟩ := hrel
   have HB1 : Hid (Below w.heap.size w wr) := hb
   by_cases hlt : k < n
   ·have q2 : (k : Int) < (n : Int) := by omega
    obtain ⟨A', cap', e', _, _, hl⟩ := HV.out.on (hb.mono HB.out)
    injection e' with ea eb ec
    subst ea
    subst ec
    obtain ⟨g, off, rfl, hgB, e1⟩ := hl k (by rw [HN.out]; exact hlt)
    have hdk := HO.out.dif k (by rw [HN.out]; exact hlt)
    have cz := fun wx => spec_zig (dif l k) wx (by omega) (by omega)
    have hz0 := zig_pos (dif l k) (by omega) (by omega)
    have hz1 := (zig_range (dif l k)).2
    have cv := fun wx => spec_var (zig (dif l k)).toNat wx (by omega)
    rw [Int.toNat_of_nonneg hz0] at cv
    have HP : Hid (prv l (k + 1) = l.getD k 0) := prv_succ l k
    have ed : dif l k = l.getD k 0 - prv l k := rfl
    have ecat : cat (vPiece l) (k + 1) = cat (vPiece l) k ++ vF 6 (zig (dif l k)).toNat := cat_succ _ _
    have hl1 := cat_length (vPiece l) (vPiece_length l) k
    have hl2 := vF_length 6 (zig (dif l k)).toNat
    have HCT : Hid (txt (cat (vPiece l) (k + 1)) = txt (cat (vPiece l) k) ++ txt (vF 6 (zig (dif l k)).toNat)) := by unfold Hid; rw [ecat, txt_cat]
    have hs1 := txt_size (cat (vPiece l) k)
    have hs2 := txt_size (vF 6 (zig (dif l k)).toNat)
    generalize txt (cat (vPiece l) k) = sa at *
    generalize txt (vF 6 (zig (dif l k)).toNat) = sb at *
    have hsum : sa.size + sb.size ≤ 9223372036854775807 := by omega
    generalize zig (dif l k) = z at *
    clear ecat hl1 hl2 hs1 hs2
    rw [ed] at hdk cz
    have he1 : ∀ wx, Below wr.heap.size wr wx → wx.cell? ⟨g, off + k, none⟩ = some (.int .i64 (l.getD k 0)) := fun wx hx => by rw [hx.cell (p := ⟨_, _, none⟩) (by have := hb.size; have := HB.out; show g < _; omega)]; exact e1
    generalize l.getD k 0 = x at *
    generalize prv l k = y at *
    have hw : wrap64 (x - y) = x - y := by unfold wrap64; omega
    clear hl eb ed hb
    go_wp2_with fail
    refine (cz _).mono ?_
    rintro e w1 ⟨rfl, rfl⟩
    go_wp2_with fail
    refine (cv _).mono ?_
    rintro e w2 ⟨rfl, hb2⟩
    have e2 := he1 _ hb2
    have HB2 : Hid (Below w.heap.size w w2) := HB1.out.trans (hb2.mono HB1.out.size)
    clear he1 hb2
    go_wp2_with fail
    go_roundw
    case rel => exact ⟨k + 1, by omega, by go_num, by rw [HP.out], by rw [HCT.out], HB2.out⟩
    case measure => simp [intOf]; omega
   ·obtain rfl : k = n := by omega
    clear hb
    go_wp2_with fail
    go_ret
    exact ⟨by rw [HE.out]; rfl, HB1.out⟩
 ·have HE : Hid (showV l = txt []) := by unfold Hid showV; rw [if_neg ho]
  rw [decide_eq_false ho] at c
  clear ho
  go_enter Tryz.func114, Tryz.ntmps114
  go_wp2_with fail
  refine c.mono ?_
  rintro e w0 ⟨rfl, rfl⟩
  go_wp2_with fail
  go_ret
  exact ⟨by rw [HE.out]; rfl, Below.refl _ _⟩
set_option maxHeartbeats 1000000 in
theorem showVals1 (k : Nat) (d : Int) (gb : Nat) (l : List UInt8) (w : World) (h1 : -140737488355328 ≤ d) (h2 : d ≤ 140737488355328) (hb : Bld gb l w) (hl : l.length ≤ 1000) (hg : gb ≤ w.heap.size) :
  Calls Tryz.prog 189 #[.int .i64 (k : Int), .int .i64 d, .pointer (some ⟨gb, 0, none⟩)] w fun e w' => (∃ u, e = .returned u) ∧ Bld gb (l ++ vF 6 (zig d).toNat) w' ∧ Below gb w w' := by
 have cz := fun wx => impl_zig d wx (by omega) (by omega)
 have hz0 := zig_pos d h1 h2
 have hz1 := (zig_range d).2
 have cv := fun wx => impl_var (zig d).toNat wx (by omega)
 rw [Int.toNat_of_nonneg hz0] at cv
 have HBD : Hid (Bld gb l w) := hb
 have HG : Hid (gb ≤ w.heap.size) := hg
 have hvl := vF_length 6 (zig d).toNat
 have HL : Hid (l.length + (vF 6 (zig d).toNat).length ≤ 1048576) := by unfold Hid; omega
 clear hb hg hl hvl
 generalize hvv : vF 6 (zig d).toNat = vv at *
 generalize zig d = z at *
 go_enter Tryz.func189, Tryz.ntmps189
 go_wp2_with fail
 refine (cz _).mono ?_
 rintro e w1 ⟨rfl, rfl⟩
 go_wp2_with fail
 refine (cv _).mono ?_
 rintro e w2 ⟨rfl, hb2⟩
 have HB2 : Hid (Below gb w w2) := hb2.mono HG.out
 have Z2 : Hid (gb ≤ w2.heap.size) := Nat.le_trans HG.out hb2.size
 have L2 : Hid (Bld gb l w2) := HBD.out.on hb2
 clear hb2
 go_wp2_with fail
 refine (bldWriteT gb l vv w2 L2.out HL.out Z2.out).mono ?_
 rintro e w3 ⟨rfl, hB3, hb3, _⟩
 have HB3 : Hid (Below gb w w3) := HB2.out.trans hb3
 clear hb3
 go_wp2_with fail
 exact bodyPost_end (v := .tuple #[]) (by simp [results, go_sem]) rfl ⟨⟨_, rfl⟩, hB3, HB3.out⟩
set_option maxHeartbeats 1000000 in
theorem implShowValues (l : List Int) (v : Value) (w : World) (B : Nat) (hv : NumsV w B v l) (hn : l.length ≤ 1048576) (hB : B ≤ w.heap.size) : Calls Tryz.prog 161 #[v] w fun e w' => e = .returned (.string (showV l)) ∧ Below w.heap.size w w' := by
 have c := implValuesOk l v w B hv hn
 have HV : Hid (NumsV w B v l) := hv
 have HB : Hid (B ≤ w.heap.size) := hB
 obtain ⟨A, cap, rfl, _, _, _⟩ := hv
 by_cases ho : VOk l
 ·have HE : Hid (showV l = txt (cat (vPiece l) l.length)) := by unfold Hid showV; rw [if_pos ho]
  have HO : Hid (VOk l) := ho
  have HN : Hid (l.length ≤ 60) := ho.2.1
  rw [decide_eq_true ho] at c
  have k0 : (w.alloc (.cells #[.pointer none, .slice none 0 0] 75)).heap[w.heap.size]? = some (.cells #[.pointer none, .slice none 0 0] 75 (0, 0)) := heap_alloc_new w _
  have b0 : Below w.heap.size w (w.alloc (.cells #[.pointer none, .slice none 0 0] 75)) := (Below.refl _ _).alloc (Nat.le_refl _) _
  clear ho hB
  go_enter Tryz.func161, Tryz.ntmps161
  go_wp2_with fail
  refine c.mono ?_
  rintro e w0 ⟨rfl, rfl⟩
  go_wp2_with fail
  generalize w.alloc (.cells #[.pointer none, .slice none 0 0] 75) = W at *
  have cD := differencesV l (.slice A l.length cap) W B 189 #[.pointer (some ⟨w.heap.size, 0, none⟩)] (fun k wx => Below w.heap.size w wx ∧ Bld w.heap.size (cat (vPiece l) k) wx) (fun _ _ => by kernel_rfl) hn (fun k hk => by have := HO.out.dif k hk; omega) (fun k wx hx => HV.out.on (hx.1.mono HB.out)) ⟨b0, bld_new k0⟩ (fun k hk wx hx => by
   have hd := HO.out.dif k hk
   have hc := cat_length (vPiece l) (vPiece_length l) k
   have hN := HN.out
   refine (showVals1 k (dif l k) w.heap.size (cat (vPiece l) k) wx (by omega) (by omega) hx.2 (by omega) hx.1.size).mono ?_
   rintro e w' ⟨hu, h1, h2⟩
   exact ⟨hu, hx.1.trans h2, by rw [cat_succ]; exact h1⟩)
  refine cD.mono ?_
  rintro e w2 ⟨⟨u, rfl⟩, hb2, hB2⟩
  have cS := bldStringT w.heap.size _ w2 hB2 hb2.size
  have HB2 : Hid (Below w.heap.size w w2) := hb2
  clear hb2 hB2 cD b0 k0
  go_wp2_with fail
  refine cS.mono ?_
  rintro e w3 ⟨rfl, hb3⟩
  have HB3 : Hid (Below w.heap.size w w3) := HB2.out.trans hb3
  clear hb3 cS
  go_wp2_with fail
  go_ret
  exact ⟨by rw [HE.out]; rfl, HB3.out⟩
 ·have HE : Hid (showV l = txt []) := by unfold Hid showV; rw [if_neg ho]
  rw [decide_eq_false ho] at c
  clear ho
  go_enter Tryz.func161, Tryz.ntmps161
  go_wp2_with fail
  refine c.mono ?_
  rintro e w0 ⟨rfl, rfl⟩
  go_wp2_with fail
  go_ret
  exact ⟨by rw [HE.out]; rfl, Below.refl _ _⟩
end Go.Proofs.YthhamlahdjokkaaGreatDoor
