/- SrLaw PtMath LikeAid Num1In PtOk -/
import Derived.Test.YtikknmoeefipmaaGreatDoorQp2
import Derived.Test.YtikknmoeefipmaaGreatDoorQp1
import Derived.Below
import Derived.BigQuiet
import Derived.WalkKit
import Derived.Test.YtikknmoeefipmaaGreatDoorRows
import Derived.Test.YtikknmoeefipmaaGreatDoorQp0
import Derived.ProofKit
import Derived.OpenShut
import Derived.WalkLawsBesides
import Derived.WalkMore
import Derived.Outline
import Derived.WalkSmall
namespace Go.Proofs.YtikknmoeefipmaaGreatDoor
open Go.ChangeShapes Go.WideShapes Go.ChangeAt Go.RowKit Go.PlainAid
set_option linter.unusedVariables false
def wtS1 (x : Ser) : Nat := x.key.size + x.pts.length
def wtS (l : List Ser) : Nat := (l.map wtS1).sum
theorem wtS_snoc (l : List Ser) (k : Nat) (h : k < l.length) : wtS (l.take (k + 1)) = wtS (l.take k) + wtS1 (l.getD k default) := by
 unfold wtS
 rw [take_getD l k h, List.map_append, List.sum_append]
 simp
theorem wtS_mem (l : List Ser) (x : Ser) (h : x ∈ l) : wtS1 x ≤ wtS l := by
 induction l with
 | nil => cases h
 | cons y l ih =>
  unfold wtS at ih ⊢
  rw [List.map_cons, List.sum_cons]
  rcases List.mem_cons.1 h with rfl | h
  ·omega
  ·have := ih h
   omega
set_option maxHeartbeats 1000000 in
theorem szSeries (x : Ser) (u : Value) (left : Int) (w : World) (B : Nat) (hu : Lies w B 2 u (ptR x.pts)) (h0 : 0 ≤ left) (h1 : left ≤ 1048576) (hx : x.key.size ≤ maxLen) (hp : x.pts.length ≤ maxLen) (hB : B ≤ w.heap.size) :
  Calls Tryz.prog 82 #[vSr x.key u, .int .i64 left] w fun e w' => (∃ r, e = .returned (.int .i64 r) ∧ Hid (r = -1 ∨ 0 ≤ r ∧ r + (wtS1 x : Int) = left)) ∧ Below w.heap.size w w' := by
 have HU : Hid (Lies w B 2 u (ptR x.pts)) := hu
 have HB : Hid (B ≤ w.heap.size) := hB
 have HP : Hid (x.pts.length ≤ maxLen) := hp
 unfold maxLen at hx
 unfold vSr wtS1
 obtain ⟨xk, xp⟩ := x
 simp only at hx HU HP ⊢
 clear hu hB hp
 obtain ⟨A, cap, rfl, _⟩ := pt_look HU.out
 generalize hn : xk.size = n at *
 have q1 : (n : Int) ≤ 9223372036854775807 := by omega
 have w2 : wrap64 (left - (n : Int)) = left - (n : Int) := by unfold wrap64; omega
 by_cases hl : left < (n : Int)
 ·have q2 : left - (n : Int) < 0 := by omega
  go_enter Tryz.func82, Tryz.ntmps82
  go_wp2_with fail
  go_ret
  exact ⟨⟨_, rfl, .inl rfl⟩, (Below.refl _ _).alloc (Nat.le_refl _) _⟩
 ·have HL : Hid ((n : Int) ≤ left) := by unfold Hid; omega
  have q2 : 0 ≤ left - (n : Int) := by omega
  have q3 : decide (left - (n : Int) < 0) = false := decide_eq_false (by omega)
  have HQ : Hid (left - (n : Int) ≤ 1048576) := by unfold Hid; omega
  have c1 := fun wx hx => szPointS xp (.slice A xp.length cap) (left - (n : Int)) wx B hx HP.out q2 HQ.out
  go_enter Tryz.func82, Tryz.ntmps82
  go_wp2_with fail
  refine (c1 _ (HU.out.on (((Below.refl _ w).alloc (Nat.le_refl _) _).mono HB.out))).mono ?_
  rintro e w' ⟨⟨r, rfl, HR⟩, rfl⟩
  rcases HR.out with rfl | ⟨hp, hq⟩
  ·go_wp2_with fail
   go_ret
   exact ⟨⟨_, rfl, .inl rfl⟩, (Below.refl _ _).alloc (Nat.le_refl _) _⟩
  ·have q5 : decide (r < 0) = false := decide_eq_false (by omega)
   go_wp2_with fail
   go_ret
   exact ⟨⟨_, rfl, .inr ⟨hp, by omega⟩⟩, (Below.refl _ _).alloc (Nat.le_refl _) _⟩
set_option maxHeartbeats 1000000 in
theorem szSeriesS (l : List Ser) (v : Value) (left : Int) (w : World) (B : Nat) (hv : SerV w B v l) (hd : SFits l) (h0 : 0 ≤ left) (h1 : left ≤ 1048576) (hB : B ≤ w.heap.size) :
  Calls Tryz.prog 43 #[v, .int .i64 left] w fun e w' => ∃ r : Int, e = .returned (.int .i64 r) ∧ (r = -1 ∨ 0 ≤ r ∧ r + ((l.length + wtS l : Nat) : Int) = left) ∧ Below w.heap.size w w' := by
 have hn := hd.1
 unfold maxLen at hn
 obtain ⟨A, cap, rfl, hl⟩ := hv.look
 have HL : Hid (∀ j, j < l.length → ∃ g off u, A = some ⟨g, off, none⟩ ∧ g < B ∧ _) := hl
 have HD : Hid (∀ x ∈ l, x.key.size ≤ maxLen ∧ x.pts.length ≤ maxLen) := hd.2
 have HB : Hid (B ≤ w.heap.size) := hB
 clear hl hd hB hv
 have q1 : (l.length : Int) ≤ 9223372036854775807 := by omega
 have w2 : wrap64 (left - (l.length : Int)) = left - (l.length : Int) := by unfold wrap64; omega
 by_cases hs : left < (l.length : Int)
 ·have q2 : left - (l.length : Int) < 0 := by omega
  go_enter Tryz.func43, Tryz.ntmps43
  go_wp2_with fail
  go_ret
  exact ⟨-1, rfl, .inl rfl, Below.refl _ _⟩
 ·have q2 : 0 ≤ left - (l.length : Int) := by omega
  have q3 : decide (left - (l.length : Int) < 0) = false := decide_eq_false (by omega)
  have HQ : Hid (0 ≤ left - (l.length : Int)) := q2
  generalize hN : l.length = n at *
  go_enter Tryz.func43, Tryz.ntmps43
  go_wp2_with fail
  clear q2 q3 w2
  go_loopw [1, 5] (fun v1 v5 wr => ∃ (k : Nat) (r : Int), k ≤ n ∧ v5 = .int .i64 (k : Int) ∧ v1 = .int .i64 r ∧ 0 ≤ r ∧ r + ((n + wtS (l.take k) : Nat) : Int) = left ∧ Below w.heap.size w wr) (fun _ i _ => n - (intOf i).toNat)
  case atStart => exact ⟨0, left - (n : Int), by omega, rfl, rfl, HQ.out, by simp [wtS], Below.refl _ _⟩
  case round =>
   obtain ⟨k, r, hk, rfl, rfl, hr0, hr, hb⟩ := hrel
   have HR : Hid (r + ((n + wtS (l.take k) : Nat) : Int) = left) := hr
   have HB1 : Hid (Below w.heap.size w wr) := hb
   have q9 : r ≤ 1048576 := by omega
   clear hr hb
   by_cases hlt : k < n
   ·have q4 : (k : Int) < (n : Int) := by omega
    obtain ⟨g, off, u, rfl, hg, hc0, hc1, hu⟩ := HL.out k (by omega)
    have hgw : g < w.heap.size := Nat.lt_of_lt_of_le hg HB.out
    rw [← HB1.out.cell (p := ⟨_, _, none⟩) hgw] at hc0
    rw [← HB1.out.cell (p := ⟨_, _, none⟩) hgw] at hc1
    have c1 := szSeries (l.getD k default) u r wr B (hu.on (HB1.out.mono HB.out)) hr0 q9 (HD.out _ (getD_mem l k (by omega))).1 (HD.out _ (getD_mem l k (by omega))).2 (Nat.le_trans HB.out HB1.out.size)
    have HW : Hid (wtS (l.take (k + 1)) = wtS (l.take k) + wtS1 (l.getD k default)) := wtS_snoc l k (by omega)
    obtain ⟨A', cap', rfl, _⟩ := pt_look hu
    unfold vSr at c1
    clear hu
    generalize wtS1 (l.getD k default) = t at *
    generalize (l.getD k default).pts.length = pn at *
    generalize (l.getD k default).key = x at *
    go_wp2_with fail
    refine c1.mono ?_
    rintro e w2 ⟨⟨r2, rfl, hr2⟩, hb2⟩
    have HR2 : Hid (r2 = -1 ∨ 0 ≤ r2 ∧ r2 + (t : Int) = r) := hr2
    have HB2 : Hid (Below w.heap.size w w2) := HB1.out.trans (hb2.mono HB1.out.size)
    clear hr2 hb2
    rcases HR2.out with rfl | ⟨hp, hq⟩
    ·go_wp2_with fail
     go_ret
     exact ⟨-1, rfl, .inl rfl, HB2.out⟩
    ·have q5 : decide (r2 < 0) = false := decide_eq_false (by omega)
     have HQ2 : Hid (r2 + (t : Int) = r) := hq
     clear hq
     go_wp2_with fail
     go_roundw
     case rel => exact ⟨k + 1, r2, by omega, by go_num, rfl, hp, by have := HR.out; have := HQ2.out; rw [HW.out]; omega, HB2.out⟩
     case measure => simp [intOf]; omega
   ·obtain rfl : k = n := by omega
    go_wp2_with fail
    go_ret
    exact ⟨r, rfl, .inr ⟨hr0, by have := HR.out; rw [← hN, List.take_length] at this; rw [← hN]; exact this⟩, HB1.out⟩
def SShort (l : List Ser) : Prop := l.length ≤ 1048576 ∧ ∀ x ∈ l, x.pts.length ≤ 1048576
theorem SShort.of {l : List Ser} {n : Nat} (h : l.length + wtS l ≤ n) (hn : n ≤ 1048576) : SShort l := by
 refine ⟨by omega, fun x hx => ?_⟩
 have := wtS_mem l x hx
 unfold wtS1 at this
 omega
theorem SShort.at {l : List Ser} (h : SShort l) (k : Nat) (hk : k < l.length) : (l.getD k default).pts.length ≤ 1048576 := h.2 _ (getD_mem l k hk)
set_option maxHeartbeats 1000000 in
theorem toSeries (x : Ser) (u : Value) (w : World) (B : Nat) (hu : Lies w B 2 u (ptR x.pts)) (hn : x.pts.length ≤ 1048576) (hB : B ≤ w.heap.size) :
  Calls Tryz.prog 87 #[vSr x.key u] w fun e w' => ∃ u', e = .returned (vSr x.key u') ∧ Owns w' w.heap.size 90 2 u' (ptR x.pts) ∧ Below w.heap.size w w' := by
 have HU : Hid (Lies w B 2 u (ptR x.pts)) := hu
 have HB : Hid (B ≤ w.heap.size) := hB
 have HP : Hid (x.pts.length ≤ 1048576) := hn
 unfold vSr
 obtain ⟨xk, xp⟩ := x
 simp only at HU HP ⊢
 clear hu hB hn
 obtain ⟨A, cap, rfl, _⟩ := pt_look HU.out
 have c1 := fun wx hx hb => toPointS xp (.slice A xp.length cap) wx B hx HP.out hb
 go_enter Tryz.func87, Tryz.ntmps87
 go_wp2_with fail
 have hB3 : Hid (Below w.heap.size w (((w.alloc (.cells #[.string xk, .slice A xp.length cap] 128)).alloc (.cells #[.string ⟨#[]⟩, .slice none 0 0] 98)).alloc (.cells #[.string xk, .slice none 0 0] 98))) := below_alloc3 _ _ _ _
 have b0 := Blk.new ((w.alloc (.cells #[.string xk, .slice A xp.length cap] 128)).alloc (.cells #[.string ⟨#[]⟩, .slice none 0 0] 98)) #[.string xk, .slice none 0 0] 98
 rw [World.size_alloc, World.size_alloc] at b0
 have r0 := (Blk.new (w.alloc (.cells #[.string xk, .slice A xp.length cap] 128)) #[.string ⟨#[]⟩, .slice none 0 0] 98).alloc (.cells #[.string xk, .slice none 0 0] 98)
 rw [World.size_alloc] at r0
 refine (c1 _ (HU.out.on (hB3.out.mono HB.out)) (Nat.le_trans HB.out hB3.out.size)).mono ?_
 have HS3 : (((w.alloc (.cells #[.string xk, .slice A xp.length cap] 128)).alloc (.cells #[.string ⟨#[]⟩, .slice none 0 0] 98)).alloc (.cells #[.string xk, .slice none 0 0] 98)).heap.size = w.heap.size + 3 := by simp only [World.size_alloc]
 rintro e w1 ⟨u, rfl, hO, hb⟩
 rw [HS3] at hO
 have B1 : Hid (Below w.heap.size w w1) := hB3.out.trans (hb.mono hB3.out.size)
 have b1 := b0.on hb (by rw [HS3]; omega)
 have r1 := r0.on hb (by rw [HS3]; omega)
 clear hb hB3 b0 HS3 c1 r0
 generalize hG : w.heap.size + 1 + 1 = G at *
 generalize hR : w.heap.size + 1 = R at *
 have HG : Hid (R + 1 = G ∧ w.heap.size + 1 = R) := ⟨hG, hR⟩
 have m0 : w1.cell? ⟨G, 0, none⟩ = some (.string xk) := b1.cell 0 _ rfl
 have m1 : w1.cell? ⟨G, 1, none⟩ = some (.slice none 0 0) := b1.cell 1 _ rfl
 have f1 := b1.free 1
 obtain ⟨A', n', c', rfl⟩ := hO.shape
 have b2 := b1.set 1 (.slice A' n' c')
 have k0 := b2.cell 0 (.string xk) rfl
 have k1 := b2.cell 1 (.slice A' n' c') rfl
 have hRG : R ≠ G := by omega
 have r2 := r1.other hRG 1 (.slice A' n' c')
 have e0 : _ = some (Value.string ⟨#[]⟩) := r2.cell 0 _ rfl
 have e1 := r2.free 0
 have r3 := r2.set 0 (.string xk)
 have e2 : _ = some (Value.slice none 0 0) := r3.cell 1 _ rfl
 have e3 := r3.free 1
 have r4 := r3.set 1 (.slice A' n' c')
 have e4 := r4.cell 0 (.string xk) rfl
 have e5 := r4.cell 1 (.slice A' n' c') rfl
 have hne : (Value.slice A' n' c').ownBlock ≠ some G := fun e => by have := (hO.lt G e).1; omega
 have hne' : (Value.slice A' n' c').ownBlock ≠ some R := fun e => by have := (hO.lt R e).1; omega
 have hO2 : Hid (Owns (((w1.setCell ⟨G, 1, none⟩ (.slice A' n' c')).setCell ⟨R, 0, none⟩ (.string xk)).setCell ⟨R, 1, none⟩ (.slice A' n' c')) w.heap.size 90 2 (.slice A' n' c') (ptR xp)) := (((hO.other hne 1 _).other hne' 0 _).other hne' 1 _).mono (by omega)
 have B2 : Hid (Below w.heap.size w (((w1.setCell ⟨G, 1, none⟩ (.slice A' n' c')).setCell ⟨R, 0, none⟩ (.string xk)).setCell ⟨R, 1, none⟩ (.slice A' n' c'))) := ((B1.out.setCell (show w.heap.size ≤ G by omega) _).setCell (show w.heap.size ≤ R by omega) _).setCell (show w.heap.size ≤ R by omega) _
 clear hO b1 b2 hG hR r1 r2 r3 r4 hne hne' hRG
 go_wp2_with fail
 exact bodyPost_ret (v := .agg #[.string xk, .slice A' n' c']) (by simp [results, go_sem, e4, e5]) rfl ⟨_, rfl, hO2.out, B2.out⟩
theorem Tryz.infoSr : (Tryz.prog.info? 98).map (fun i => (i.zero, i.size, i.bytes)) = some (some (.agg #[.string ⟨#[]⟩, .slice none 0 0]), 2, 40) := by kernel_rfl
theorem sr_made (n : Nat) : madeCells #[.string ⟨#[]⟩, .slice none 0 0] (n * 2) = (List.replicate n srZ).flatten.toArray := by
 apply Array.ext'
 rw [List.toList_toArray]
 apply List.ext_getElem?
 intro k
 have hz : ∀ r ∈ List.replicate n srZ, r.length = 2 := fun r hr => by rw [List.eq_of_mem_replicate hr]; rfl
 by_cases hk : k < n * 2
 ·have e : k = k / 2 * 2 + k % 2 := by omega
  have hf : k % 2 < 2 := Nat.mod_lt _ (by omega)
  have hj : k / 2 < n := Nat.div_lt_of_lt_mul (by omega)
  have := flat_at 2 (List.replicate n srZ) hz (k / 2) (k % 2) (by simpa using hj) hf
  rw [← e] at this
  have hr : (List.replicate n srZ)[k / 2]'(by simpa using hj) = srZ := by simp
  rw [this, hr]
  have hs : (madeCells #[.string ⟨#[]⟩, .slice none 0 0] (n * 2)).toList[k]? = some (#[.string ⟨#[]⟩, .slice none 0 0].getD (k % 2) default) := by simp [madeCells, hk]
  rw [hs]
  have : k % 2 = 0 ∨ k % 2 = 1 := by omega
  rcases this with h | h <;> rw [h] <;> rfl
 ·have hl : (List.replicate n srZ).flatten.length = n * 2 := by rw [flat_length 2 _ hz]; simp
  have hr : (List.replicate n srZ).flatten[k]? = none := List.getElem?_eq_none (by omega)
  rw [hr]
  apply List.getElem?_eq_none
  rw [Array.length_toList, size_madeCells]
  omega
theorem apart_snoc {L : List (Ser × Value)} {x : Ser} {u : Value} {w w' : World} {base : Nat} {e : TypeId} {sz : Nat} {r : List (List Value)} (h : L.Pairwise fun p q => Apart p.2 q.2) (hL : ∀ p ∈ L, Owns w base 90 2 p.2 (ptR p.1.pts)) (hu : Owns w' w.heap.size e sz u r) : (L ++ [(x, u)]).Pairwise fun p q => Apart p.2 q.2 := by
 rw [List.pairwise_append]
 refine ⟨h, List.pairwise_singleton _ _, fun p hp q hq => ?_⟩
 rw [List.mem_singleton.1 hq]
 intro g h1 h2
 have := ((hL p hp).lt g h1).2
 have := (hu.lt g h2).1
 omega
set_option maxHeartbeats 2000000 in
theorem toSeriesS (l : List Ser) (v : Value) (w : World) (B : Nat) (hv : SerV w B v l) (hn : SShort l) (hB : B ≤ w.heap.size) :
  Calls Tryz.prog 47 #[v] w fun e w' => ∃ u L, e = .returned u ∧ L.map Prod.fst = l ∧ SerO w' w.heap.size u L ∧ Below w.heap.size w w' := by
 obtain ⟨A, cap, rfl, hl⟩ := hv.look
 have HL : Hid (∀ j, j < l.length → ∃ g off u, A = some ⟨g, off, none⟩ ∧ g < B ∧ _) := hl
 have HB : Hid (B ≤ w.heap.size) := hB
 have HS : Hid (SShort l) := hn
 have q1 : (l.length : Int) ≤ 1048576 := by have := hn.1; omega
 clear hl hB hv hn
 generalize hN : l.length = n at *
 obtain ⟨i0, hi, hz0, hz1, hz2⟩ := info_parts Tryz.infoSr
 have hmk : ∀ wx : World, (Instr.makeSlice 33 (.int .i64 (n : Int)) (.int .i64 (n : Int))).run Tryz.prog wx = .ok (.slice (some ⟨wx.heap.size, 0, none⟩) n n) (wx.alloc (.cells (List.replicate n srZ).flatten.toArray 98)) := fun wx => by
  have h := run_make (P := Tryz.prog) wx 33 98 i0 _ Tryz.underlying33 hi hz0 .i64 .i64 (n : Int) (n : Int) (by omega) (by omega) (by rw [hz2]; omega) (by omega)
  rw [hz1] at h
  have e : (Value.agg #[.string ⟨#[]⟩, .slice none 0 0]).cells = #[.string ⟨#[]⟩, .slice none 0 0] := rfl
  rw [e, Int.toNat_natCast, sr_made] at h
  exact h
 clear hi hz0 hz1 hz2
 go_enter Tryz.func47, Tryz.ntmps47
 go_wp2_with fail
 go_loopw [4] (fun v4 wr => ∃ (k : Nat) (L : List (Ser × Value)), k ≤ n ∧ v4 = .int .i64 (k : Int) ∧ L.map Prod.fst = l.take k ∧ Owns wr w.heap.size 98 2 (.slice (some ⟨w.heap.size, 0, none⟩) n n) (srR L ++ List.replicate (n - k) srZ) ∧ (∀ p ∈ L, Owns wr w.heap.size 90 2 p.2 (ptR p.1.pts)) ∧ (L.Pairwise fun p q => Apart p.2 q.2) ∧ Below w.heap.size w wr) (fun i _ => n - (intOf i).toNat)
 case atStart =>
  refine ⟨0, [], by omega, rfl, by simp, ?_, fun p hp => (by cases hp), List.Pairwise.nil, (Below.refl _ _).alloc (Nat.le_refl _) _⟩
  rw [Nat.sub_zero, show srR [] = [] from rfl, List.nil_append]
  refine ⟨fun r hr => by rw [List.eq_of_mem_replicate hr]; rfl, ?_⟩
  have hz : ∀ r ∈ List.replicate n srZ, r.length = 2 := fun r hr => by rw [List.eq_of_mem_replicate hr]; rfl
  have hl := flat_length 2 (List.replicate n srZ) hz
  rw [List.length_replicate] at hl ⊢
  exact World.ownsRow_lit w (List.replicate n srZ).flatten.toArray n (Nat.le_refl _) (by unfold maxLen; omega) (by simpa using hl)
 case round =>
  obtain ⟨k, L, hk, rfl, hLm, hO, hP, hA, hb⟩ := hrel
  have HLM : Hid (L.map Prod.fst = l.take k) := hLm
  have HLL : Hid (L.length = k) := by have := congrArg List.length hLm; rw [List.length_map, List.length_take] at this; unfold Hid; omega
  have HO : Hid (Owns wr w.heap.size 98 2 (.slice (some ⟨w.heap.size, 0, none⟩) n n) (srR L ++ List.replicate (n - k) srZ)) := hO
  have HP : Hid (∀ p ∈ L, Owns wr w.heap.size 90 2 p.2 (ptR p.1.pts)) := hP
  have HA : Hid (L.Pairwise fun p q => Apart p.2 q.2) := hA
  have HB1 : Hid (Below w.heap.size w wr) := hb
  clear hO hb hLm hP hA
  by_cases hlt : k < n
  ·have q4 : (k : Int) < (n : Int) := by omega
   obtain ⟨g, off, u, rfl, hg, hc0, hc1, hu⟩ := HL.out k (by omega)
   have hgw : g < w.heap.size := Nat.lt_of_lt_of_le hg HB.out
   rw [← HB1.out.cell (p := ⟨_, _, none⟩) hgw] at hc0
   rw [← HB1.out.cell (p := ⟨_, _, none⟩) hgw] at hc1
   have c1 := toSeries (l.getD k default) u wr B (hu.on (HB1.out.mono HB.out)) (HS.out.at k (by omega)) (Nat.le_trans HB.out HB1.out.size)
   obtain ⟨A', cap', rfl, _⟩ := pt_look hu
   unfold vSr at c1
   clear hu
   have HT : Hid (l.take (k + 1) = l.take k ++ [l.getD k default]) := take_getD l k (by omega)
   generalize (l.getD k default).pts.length = pn at *
   generalize hx : l.getD k default = x at *
   have HX : Hid (l.getD k default = x) := hx
   clear hx
   go_wp2_with fail
   refine c1.mono ?_
   rintro e w2 ⟨u', rfl, hO', hb2⟩
   have hlen : (srR L ++ List.replicate (n - k) srZ).length = n := by rw [List.length_append, List.length_replicate, srR_length, HLL.out]; omega
   have hdl : (srR L).length = k := by rw [srR_length, HLL.out]
   have hO2 := HO.out.on hb2
   rw [show (Value.slice (some ⟨w.heap.size, 0, none⟩) n n) = .slice (some ⟨w.heap.size, 0, none⟩) (srR L ++ List.replicate (n - k) srZ).length n by rw [hlen]] at hO2
   obtain ⟨y0, d0⟩ := hO2.cellX k 0 (by rw [hlen]; exact hlt) (by omega)
   have f0 := hO2.free (k * 2)
   obtain ⟨y1, d1⟩ := hO2.cellX k 1 (by rw [hlen]; exact hlt) (by omega)
   have f1 := hO2.free (k * 2 + 1)
   rw [Nat.add_zero] at d0
   obtain ⟨A2, n2, c2, rfl⟩ := hO'.shape
   have hPp := hO2.put2 k (by rw [hlen]; exact hlt) (.string x.key) (.slice A2 n2 c2)
   rw [hlen, fill_step _ _ _ n k hdl hlt, show srR L ++ [[.string x.key, .slice A2 n2 c2]] = srR (L ++ [(x, Value.slice A2 n2 c2)]) by rw [srR_append]; rfl] at hPp
   have HPp : Hid (Owns ((w2.setCell ⟨w.heap.size, k * 2, none⟩ (.string x.key)).setCell ⟨w.heap.size, k * 2 + 1, none⟩ (.slice A2 n2 c2)) w.heap.size 98 2 (.slice (some ⟨w.heap.size, 0, none⟩) n n) (srR (L ++ [(x, Value.slice A2 n2 c2)]) ++ List.replicate (n - (k + 1)) srZ)) := hPp
   have HB2 : Hid (Below w.heap.size w w2) := HB1.out.trans (hb2.mono HB1.out.size)
   have hap := hO2
   have HPn : Hid (∀ p ∈ L ++ [(x, Value.slice A2 n2 c2)], Owns ((w2.setCell ⟨w.heap.size, k * 2, none⟩ (.string x.key)).setCell ⟨w.heap.size, k * 2 + 1, none⟩ (.slice A2 n2 c2)) w.heap.size 90 2 p.2 (ptR p.1.pts)) := by
    intro p hp
    have hw2 : Owns w2 w.heap.size 90 2 p.2 (ptR p.1.pts) := by
     rcases List.mem_append.1 hp with hp | hp
     ·exact (HP.out p hp).on hb2
     ·rw [List.mem_singleton.1 hp]
      exact hO'.mono HB1.out.size
    have hne : p.2.ownBlock ≠ some w.heap.size := fun e => hw2.apartT hap (by decide) w.heap.size e rfl
    exact (hw2.other hne _ _).other hne _ _
   have HAn : Hid (List.Pairwise (fun p q : Ser × Value => Apart p.2 q.2) (L ++ [(x, Value.slice A2 n2 c2)])) := apart_snoc HA.out HP.out hO'
   have HLMn : Hid ((L ++ [(x, Value.slice A2 n2 c2)]).map Prod.fst = l.take (k + 1)) := by
    unfold Hid
    rw [HT.out, List.map_append, HLM.out]
    rfl
   clear hO2 hPp hb2 hlen hdl hO' hap
   go_wp2_with fail
   go_roundw
   case rel => exact ⟨k + 1, _, by omega, by go_num, HLMn.out, HPp.out, HPn.out, HAn.out, ((HB2.out).setCell (Nat.le_refl _) _).setCell (Nat.le_refl _) _⟩
   case measure => simp [intOf]; omega
  ·obtain rfl : k = n := by omega
   go_wp2_with fail
   go_ret
   refine ⟨_, L, rfl, ?_, ⟨?_, HP.out, HA.out⟩, HB1.out⟩
   ·rw [HLM.out, ← hN, List.take_length]
   ·have := HO.out
    rw [Nat.sub_self, List.replicate_zero, List.append_nil] at this
    exact this
set_option maxHeartbeats 1000000 in
theorem eqSeries (x : Ser) (u v : Value) (w : World) (B : Nat) (hu : Lies w B 2 u (ptR x.pts)) (hv : Lies w B 2 v (ptR x.pts)) (hn : x.pts.length ≤ 1048576) (hB : B ≤ w.heap.size) : Calls Tryz.prog 95 #[vSr x.key u, vSr x.key v] w fun e w' => e = .returned (.bool true) ∧ Below w.heap.size w w' := by
 have HU : Hid (Lies w B 2 u (ptR x.pts)) := hu
 have HV : Hid (Lies w B 2 v (ptR x.pts)) := hv
 have HB : Hid (B ≤ w.heap.size) := hB
 have HP : Hid (x.pts.length ≤ 1048576) := hn
 unfold vSr
 obtain ⟨xk, xp⟩ := x
 simp only at HU HV HP ⊢
 clear hu hB hn hv
 obtain ⟨A, cap, rfl, _⟩ := pt_look HU.out
 obtain ⟨A', cap', rfl, _⟩ := pt_look HV.out
 have hk : (xk.toList == xk.toList) = true := by simp
 go_enter Tryz.func95, Tryz.ntmps95
 go_wp2_with fail
 have hb2 : Hid (Below w.heap.size w ((w.alloc (.cells #[.string xk, .slice A xp.length cap] 98)).alloc (.cells #[.string xk, .slice A' xp.length cap'] 98))) := below_alloc2 _ _ _
 refine (eqPointS xp _ _ _ B (HU.out.on (hb2.out.mono HB.out)) (HV.out.on (hb2.out.mono HB.out)) HP.out (Nat.le_trans HB.out hb2.out.size)).mono ?_
 rintro e w1 ⟨rfl, hb⟩
 have B1 : Hid (Below w.heap.size w w1) := hb2.out.trans (hb.mono hb2.out.size)
 clear hb hb2
 go_wp2_with fail
 go_ret
 exact ⟨rfl, B1.out⟩
set_option maxHeartbeats 1000000 in
theorem eqSeriesS (l : List Ser) (va vb : Value) (w : World) (B : Nat) (ha : SerV w B va l) (hb : SerV w B vb l) (hn : SShort l) (hB : B ≤ w.heap.size) :
  Calls Tryz.prog 58 #[va, vb] w fun e w' => e = .returned (.bool true) ∧ Below w.heap.size w w' := by
 obtain ⟨A, cap, rfl, hl⟩ := ha.look
 obtain ⟨A', cap', rfl, hl'⟩ := hb.look
 have HL : Hid (∀ j, j < l.length → ∃ g off u, A = some ⟨g, off, none⟩ ∧ g < B ∧ _) := hl
 have HL' : Hid (∀ j, j < l.length → ∃ g off u, A' = some ⟨g, off, none⟩ ∧ g < B ∧ _) := hl'
 have HB : Hid (B ≤ w.heap.size) := hB
 have HS : Hid (SShort l) := hn
 have q1 : (l.length : Int) ≤ 1048576 := by have := hn.1; omega
 clear hl hl' hB ha hb hn
 generalize hN : l.length = n at *
 go_enter Tryz.func58, Tryz.ntmps58
 go_wp2_with fail
 go_loopw [5] (fun v5 wr => ∃ k : Nat, k ≤ n ∧ v5 = .int .i64 (k : Int) ∧ Below w.heap.size w wr) (fun i _ => n - (intOf i).toNat)
 case atStart => exact ⟨0, by omega, rfl, Below.refl _ _⟩
 case round =>
  obtain ⟨k, hk, rfl, hb⟩ := hrel
  have HB1 : Hid (Below w.heap.size w wr) := hb
  clear hb
  by_cases hlt : k < n
  ·have q4 : (k : Int) < (n : Int) := by omega
   obtain ⟨g, off, u, rfl, hg, ha0, ha1, hu⟩ := HL.out k hlt
   obtain ⟨g', off', u', rfl, hg', hb0, hb1, hu'⟩ := HL'.out k hlt
   have hgw : g < w.heap.size := Nat.lt_of_lt_of_le hg HB.out
   have hgw' : g' < w.heap.size := Nat.lt_of_lt_of_le hg' HB.out
   rw [← HB1.out.cell (p := ⟨_, _, none⟩) hgw] at ha0
   rw [← HB1.out.cell (p := ⟨_, _, none⟩) hgw'] at hb0
   rw [← HB1.out.cell (p := ⟨_, _, none⟩) hgw] at ha1
   rw [← HB1.out.cell (p := ⟨_, _, none⟩) hgw'] at hb1
   have c1 := fun (wx : World) (hw : Below w.heap.size w wx) => eqSeries (l.getD k default) u u' wx B (hu.on (hw.mono HB.out)) (hu'.on (hw.mono HB.out)) (HS.out.at k (by omega)) (Nat.le_trans HB.out hw.size)
   obtain ⟨A1, cap1, rfl, _⟩ := pt_look hu
   obtain ⟨A2, cap2, rfl, _⟩ := pt_look hu'
   unfold vSr at c1
   clear hu hu'
   generalize (l.getD k default).pts.length = pn at *
   generalize (l.getD k default).key = x at *
   have hsz := HB1.out.size
   go_wp2_with fail
   go_region_with (go_at_call 95; refine (c1 _ HB1.out.drew).mono ?_; rintro e w1 ⟨rfl, hb1⟩)
   all_goals go_wp2_with fail
   all_goals exact ⟨⟨k + 1, by omega, by go_num, HB1.out.trans (((Below.refl _ wr).drew.trans hb1).mono hsz)⟩, by simp [intOf]; omega⟩
  ·obtain rfl : k = n := by omega
   go_wp2_with fail
   go_ret
   exact ⟨rfl, HB1.out⟩
end Go.Proofs.YtikknmoeefipmaaGreatDoor
namespace Go.Proofs.YtikknmoeefipmaaGreatDoor
open Go.RowKit Go.PlainAid
def Rising (l : List Pnt) : Prop := l.Pairwise fun p q => p.t < q.t
def inB (p : Pnt) : Prop := (0 ≤ p.t ∧ p.t ≤ 1099511627776) ∧ (-1099511627776 ≤ p.v ∧ p.v ≤ 1099511627776)
theorem tAt_get (l : List Pnt) (j : Nat) (h : j < l.length) : tAt l j = (l[j]).t := by rw [tAt, ← getD_at l j h]
theorem vAt_get (l : List Pnt) (j : Nat) (h : j < l.length) : vAt l j = (l[j]).v := by rw [vAt, ← getD_at l j h]
theorem rising_of_next (l : List Pnt) (h : ∀ j, j < l.length → 0 < j → tAt l (j - 1) < tAt l j) : Rising l := by
 unfold Rising
 rw [List.pairwise_iff_getElem]
 have key : ∀ d i, i + d + 1 < l.length → tAt l i < tAt l (i + d + 1) := by
  intro d
  induction d with
  | zero => intro i hi; have := h (i + 0 + 1) hi (by omega); simpa using this
  | succ d ih =>
   intro i hi
   have h1 := ih i (by omega)
   have h2 := h (i + (d + 1) + 1) hi (by omega)
   rw [show i + (d + 1) + 1 - 1 = i + d + 1 by omega] at h2
   omega
 intro i j hi hj hij
 have := key (j - i - 1) i (by omega)
 rw [show i + (j - i - 1) + 1 = j by omega] at this
 rw [tAt_get l i hi, tAt_get l j hj] at this
 exact this
theorem POk_iff (l : List Pnt) : POk l ↔ l.length ≤ 60 ∧ Rising l ∧ ∀ p ∈ l, inB p := by
 constructor
 ·intro h
  refine ⟨h.1, rising_of_next l fun j hj h0 => (h.2 j hj).2 h0, fun p hp => ?_⟩
  obtain ⟨j, hj, rfl⟩ := List.getElem_of_mem hp
  have := (h.2 j hj).1
  rw [tAt_get l j hj, vAt_get l j hj] at this
  exact this
 ·rintro ⟨h1, h2, h3⟩
  refine ⟨h1, fun j hj => ⟨?_, fun h0 => ?_⟩⟩
  ·rw [tAt_get l j hj, vAt_get l j hj]
   exact h3 _ (List.getElem_mem hj)
  ·rw [tAt_get l j hj, tAt_get l (j - 1) (by omega)]
   exact (List.pairwise_iff_getElem.1 h2) (j - 1) j (by omega) hj (by omega)
theorem rising_ext : ∀ {l m : List Pnt}, Rising l → Rising m → (∀ p, p ∈ l ↔ p ∈ m) → l = m
 | [], [], _, _, _ => rfl
 | [], y :: m, _, _, h => by have := (h y).2 (by simp); simp at this
 | x :: l, [], _, _, h => by have := (h x).1 (by simp); simp at this
 | x :: l, y :: m, hl, hm, h => by
  have hl' := List.pairwise_cons.1 hl
  have hm' := List.pairwise_cons.1 hm
  have hxy : x = y := by
   rcases List.mem_cons.1 ((h x).1 (by simp)) with e | h1
   ·exact e
   ·rcases List.mem_cons.1 ((h y).2 (by simp)) with e | h2
    ·exact e.symm
    ·have := hm'.1 x h1
     have := hl'.1 y h2
     omega
  subst hxy
  congr 1
  refine rising_ext hl'.2 hm'.2 fun p => ⟨fun hp => ?_, fun hp => ?_⟩
  ·rcases List.mem_cons.1 ((h p).1 (by simp [hp])) with e | h1
   ·subst e; have := hl'.1 p hp; omega
   ·exact h1
  ·rcases List.mem_cons.1 ((h p).2 (by simp [hp])) with e | h1
   ·subst e; have := hm'.1 p hp; omega
   ·exact h1
def stepF (p : Pnt) (s : List Pnt × Bool) (q : Pnt) : List Pnt × Bool :=
 let o := if s.2 = false ∧ p.t ≤ q.t then (s.1 ++ [p], true) else s
 if q.t = p.t then o else (o.1 ++ [q], o.2)
def putS (l : List Pnt) (p : Pnt) (k : Nat) : List Pnt × Bool := (l.take k).foldl (stepF p) ([], false)
theorem putS_succ (l : List Pnt) (p : Pnt) (k : Nat) (h : k < l.length) : putS l p (k + 1) = stepF p (putS l p k) (l.getD k default) := by
 unfold putS
 rw [take_getD l k h, List.foldl_append]
 rfl
def putL (l : List Pnt) (p : Pnt) : List Pnt := if (putS l p l.length).2 then (putS l p l.length).1 else (putS l p l.length).1 ++ [p]
def putP : List Pnt → Pnt → List Pnt
 | [], p => [p]
 | q :: r, p => if p.t ≤ q.t then p :: (q :: r).filter (fun x => decide (x.t ≠ p.t)) else q :: putP r p
theorem fold_done (p : Pnt) : ∀ (l o : List Pnt), l.foldl (stepF p) (o, true) = (o ++ l.filter (fun x => decide (x.t ≠ p.t)), true)
 | [], o => by simp
 | q :: r, o => by
  rw [List.foldl_cons]
  by_cases h : q.t = p.t
  ·have e : stepF p (o, true) q = (o, true) := by simp [stepF, h]
   rw [e, fold_done p r o, List.filter_cons, if_neg (by simp [h])]
  ·have e : stepF p (o, true) q = (o ++ [q], true) := by simp [stepF, h]
   rw [e, fold_done p r (o ++ [q]), List.filter_cons, if_pos (by simp [h]), List.append_assoc]
   rfl
def fin (p : Pnt) (s : List Pnt × Bool) : List Pnt := if s.2 then s.1 else s.1 ++ [p]
theorem fold_open (p : Pnt) : ∀ (l o : List Pnt), fin p (l.foldl (stepF p) (o, false)) = o ++ putP l p
 | [], o => by simp [fin, putP]
 | q :: r, o => by
  rw [List.foldl_cons]
  by_cases h : p.t ≤ q.t
  ·rw [putP, if_pos h]
   by_cases h2 : q.t = p.t
   ·have e : stepF p (o, false) q = (o ++ [p], true) := by simp [stepF, h2]
    rw [e, fold_done p r (o ++ [p]), List.filter_cons, if_neg (by simp [h2])]
    simp [fin]
   ·have e : stepF p (o, false) q = (o ++ [p] ++ [q], true) := by simp [stepF, h, h2]
    rw [e, fold_done p r (o ++ [p] ++ [q]), List.filter_cons, if_pos (by simp [h2])]
    simp [fin]
  ·have e : stepF p (o, false) q = (o ++ [q], false) := by simp [stepF, h, show ¬ q.t = p.t by omega]
   rw [putP, if_neg h, e, fold_open p r (o ++ [q])]
   simp
theorem putL_eq (l : List Pnt) (p : Pnt) : putL l p = putP l p := by
 have := fold_open p l []
 unfold putL putS
 rw [List.take_length]
 exact this
theorem mem_putP (p x : Pnt) : ∀ l : List Pnt, x ∈ putP l p ↔ x = p ∨ (x ∈ l ∧ x.t ≠ p.t)
 | [] => by simp [putP]
 | q :: r => by
  by_cases h : p.t ≤ q.t
  ·rw [putP, if_pos h, List.mem_cons, List.mem_filter]
   simp
  ·rw [putP, if_neg h, List.mem_cons, mem_putP p x r, List.mem_cons]
   constructor
   ·rintro (e | e | ⟨e1, e2⟩)
    ·subst e; exact .inr ⟨.inl rfl, by omega⟩
    ·exact .inl e
    ·exact .inr ⟨.inr e1, e2⟩
   ·rintro (e | ⟨e | e1, e2⟩)
    ·exact .inr (.inl e)
    ·exact .inl e
    ·exact .inr (.inr ⟨e1, e2⟩)
theorem rising_putP (p : Pnt) : ∀ l : List Pnt, Rising l → Rising (putP l p)
 | [], _ => by simp [putP, Rising]
 | q :: r, hl => by
  have hl' := List.pairwise_cons.1 hl
  by_cases h : p.t ≤ q.t
  ·rw [putP, if_pos h]
   refine List.pairwise_cons.2 ⟨fun x hx => ?_, hl.sublist List.filter_sublist⟩
   obtain ⟨h1, h2⟩ := List.mem_filter.1 hx
   have h3 : x.t ≠ p.t := by simpa using h2
   rcases List.mem_cons.1 h1 with e | h4
   ·subst e; omega
   ·have := hl'.1 x h4; omega
  ·rw [putP, if_neg h]
   refine List.pairwise_cons.2 ⟨fun x hx => ?_, rising_putP p r hl'.2⟩
   rcases (mem_putP p x r).1 hx with e | ⟨h4, _⟩
   ·subst e; omega
   ·exact hl'.1 x h4
theorem putP_length (p : Pnt) : ∀ l : List Pnt, (putP l p).length ≤ l.length + 1
 | [] => by simp [putP]
 | q :: r => by
  by_cases h : p.t ≤ q.t
  ·rw [putP, if_pos h]
   have := List.length_filter_le (fun x => decide (x.t ≠ p.t)) (q :: r)
   simp only [List.length_cons] at this ⊢
   omega
  ·rw [putP, if_neg h]
   have := putP_length p r
   simp only [List.length_cons]
   omega
def mrg (a b : List Pnt) : List Pnt := b.foldl putP a
theorem mem_mrg (x : Pnt) : ∀ (b a : List Pnt), Rising b → (x ∈ mrg a b ↔ x ∈ b ∨ (x ∈ a ∧ ∀ q ∈ b, q.t ≠ x.t))
 | [], a, _ => by simp [mrg]
 | y :: b, a, hb => by
  have hb' := List.pairwise_cons.1 hb
  have ih := mem_mrg x b (putP a y) hb'.2
  have e : mrg a (y :: b) = mrg (putP a y) b := rfl
  rw [e, ih, mem_putP]
  constructor
  ·rintro (h | ⟨h | ⟨h1, h2⟩, h3⟩)
   ·exact .inl (by simp [h])
   ·exact .inl (by simp [h])
   ·refine .inr ⟨h1, fun q hq => ?_⟩
    rcases List.mem_cons.1 hq with e | hq
    ·subst e; omega
    ·exact h3 q hq
  ·rintro (h | ⟨h1, h2⟩)
   ·rcases List.mem_cons.1 h with e | h
    ·subst e
     exact .inr ⟨.inl rfl, fun q hq => by have := hb'.1 q hq; omega⟩
    ·exact .inl h
   ·exact .inr ⟨.inr ⟨h1, fun e => h2 y (by simp) e.symm⟩, fun q hq => h2 q (by simp [hq])⟩
theorem rising_mrg : ∀ (b a : List Pnt), Rising a → Rising (mrg a b)
 | [], _, ha => ha
 | y :: b, a, ha => rising_mrg b (putP a y) (rising_putP y a ha)
theorem mrg_length : ∀ (b a : List Pnt), (mrg a b).length ≤ a.length + b.length
 | [], a => by simp [mrg]
 | y :: b, a => by
  have h1 := mrg_length b (putP a y)
  have h2 := putP_length y a
  have e : mrg a (y :: b) = mrg (putP a y) b := rfl
  rw [e]
  simp only [List.length_cons]
  omega
theorem mrg_nil_left (b : List Pnt) (hb : Rising b) : mrg [] b = b :=
 rising_ext (rising_mrg b [] (by simp [Rising])) hb fun p => by rw [mem_mrg p b [] hb]; simp
theorem mrg_less {x y : Pnt} {a b : List Pnt} (ha : Rising (x :: a)) (hb : Rising (y :: b)) (h : x.t < y.t) : mrg (x :: a) (y :: b) = x :: mrg a (y :: b) := by
 have ha' := List.pairwise_cons.1 ha
 have hb' := List.pairwise_cons.1 hb
 refine rising_ext (rising_mrg _ _ ha) (List.pairwise_cons.2 ⟨fun p hp => ?_, rising_mrg _ _ ha'.2⟩) fun p => ?_
 ·rcases (mem_mrg p (y :: b) a hb).1 hp with h1 | ⟨h1, _⟩
  ·rcases List.mem_cons.1 h1 with e | h1
   ·subst e; exact h
   ·have := hb'.1 p h1; omega
  ·exact ha'.1 p h1
 ·rw [List.mem_cons, mem_mrg p _ _ hb, mem_mrg p _ _ hb]
  constructor
  ·rintro (h1 | ⟨h1, h2⟩)
   ·exact .inr (.inl h1)
   ·rcases List.mem_cons.1 h1 with e | h1
    ·exact .inl e
    ·exact .inr (.inr ⟨h1, h2⟩)
  ·rintro (e | h1 | ⟨h1, h2⟩)
   ·subst e
    refine .inr ⟨by simp, fun q hq => ?_⟩
    rcases List.mem_cons.1 hq with e | hq
    ·subst e; omega
    ·have := hb'.1 q hq; omega
   ·exact .inl h1
   ·exact .inr ⟨by simp [h1], h2⟩
theorem mrg_same {x y : Pnt} {a b : List Pnt} (ha : Rising (x :: a)) (hb : Rising (y :: b)) (h : x.t = y.t) : mrg (x :: a) (y :: b) = y :: mrg a b := by
 have ha' := List.pairwise_cons.1 ha
 have hb' := List.pairwise_cons.1 hb
 refine rising_ext (rising_mrg _ _ ha) (List.pairwise_cons.2 ⟨fun p hp => ?_, rising_mrg _ _ ha'.2⟩) fun p => ?_
 ·rcases (mem_mrg p b a hb'.2).1 hp with h1 | ⟨h1, _⟩
  ·exact hb'.1 p h1
  ·have := ha'.1 p h1; omega
 ·rw [List.mem_cons, mem_mrg p _ _ hb, mem_mrg p _ _ hb'.2]
  constructor
  ·rintro (h1 | ⟨h1, h2⟩)
   ·rcases List.mem_cons.1 h1 with e | h1
    ·exact .inl e
    ·exact .inr (.inl h1)
   ·rcases List.mem_cons.1 h1 with e | h1
    ·subst e; exact absurd h.symm (h2 y (by simp))
    ·exact .inr (.inr ⟨h1, fun q hq => h2 q (by simp [hq])⟩)
  ·rintro (e | h1 | ⟨h1, h2⟩)
   ·exact .inl (by simp [e])
   ·exact .inl (by simp [h1])
   ·refine .inr ⟨by simp [h1], fun q hq => ?_⟩
    rcases List.mem_cons.1 hq with e | hq
    ·subst e; have := ha'.1 p h1; omega
    ·exact h2 q hq
theorem mrg_more {x y : Pnt} {a b : List Pnt} (ha : Rising (x :: a)) (hb : Rising (y :: b)) (h : y.t < x.t) : mrg (x :: a) (y :: b) = y :: mrg (x :: a) b := by
 have ha' := List.pairwise_cons.1 ha
 have hb' := List.pairwise_cons.1 hb
 refine rising_ext (rising_mrg _ _ ha) (List.pairwise_cons.2 ⟨fun p hp => ?_, rising_mrg _ _ ha⟩) fun p => ?_
 ·rcases (mem_mrg p b (x :: a) hb'.2).1 hp with h1 | ⟨h1, _⟩
  ·exact hb'.1 p h1
  ·rcases List.mem_cons.1 h1 with e | h1
   ·subst e; exact h
   ·have := ha'.1 p h1; omega
 ·rw [List.mem_cons, mem_mrg p _ _ hb, mem_mrg p _ _ hb'.2]
  constructor
  ·rintro (h1 | ⟨h1, h2⟩)
   ·rcases List.mem_cons.1 h1 with e | h1
    ·exact .inl e
    ·exact .inr (.inl h1)
   ·exact .inr (.inr ⟨h1, fun q hq => h2 q (by simp [hq])⟩)
  ·rintro (e | h1 | ⟨h1, h2⟩)
   ·exact .inl (by simp [e])
   ·exact .inl (by simp [h1])
   ·refine .inr ⟨h1, fun q hq => ?_⟩
    rcases List.mem_cons.1 hq with e | hq
    ·subst e
     rcases List.mem_cons.1 h1 with e | h1
     ·subst e; omega
     ·have := ha'.1 p h1; omega
    ·exact h2 q hq
end Go.Proofs.YtikknmoeefipmaaGreatDoor
namespace Go.Proofs.YtikknmoeefipmaaGreatDoor
open Go.RowKit
theorem cell?_heap {w w' : World} (h : w'.heap = w.heap) (a : Addr) : w'.cell? a = w.cell? a := by
 unfold World.cell?
 rw [h]
theorem below_heap {w w' : World} (h1 : w'.heap = w.heap) (h2 : w'.os = w.os) (h3 : w'.tape = w.tape) (h4 : w'.output = w.output) : Below w.heap.size w w' := ⟨h2, h3, h4, by rw [h1]; exact Nat.le_refl _, fun k _ => by rw [h1]⟩
def Like (w w' : World) : Prop := w'.heap = w.heap ∧ w'.os = w.os ∧ w'.tape = w.tape ∧ w'.output = w.output
theorem Like.refl (w : World) : Like w w := ⟨rfl, rfl, rfl, rfl⟩
theorem Like.drewN {w w' : World} (h : Like w w') (n : Nat) : Like w (w'.drewN n) := h
theorem Like.below {w w' : World} (h : Like w w') : Below w.heap.size w w' := below_heap h.1 h.2.1 h.2.2.1 h.2.2.2
end Go.Proofs.YtikknmoeefipmaaGreatDoor
namespace Go.Proofs.YtikknmoeefipmaaGreatDoor
open Go.ChangeShapes Go.WideShapes Go.ChangeAt Go.RowKit Go.PlainAid
set_option linter.unusedVariables false
set_option maxHeartbeats 400000 in
theorem in_yes (x lo hi : Int) (w : World) (h1 : lo ≤ x) (h2 : x ≤ hi) :
  Calls Tryz.prog 30 #[.int .i64 x, .int .i64 lo, .int .i64 hi] w fun e w' => e = .returned (.bool true) ∧ w = w' := by
 go_enter Tryz.func30, Tryz.ntmps30
 go_wp2
 go_ret
 exact ⟨rfl, rfl⟩
set_option maxHeartbeats 400000 in
theorem in_no (x lo hi : Int) (w : World) (h : x < lo ∨ hi < x) :
  Calls Tryz.prog 30 #[.int .i64 x, .int .i64 lo, .int .i64 hi] w fun e w' => e = .returned (.bool false) ∧ w = w' := by
 by_cases h1 : x < lo
 ·go_enter Tryz.func30, Tryz.ntmps30
  go_wp2
  go_ret
  exact ⟨rfl, rfl⟩
 ·have h2 : hi < x := by omega
  have h3 : decide (x ≤ hi) = false := by simp; omega
  clear h
  go_enter Tryz.func30, Tryz.ntmps30
  go_wp2
  go_ret
  exact ⟨rfl, rfl⟩
end Go.Proofs.YtikknmoeefipmaaGreatDoor
namespace Go.Proofs.YtikknmoeefipmaaGreatDoor
open Go.ChangeShapes Go.WideShapes Go.ChangeAt Go.RowKit Go.PlainAid
set_option linter.unusedVariables false
theorem dec_of {p : Prop} [Decidable p] (b : Bool) (h : b = true ↔ p) : decide p = b := by
 cases b
 ·exact decide_eq_false fun hp => by simp [hp] at h
 ·exact decide_eq_true (h.1 rfl)
set_option maxHeartbeats 1000000 in
theorem implPointsOk (l : List Pnt) (v : Value) (w : World) (B : Nat) (hv : Lies w B 2 v (ptR l)) (hn : l.length ≤ 1048576) (hB : B ≤ w.heap.size) : Calls Tryz.prog 53 #[v] w fun e w' => e = .returned (.bool (decide (POk l))) ∧ Below w.heap.size w w' := by
 obtain ⟨A, cap, rfl, hl⟩ := pt_look hv
 have HL : Hid (∀ j, j < l.length → ∃ g off, A = some ⟨g, off, none⟩ ∧ g < B ∧ w.cell? ⟨g, off + j * 2, none⟩ = some (.int .i64 (tAt l j)) ∧ w.cell? ⟨g, off + j * 2 + 1, none⟩ = some (.int .i64 (vAt l j))) := hl
 have HB : Hid (B ≤ w.heap.size) := hB
 have HD : Hid (∀ b, (b = true ↔ POk l) → decide (POk l) = b) := fun b hb => dec_of b hb
 have HV : Hid (POk l ↔ l.length ≤ 60 ∧ ∀ j, j < l.length → ((0 ≤ tAt l j ∧ tAt l j ≤ 1099511627776) ∧ (-1099511627776 ≤ vAt l j ∧ vAt l j ≤ 1099511627776)) ∧ (0 < j → tAt l (j - 1) < tAt l j)) := Iff.rfl
 have q0 : (l.length : Int) ≤ 1048576 := by omega
 clear hl hn hv hB
 generalize hN : l.length = n at *
 clear hN
 by_cases h2 : (60 : Int) < (n : Int)
 ·go_enter Tryz.func53, Tryz.ntmps53
  go_wp2
  go_ret
  refine ⟨?_, Below.refl _ _⟩
  rw [HD.out false]
  ·rfl
  rw [HV.out]
  exact ⟨fun h => (by cases h), fun h => by omega⟩
 have q1 : (n : Int) ≤ 60 := by omega
 clear h2
 go_enter Tryz.func53, Tryz.ntmps53
 go_wp2
 go_loopw [3, 11] (fun v3 v11 wr => ∃ (k : Nat) (m : Int), k ≤ n ∧ v11 = .int .i64 (k : Int) ∧ v3 = .int .i64 m ∧ 0 ≤ m ∧ m ≤ 1099511627777 ∧ Hid ((k = 0 → m = 0) ∧ (0 < k → m = tAt l (k - 1) + 1)) ∧ Below w.heap.size w wr ∧ Hid (∀ j, j < k → ((0 ≤ tAt l j ∧ tAt l j ≤ 1099511627776) ∧ (-1099511627776 ≤ vAt l j ∧ vAt l j ≤ 1099511627776)) ∧ (0 < j → tAt l (j - 1) < tAt l j))) (fun _ i _ => n - (intOf i).toNat)
 case atStart => exact ⟨0, 0, by omega, rfl, rfl, by omega, by omega, ⟨fun _ => rfl, fun h => by omega⟩, Below.refl _ _, fun j hj => by omega⟩
 case round =>
  obtain ⟨k, m, hk, rfl, rfl, hm0, hm1, HM, hb, HJ⟩ := hrel
  have HB1 : Hid (Below w.heap.size w wr) := hb
  clear hb
  by_cases hlt : k < n
  ·have q2 : (k : Int) < (n : Int) := by omega
   obtain ⟨g, off, rfl, hg, e1, e2⟩ := HL.out k hlt
   have hgw : g < w.heap.size := Nat.lt_of_lt_of_le hg HB.out
   rw [← HB1.out.cell (p := ⟨_, _, none⟩) hgw] at e1
   rw [← HB1.out.cell (p := ⟨_, _, none⟩) hgw] at e2
   have HBa : Hid (∀ cs cs' : Array Value, Below w.heap.size w ((wr.alloc (.cells cs 90)))) := fun cs _ => HB1.out.alloc HB1.out.size _
   generalize hx : tAt l k = x at *
   have HX : Hid (tAt l k = x) := hx
   clear hx
   generalize hy : vAt l k = y at *
   have HY : Hid (vAt l k = y) := hy
   clear hy hgw hg
   have HNo : Hid ((x < m ∨ 1099511627776 < x ∨ y < -1099511627776 ∨ 1099511627776 < y) → decide (POk l) = false) := fun h => by
    apply HD.out
    rw [HV.out]
    refine ⟨fun h => (by cases h), fun h2 => ?_⟩
    have h3 := h2.2 k hlt
    rw [HX.out, HY.out] at h3
    have h4 := HM.out
    by_cases h0 : k = 0
    ·have := h4.1 h0; omega
    ·have := h4.2 (by omega); have := h3.2 (by omega); omega
   by_cases c1 : x < m
   ·skip
    go_wp2
    go_ret
    exact ⟨by rw [HNo.out (.inl c1)]; rfl, HBa.out _ #[]⟩
   by_cases c2 : 1099511627776 < x
   ·skip
    go_wp2
    go_ret
    exact ⟨by rw [HNo.out (.inr (.inl c2))]; rfl, HBa.out _ #[]⟩
   by_cases c3 : y < -1099511627776
   ·skip
    go_wp2
    go_ret
    exact ⟨by rw [HNo.out (.inr (.inr (.inl c3)))]; rfl, HBa.out _ #[]⟩
   by_cases c4 : 1099511627776 < y
   ·skip
    go_wp2
    go_ret
    exact ⟨by rw [HNo.out (.inr (.inr (.inr c4)))]; rfl, HBa.out _ #[]⟩
   go_wp2
   go_roundw
   case rel =>
    refine ⟨k + 1, x + 1, by omega, by go_num, by go_num, by omega, by omega, ⟨fun h => by omega, fun _ => by rw [Nat.add_sub_cancel, HX.out]⟩, HBa.out _ #[], fun j hj => ?_⟩
    by_cases e : j = k
    ·subst e
     rw [HX.out, HY.out]
     have h4 := HM.out
     refine ⟨⟨⟨by omega, by omega⟩, by omega, by omega⟩, fun h => ?_⟩
     have := h4.2 h
     omega
    ·exact HJ.out j (by omega)
   case measure => simp [intOf]; omega
  ·have hkk : k = n := by omega
   subst hkk
   go_wp2
   go_ret
   refine ⟨?_, HB1.out⟩
   rw [HD.out true]
   ·rfl
   rw [HV.out]
   exact ⟨fun _ => ⟨by omega, HJ.out⟩, fun _ => rfl⟩
end Go.Proofs.YtikknmoeefipmaaGreatDoor
