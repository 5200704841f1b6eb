/- PtWov -/
import Derived.Test.YthhamlahdjokkaaGreatDoorQe16
open List (setIfInBounds_toArray set_cons_zero set_cons_succ)
namespace Go.Proofs.YthhamlahdjokkaaGreatDoor
open Go.ChangeShapes Go.WideShapes Go.ChangeAt Go.RowKit Go.PlainAid
set_option linter.unusedVariables false
set_option maxHeartbeats 400000 in
theorem implEarlier (x y : Pnt) (w : World) : Calls Tryz.prog 200 #[vPt x,vPt y] w fun e w' => e = .returned (vPt (if x.t < y.t then x else y)) ∧ Below w.heap.size w w' := by
 unfold vPt
 by_cases h : x.t < y.t
 ·rw [if_pos h]
  go_enter Tryz.func200,Tryz.ntmps200
  go_wp2
  exact bodyPost_ret (v := .agg #[.int .i64 x.t,.int .i64 x.v]) (by simp [results,go_sem]) rfl ⟨rfl,below_alloc3 _ _ _ _⟩
 ·have d1 : decide (x.t < y.t) = false := decide_eq_false h
  rw [if_neg h]
  go_enter Tryz.func200,Tryz.ntmps200
  go_wp2
  exact bodyPost_ret (v := .agg #[.int .i64 y.t,.int .i64 y.v]) (by simp [results,go_sem]) rfl ⟨rfl,below_alloc3 _ _ _ _⟩
theorem head_pt {w : World} {B : Nat} {v : Value} {x : Pnt} {l : List Pnt} (h : Lies w B 2 v (ptR (x :: l))) : ∃ g off cap,v = .slice (some ⟨g,off,none⟩) (l.length + 1) cap ∧ g < B ∧ w.cell? ⟨g,off,none⟩ = some (.int .i64 x.t) ∧ w.cell? ⟨g,off + 1,none⟩ = some (.int .i64 x.v) := by
 obtain ⟨A,cap,rfl,hl⟩ := pt_look h
 obtain ⟨g,off,rfl,hg,h1,h2⟩ := hl 0 (by simp)
 simp only [Nat.zero_mul,Nat.add_zero] at h1 h2
 exact ⟨g,off,cap,rfl,hg,h1,h2⟩
set_option maxRecDepth 20000 in
set_option maxHeartbeats 8000000 in
theorem implWovenR (a b : List Pnt) (va vb : Value) (w : World) (B : Nat) (ha : Lies w B 2 va (ptR a)) (hb : Lies w B 2 vb (ptR b)) (hpa : Rising a ∧ a.length ≤ 10000) (hpb : Rising b ∧ b.length ≤ 10000) (hB : B ≤ w.heap.size) : Calls Tryz.prog 177 #[va,vb] w fun e w' => (∃ u,e = .returned u ∧ Owns w' w.heap.size 98 2 u (ptR (mrg a b))) ∧ Below w.heap.size w w' := by
 have HA := hQz ha
 have HBB := hQz hb
 have HB : Hid (B ≤ w.heap.size) := hB
 have HRA : Hid (Rising a) := hpa.1
 have HRB : Hid (Rising b) := hpb.1
 have qa := hpa.2
 have qb := hpb.2
 obtain ⟨Aa,capa,rfl,_⟩ := pt_look ha
 obtain ⟨Ab,capb,rfl,_⟩ := pt_look hb
 clear ha hb hB hpa hpb
 obtain ⟨i0,hi,hz0,hz1,hz2⟩ := info_parts Tryz.infoPt
 generalize hna : a.length = na at *
 generalize hnb : b.length = nb at *
 have hmk : ∀ wx : World,(Instr.makeSlice 99 (.int .i64 ((na : Int) + (nb : Int))) (.int .i64 ((na : Int) + (nb : Int)))).run Tryz.prog wx = .ok (.slice (some ⟨wx.heap.size,0,none⟩) (na + nb) (na + nb)) (wx.alloc (.cells (List.replicate (na + nb) ptZ).flatten.toArray 98)) := fun wx => by
  have h := run_make (P := Tryz.prog) wx 99 98 i0 _ Tryz.underlying99 hi hz0 .i64 .i64 ((na : Int) + (nb : Int)) ((na : Int) + (nb : Int)) (by omega) (by omega) (by rw [hz2]; omega) (by omega)
  rw [hz1] at h
  have e : (Value.agg #[.int .i64 0,.int .i64 0]).cells = #[.int .i64 0,.int .i64 0] := rfl
  rw [e,show ((na : Int) + (nb : Int)).toNat = na + nb by omega,pt_made] at h
  exact h
 have q1 : (na : Int) ≤ 10000 := by omega
 have q2 : (nb : Int) ≤ 10000 := by omega
 clear hi hz0 hz1 hz2
 have HNA : Hid (a.length = na) := hna
 have HNB : Hid (b.length = nb) := hnb
 clear hna hnb
 go_enter Tryz.func177,Tryz.ntmps177
 go_wp2_with fail
 generalize hN : na + nb = N at *
 have HN : Hid (na + nb = N) := hN
 have q3 : N ≤ 20000 := by omega
 clear hN hmk
 go_loopw [0,1,6] (fun v0 v1 v6 wr => ∃ (a' b' done : List Pnt),Lies wr B 2 v0 (ptR a') ∧ Lies wr B 2 v1 (ptR b') ∧ Hid (Rising a' ∧ Rising b' ∧ done ++ mrg a' b' = mrg a b) ∧ done.length + a'.length + b'.length ≤ N ∧ v6 = .int .i64 (done.length : Int) ∧ Owns wr w.heap.size 98 2 (.slice (some ⟨w.heap.size,0,none⟩) N N) (ptR done ++ List.replicate (N - done.length) ptZ) ∧ Below w.heap.size w wr) (fun x y _ _ => sliceLen x + sliceLen y)
 case atStart =>
  have hb0 : Below w.heap.size w (w.alloc (.cells (List.replicate N ptZ).flatten.toArray 98)) := (Below.refl _ _).alloc (Nat.le_refl _) _
  refine ⟨a,b,[],HA.out.on (hb0.mono HB.out),HBB.out.on (hb0.mono HB.out),⟨HRA.out,HRB.out,rfl⟩,?_,rfl,?_,hb0⟩
  ·have := HNA.out; have := HNB.out; have := HN.out; simp; omega
  ·rw [show ptR [] = [] from rfl,List.nil_append,List.length_nil,Nat.sub_zero]
   refine ⟨fun r hr => by rw [List.eq_of_mem_replicate hr]; rfl,?_⟩
   have hz : ∀ r ∈ List.replicate N ptZ,r.length = 2 := fun r hr => by rw [List.eq_of_mem_replicate hr]; rfl
   have hl := flat_length 2 (List.replicate N ptZ) hz
   rw [List.length_replicate] at hl ⊢
   exact World.ownsRow_lit w (List.replicate N ptZ).flatten.toArray N (Nat.le_refl _) (by unfold maxLen; omega) (by simpa using hl)
 case round =>
  obtain ⟨a',b',done,hLa,hLb,HM,hlen,rfl,hO,hb⟩ := hrel
  have HLA := hQz hLa
  have HLB := hQz hLb
  have HO := hQz hO
  have HB1 := hQz hb
  have HLL : Hid (w.heap.size < wr.heap.size) := (hO.lt _ rfl).2
  clear hLa hLb hO hb
  by_cases hab : a' = [] ∨ b' = []
  ·have HF : Hid (done ++ a' ++ b' = mrg a b) := by
    unfold Hid
    rw [← HM.out.2.2]
    rcases hab with h | h
    ·subst h
     rw [mrg_nil_left b' HM.out.2.1,List.append_nil]
    ·subst h
     rw [List.append_nil]
     rfl
   obtain ⟨A1,c1,rfl,_⟩ := pt_look HLA.out
   obtain ⟨A2,c2,rfl,_⟩ := pt_look HLB.out
   have hl0 : a'.length = 0 ∨ b'.length = 0 := by rcases hab with h | h <;> simp [h]
   generalize hla : a'.length = la at *
   generalize hlb : b'.length = lb at *
   generalize hd : done.length = d at *
   have HLa : Hid (a'.length = la) := hla
   have HLb : Hid (b'.length = lb) := hlb
   have HD : Hid (done.length = d) := hd
   have hrl : (ptR done ++ List.replicate (N - d) ptZ).length = N := by rw [List.length_append,ptR_length,List.length_replicate,hd]; omega
   have HRL : Hid ((ptR done ++ List.replicate (N - d) ptZ).length = N) := hrl
   obtain ⟨D1,k1,hr1,_,hD1⟩ := cut_from HO.out.lies d (by rw [hrl]; omega)
   have HD1 : Hid (d < N → D1 = some ⟨w.heap.size,d * 2,none⟩) := fun h => by
    rw [hD1 (by omega),Option.map_some]
    have e : (⟨w.heap.size,0,none⟩ : Addr).add (d * 2) = ⟨w.heap.size,0 + d * 2,none⟩ := by
     generalize d * 2 = j
     cases j <;> simp [Addr.add]
    rw [e,Nat.zero_add]
   have O1 : Hid (Owns wr w.heap.size 98 2 (.slice (some ⟨w.heap.size,0,none⟩) (ptR done ++ List.replicate (N - d) ptZ).length N) (ptR done ++ List.replicate (N - d) ptZ)) := by unfold Hid; rw [hrl]; exact HO.out
   have F1 : Hid (d + (ptR a').length ≤ (ptR done ++ List.replicate (N - d) ptZ).length) := by unfold Hid; rw [hrl,ptR_length,hla]; omega
   have q5 : (d : Int) ≤ 20000 := by omega
   have q6 : (la : Int) ≤ 20000 := by omega
   have q7 : (lb : Int) ≤ 20000 := by omega
   have q8 : (N : Int) ≤ 20000 := by omega
   have q9 : (d : Int) + (la : Int) + (lb : Int) ≤ (N : Int) := by omega
   have HQ : Hid (d + la + lb ≤ N) := hlen
   have hcut := cut_to (some ⟨w.heap.size,0,none⟩) N N (d + la + lb) hlen
   rw [show ((d + la + lb : Nat) : Int) = (d : Int) + (la : Int) + (lb : Int) by omega] at hcut
   have dl : (decide (0 < la) && decide (0 < lb)) = false := by rcases hl0 with h | h <;> simp [h]
   clear hla hlb hd hrl hD1 hlen hab
   have body : ∀ (hx : True),True := fun _ => trivial
   clear body
   by_cases hla0 : la = 0
   ·have d1 : decide ((0 : Int) < (la : Int)) = false := decide_eq_false (by omega)
    have d2 : decide (0 < la) = false := decide_eq_false (by omega)
    clear hla0 dl hl0
    obtain ⟨w5,hcp,hO5,hb5,hk5⟩ := run_copy_own wr 99 99 3 98 2 Tryz.underlying99 size_pt w.heap.size w.heap.size N (ptR done ++ List.replicate (N - d) ptZ) O1.out d D1 (N - d) k1 (by rw [HRL.out]) (fun h => HD1.out (by rw [HRL.out] at h; exact h)) (ptR a') (.slice A1 la c1) B HLA.out (pt_one a') F1.out
    rw [ptR_length,HLa.out] at hcp
    have B5 := hQz (HB1.out.trans hb5)
    have LB5 := hQz (HLB.out.on (hb5.mono HB.out))
    have e5 : (ptR done ++ List.replicate (N - d) ptZ).take d ++ ptR a' ++ (ptR done ++ List.replicate (N - d) ptZ).drop (d + (ptR a').length) = ptR (done ++ a') ++ List.replicate (N - (d + la)) ptZ := by
     have h1 : (ptR done).length = d := by rw [ptR_length]; exact HD.out
     rw [List.take_left' h1,ptR_length,HLa.out,List.drop_append,h1,List.drop_eq_nil_of_le (by omega),List.nil_append,List.drop_replicate,ptR_append,show N - d - (d + la - d) = N - (d + la) by omega]
    rw [e5,HRL.out] at hO5
    have hrl5 : (ptR (done ++ a') ++ List.replicate (N - (d + la)) ptZ).length = N := by rw [List.length_append,ptR_length,List.length_replicate,List.length_append,HD.out,HLa.out]; have := HQ.out; omega
    have HRL5 : Hid ((ptR (done ++ a') ++ List.replicate (N - (d + la)) ptZ).length = N) := hrl5
    obtain ⟨D2,k2,hr2,_,hD2⟩ := cut_from hO5.lies (d + la) (by rw [hrl5]; have := HQ.out; omega)
    have HD2 : Hid (d + la < N → D2 = some ⟨w.heap.size,(d + la) * 2,none⟩) := fun h => by
     rw [hD2 (by omega),Option.map_some]
     have e : (⟨w.heap.size,0,none⟩ : Addr).add ((d + la) * 2) = ⟨w.heap.size,0 + (d + la) * 2,none⟩ := by
      generalize (d + la) * 2 = j
      cases j <;> simp [Addr.add]
     rw [e,Nat.zero_add]
    rw [show ((d + la : Nat) : Int) = (d : Int) + (la : Int) by omega] at hr2
    have O5 : Hid (Owns w5 w.heap.size 98 2 (.slice (some ⟨w.heap.size,0,none⟩) (ptR (done ++ a') ++ List.replicate (N - (d + la)) ptZ).length N) (ptR (done ++ a') ++ List.replicate (N - (d + la)) ptZ)) := by unfold Hid; rw [hrl5]; exact hO5
    have F2 : Hid (d + la + (ptR b').length ≤ (ptR (done ++ a') ++ List.replicate (N - (d + la)) ptZ).length) := by unfold Hid; rw [hrl5,ptR_length,HLb.out]; exact HQ.out
    clear e5 hrl5 hD2 hO5 hb5 hk5
    obtain ⟨w6,hcp2,hO6,hb6,hk6⟩ := run_copy_own w5 99 99 3 98 2 Tryz.underlying99 size_pt w.heap.size w.heap.size N (ptR (done ++ a') ++ List.replicate (N - (d + la)) ptZ) O5.out (d + la) D2 (N - (d + la)) k2 (by rw [HRL5.out]) (fun h => HD2.out (by rw [HRL5.out] at h; exact h)) (ptR b') (.slice A2 lb c2) B LB5.out (pt_one b') F2.out
    rw [ptR_length,HLb.out] at hcp2
    have B6 := hQz (B5.out.trans hb6)
    have e6 : (ptR (done ++ a') ++ List.replicate (N - (d + la)) ptZ).take (d + la) ++ ptR b' ++ (ptR (done ++ a') ++ List.replicate (N - (d + la)) ptZ).drop (d + la + (ptR b').length) = ptR (done ++ a' ++ b') ++ List.replicate (N - (d + la + lb)) ptZ := by
     have h1 : (ptR (done ++ a')).length = d + la := by rw [ptR_length,List.length_append,HD.out,HLa.out]
     rw [List.take_left' h1,ptR_length,HLb.out,List.drop_append,h1,List.drop_eq_nil_of_le (by omega),List.nil_append,List.drop_replicate,ptR_append (done ++ a') b',show N - (d + la) - (d + la + lb - (d + la)) = N - (d + la + lb) by omega]
    rw [e6,HRL5.out,HF.out] at hO6
    have hln : (mrg a b).length = d + la + lb := by rw [← HF.out,List.length_append,List.length_append,HD.out,HLa.out,HLb.out]
    have hO7 := hO6.first (d + la + lb) (by rw [List.length_append,ptR_length,hln]; omega)
    rw [List.take_left' (by rw [ptR_length]; exact hln)] at hO7
    have O7 := hQz hO7
    clear e6 hO6 hb6 hk6 hln hO7
    go_wp2_with fail
    go_ret
    exact ⟨⟨_,rfl,O7.out⟩,B6.out⟩
   ·have d1 : decide ((0 : Int) < (la : Int)) = true := decide_eq_true (by omega)
    have d2 : decide (0 < la) = true := decide_eq_true (by omega)
    have d3 : decide ((0 : Int) < (lb : Int)) = false := decide_eq_false (by omega)
    have d4 : decide (0 < lb) = false := decide_eq_false (by omega)
    clear hla0 dl hl0
    obtain ⟨w5,hcp,hO5,hb5,hk5⟩ := run_copy_own wr 99 99 3 98 2 Tryz.underlying99 size_pt w.heap.size w.heap.size N (ptR done ++ List.replicate (N - d) ptZ) O1.out d D1 (N - d) k1 (by rw [HRL.out]) (fun h => HD1.out (by rw [HRL.out] at h; exact h)) (ptR a') (.slice A1 la c1) B HLA.out (pt_one a') F1.out
    rw [ptR_length,HLa.out] at hcp
    have B5 := hQz (HB1.out.trans hb5)
    have LB5 := hQz (HLB.out.on (hb5.mono HB.out))
    have e5 : (ptR done ++ List.replicate (N - d) ptZ).take d ++ ptR a' ++ (ptR done ++ List.replicate (N - d) ptZ).drop (d + (ptR a').length) = ptR (done ++ a') ++ List.replicate (N - (d + la)) ptZ := by
     have h1 : (ptR done).length = d := by rw [ptR_length]; exact HD.out
     rw [List.take_left' h1,ptR_length,HLa.out,List.drop_append,h1,List.drop_eq_nil_of_le (by omega),List.nil_append,List.drop_replicate,ptR_append,show N - d - (d + la - d) = N - (d + la) by omega]
    rw [e5,HRL.out] at hO5
    have hrl5 : (ptR (done ++ a') ++ List.replicate (N - (d + la)) ptZ).length = N := by rw [List.length_append,ptR_length,List.length_replicate,List.length_append,HD.out,HLa.out]; have := HQ.out; omega
    have HRL5 : Hid ((ptR (done ++ a') ++ List.replicate (N - (d + la)) ptZ).length = N) := hrl5
    obtain ⟨D2,k2,hr2,_,hD2⟩ := cut_from hO5.lies (d + la) (by rw [hrl5]; have := HQ.out; omega)
    have HD2 : Hid (d + la < N → D2 = some ⟨w.heap.size,(d + la) * 2,none⟩) := fun h => by
     rw [hD2 (by omega),Option.map_some]
     have e : (⟨w.heap.size,0,none⟩ : Addr).add ((d + la) * 2) = ⟨w.heap.size,0 + (d + la) * 2,none⟩ := by
      generalize (d + la) * 2 = j
      cases j <;> simp [Addr.add]
     rw [e,Nat.zero_add]
    rw [show ((d + la : Nat) : Int) = (d : Int) + (la : Int) by omega] at hr2
    have O5 : Hid (Owns w5 w.heap.size 98 2 (.slice (some ⟨w.heap.size,0,none⟩) (ptR (done ++ a') ++ List.replicate (N - (d + la)) ptZ).length N) (ptR (done ++ a') ++ List.replicate (N - (d + la)) ptZ)) := by unfold Hid; rw [hrl5]; exact hO5
    have F2 : Hid (d + la + (ptR b').length ≤ (ptR (done ++ a') ++ List.replicate (N - (d + la)) ptZ).length) := by unfold Hid; rw [hrl5,ptR_length,HLb.out]; exact HQ.out
    clear e5 hrl5 hD2 hO5 hb5 hk5
    obtain ⟨w6,hcp2,hO6,hb6,hk6⟩ := run_copy_own w5 99 99 3 98 2 Tryz.underlying99 size_pt w.heap.size w.heap.size N (ptR (done ++ a') ++ List.replicate (N - (d + la)) ptZ) O5.out (d + la) D2 (N - (d + la)) k2 (by rw [HRL5.out]) (fun h => HD2.out (by rw [HRL5.out] at h; exact h)) (ptR b') (.slice A2 lb c2) B LB5.out (pt_one b') F2.out
    rw [ptR_length,HLb.out] at hcp2
    have B6 := hQz (B5.out.trans hb6)
    have e6 : (ptR (done ++ a') ++ List.replicate (N - (d + la)) ptZ).take (d + la) ++ ptR b' ++ (ptR (done ++ a') ++ List.replicate (N - (d + la)) ptZ).drop (d + la + (ptR b').length) = ptR (done ++ a' ++ b') ++ List.replicate (N - (d + la + lb)) ptZ := by
     have h1 : (ptR (done ++ a')).length = d + la := by rw [ptR_length,List.length_append,HD.out,HLa.out]
     rw [List.take_left' h1,ptR_length,HLb.out,List.drop_append,h1,List.drop_eq_nil_of_le (by omega),List.nil_append,List.drop_replicate,ptR_append (done ++ a') b',show N - (d + la) - (d + la + lb - (d + la)) = N - (d + la + lb) by omega]
    rw [e6,HRL5.out,HF.out] at hO6
    have hln : (mrg a b).length = d + la + lb := by rw [← HF.out,List.length_append,List.length_append,HD.out,HLa.out,HLb.out]
    have hO7 := hO6.first (d + la + lb) (by rw [List.length_append,ptR_length,hln]; omega)
    rw [List.take_left' (by rw [ptR_length]; exact hln)] at hO7
    have O7 := hQz hO7
    clear e6 hO6 hb6 hk6 hln hO7
    go_wp2_with fail
    go_ret
    exact ⟨⟨_,rfl,O7.out⟩,B6.out⟩
  ·obtain ⟨x,a2,rfl⟩ : ∃ x a2,a' = x :: a2 := by
    cases a' with
    | nil => exact absurd (Or.inl rfl) hab
    | cons x a2 => exact ⟨x,a2,rfl⟩
   obtain ⟨y,b2,rfl⟩ : ∃ y b2,b' = y :: b2 := by
    cases b' with
    | nil => exact absurd (Or.inr rfl) hab
    | cons y b2 => exact ⟨y,b2,rfl⟩
   clear hab
   obtain ⟨g,off,ca,rfl,hg,e1,e2⟩ := head_pt HLA.out
   obtain ⟨g',off',cb,rfl,hg',e3,e4⟩ := head_pt HLB.out
   obtain ⟨Aa2,ca2,hra0,hLa2,_⟩ := cut_from HLA.out 1 (by rw [ptR_length]; simp)
   obtain ⟨Ab2,cb2,hrb0,hLb2,_⟩ := cut_from HLB.out 1 (by rw [ptR_length]; simp)
   have hra : ∀ wx,(Instr.sliceAt 99 (.slice (some ⟨g,off,none⟩) (a2.length + 1) ca) (some (.int .i64 1)) none none).run Tryz.prog wx = .ok (.slice Aa2 a2.length ca2) wx := hra0
   have hrb : ∀ wx,(Instr.sliceAt 99 (.slice (some ⟨g',off',none⟩) (b2.length + 1) cb) (some (.int .i64 1)) none none).run Tryz.prog wx = .ok (.slice Ab2 b2.length cb2) wx := hrb0
   have HLA2 := hQz hLa2
   have HLB2 := hQz hLb2
   clear hra0 hrb0 hLa2 hLb2
   have HG : Hid (g < w.heap.size ∧ g' < w.heap.size) := ⟨Nat.lt_of_lt_of_le hg HB.out,Nat.lt_of_lt_of_le hg' HB.out⟩
   have cE := fun wx => implEarlier x y wx
   have hlen2 : done.length + a2.length + b2.length + 2 ≤ N := by simp at hlen; omega
   have HLN : Hid (done.length + a2.length + b2.length + 2 ≤ N) := hlen2
   have S0 : Hid (wr.drew.cell? ⟨g,off,none⟩ = some (.int .i64 x.t) ∧ wr.drew.cell? ⟨g,off + 1,none⟩ = some (.int .i64 x.v) ∧ wr.drew.cell? ⟨g',off',none⟩ = some (.int .i64 y.t) ∧ wr.drew.cell? ⟨g',off' + 1,none⟩ = some (.int .i64 y.v)) := ⟨e1,e2,e3,e4⟩
   have HC : Hid (wr.cell? ⟨g,off,none⟩ = some (.int .i64 x.t) ∧ wr.cell? ⟨g,off + 1,none⟩ = some (.int .i64 x.v) ∧ wr.cell? ⟨g',off',none⟩ = some (.int .i64 y.t) ∧ wr.cell? ⟨g',off' + 1,none⟩ = some (.int .i64 y.v)) := ⟨e1,e2,e3,e4⟩
   have q5 : (a2.length : Int) ≤ 20000 := by omega
   have q6 : (b2.length : Int) ≤ 20000 := by omega
   generalize hd : done.length = d at *
   have HD : Hid (done.length = d) := hd
   have q7 : (d : Int) < (N : Int) := by omega
   have q8 : (N : Int) ≤ 20000 := by omega
   have q9 : d < N := by omega
   clear e1 e2 e3 e4 hg hg' hlen hlen2 hd
   generalize hla : a2.length = la at *
   generalize hlb : b2.length = lb at *
   have HLa : Hid (a2.length = la) := hla
   have HLb : Hid (b2.length = lb) := hlb
   clear hla hlb
   unfold vPt at cE
   by_cases h1 : x.t < y.t
   ·rw [if_pos h1] at cE
    have dE : decide (x.t = y.t) = false := decide_eq_false (by omega)
    have HM2 : Hid (Rising a2 ∧ Rising (y :: b2) ∧ done ++ [x] ++ mrg a2 (y :: b2) = mrg a b) := by
     refine ⟨(List.pairwise_cons.1 HM.out.1).2,HM.out.2.1,?_⟩
     rw [← HM.out.2.2,mrg_less HM.out.1 HM.out.2.1 h1,List.append_assoc]
     rfl
    have HL2 : Hid ((done ++ [x]).length + a2.length + (y :: b2).length ≤ N) := by
     unfold Hid
     have h1 := HLN.out
     simp only [List.length_append,List.length_cons,List.length_nil,HD.out,HLa.out,HLb.out]
     omega
    go_wp2_with fail
    refine wp_region_until (fun w' => w'.cell? ⟨g,off,none⟩ = some (.int .i64 x.t) ∧ w'.cell? ⟨g,off + 1,none⟩ = some (.int .i64 x.v) ∧ w'.cell? ⟨g',off',none⟩ = some (.int .i64 y.t) ∧ w'.cell? ⟨g',off' + 1,none⟩ = some (.int .i64 y.v)) (fun i => i == 6 || i == 8) 9 (by rfl) (by kernel_rfl) ?_
    refine tKf 0 S0.out ?_
    refine tKf 1 S0.out ?_
    refine tKf 2 S0.out ?_
    refine tKf 3 S0.out ?_
    refine tKf 4 S0.out ?_
    refine tKf 5 S0.out ?_
    refine until_two 6 7 (by rfl) (by rfl) (by kernel_rfl) (fun K hK => ?_) (fun K hK => ?_)
    ·go_simp
     refine (cE _).mono ?_
     rintro e w1 ⟨rfl,hb1⟩
     go_wp2_with fail
     refine hK.out _ _ (fun h => by cases h) ?_
     clear hK K
     try simp only [Act.put,zQ1,zQ2,zQ3]
     refine uNe 7 (fun K hK => ?_)
     go_simp
     go_wp2_with fail
     refine hK.out _ _ (fun _ h => ⟨cell_alloc_keep h.1 _,cell_alloc_keep h.2.1 _,cell_alloc_keep h.2.2.1 _,cell_alloc_keep h.2.2.2 _⟩) ?_
     clear hK K
     try simp only [Act.put,zQ1,zQ2,zQ3]
     refine uNe 8 (fun K hK => ?_)
     go_simp
     go_wp2_with fail
     refine hK.out _ _ (fun h => by cases h) ?_
     clear hK K
     try simp only [Act.put,zQ1,zQ2,zQ3]
     refine until_done (by kernel_rfl) ?_ _
     have BR7 : Hid (Below wr.heap.size wr (w1.alloc (.cells #[.int .i64 x.t,.int .i64 x.v] 98))) := ((Below.refl _ wr).drew.trans hb1).alloc hb1.size _
     have K7 : Hid (Blk (w1.alloc (.cells #[.int .i64 x.t,.int .i64 x.v] 98)) w1.heap.size #[.int .i64 x.t,.int .i64 x.v] 98) := Blk.new _ _ _
     have O7 := hQz (HO.out.on BR7.out)
     have B7 := hQz (HB1.out.trans (BR7.out.mono HB1.out.size))
     have hhb : w.heap.size < w1.heap.size := Nat.lt_of_lt_of_le HLL.out hb1.size
     generalize hbe : w1.heap.size = hb at *
     generalize w1.alloc (.cells #[.int .i64 x.t,.int .i64 x.v] 98) = W7 at *
     clear hb1 hbe
     have hrl : (ptR done ++ List.replicate (N - d) ptZ).length = N := by rw [List.length_append,ptR_length,List.length_replicate,HD.out]; omega
     have hO7 : Owns W7 w.heap.size 98 2 (.slice (some ⟨w.heap.size,0,none⟩) (ptR done ++ List.replicate (N - d) ptZ).length N) (ptR done ++ List.replicate (N - d) ptZ) := by rw [hrl]; exact O7.out
     obtain ⟨y0,d0⟩ := hO7.cellX d 0 (by rw [hrl]; exact q9) (by omega)
     have f0 := hO7.free (d * 2)
     obtain ⟨y1,d1⟩ := hO7.cellX d 1 (by rw [hrl]; exact q9) (by omega)
     have f1 := hO7.free (d * 2 + 1)
     rw [Nat.add_zero] at d0
     have hP := hO7.put2 d (by rw [hrl]; exact q9) (.int .i64 x.t) (.int .i64 x.v)
     rw [hrl,fill_step ptZ (ptR done) _ N d (by rw [ptR_length]; exact HD.out) q9,← ptR_snoc' done x] at hP
     have O8 := hQz hP
     have B8 : Hid (Below w.heap.size w ((W7.setCell ⟨w.heap.size,d * 2,none⟩ (.int .i64 x.t)).setCell ⟨w.heap.size,d * 2 + 1,none⟩ (.int .i64 x.v))) := (B7.out.setCell (Nat.le_refl _) _).setCell (Nat.le_refl _) _
     have K8 : Hid (Blk ((W7.setCell ⟨w.heap.size,d * 2,none⟩ (.int .i64 x.t)).setCell ⟨w.heap.size,d * 2 + 1,none⟩ (.int .i64 x.v)) hb #[.int .i64 x.t,.int .i64 x.v] 98) := (K7.out.other (by omega) _ _).other (by omega) _ _
     have BW : Hid (Below w.heap.size wr ((W7.setCell ⟨w.heap.size,d * 2,none⟩ (.int .i64 x.t)).setCell ⟨w.heap.size,d * 2 + 1,none⟩ (.int .i64 x.v))) := ((BR7.out.mono (Nat.le_of_lt HLL.out)).setCell (Nat.le_refl _) _).setCell (Nat.le_refl _) _
     have k0 := K7.out.cell 0 (.int .i64 x.t) rfl
     have k1 := K7.out.cell 1 (.int .i64 x.v) rfl
     clear hO7 hP hrl
     go_wp2_with fail
     generalize ((W7.setCell ⟨w.heap.size,d * 2,none⟩ (.int .i64 x.t)).setCell ⟨w.heap.size,d * 2 + 1,none⟩ (.int .i64 x.v)) = W8 at *
     clear d0 f0 d1 f1 k0 k1 O7 B7 K7 BR7
     have S1 : Hid (W8.drew.cell? ⟨hb,0,none⟩ = some (.int .i64 x.t) ∧ W8.drew.cell? ⟨hb,1,none⟩ = some (.int .i64 x.v) ∧ W8.drew.cell? ⟨g',off',none⟩ = some (.int .i64 y.t) ∧ W8.drew.cell? ⟨g',off' + 1,none⟩ = some (.int .i64 y.v) ∧ W8.drew.cell? ⟨g,off,none⟩ = some (.int .i64 x.t)) := ⟨K8.out.cell 0 _ rfl,K8.out.cell 1 _ rfl,(BW.out.cell (p := ⟨_,_,none⟩) HG.out.2).trans HC.out.2.2.1,(BW.out.cell (p := ⟨_,_,none⟩) HG.out.2).trans HC.out.2.2.2,(BW.out.cell (p := ⟨_,_,none⟩) HG.out.1).trans HC.out.1⟩
     have S2 : Hid (W8.drew.drew.cell? ⟨hb,0,none⟩ = some (.int .i64 x.t) ∧ W8.drew.drew.cell? ⟨hb,1,none⟩ = some (.int .i64 x.v) ∧ W8.drew.drew.cell? ⟨g',off',none⟩ = some (.int .i64 y.t) ∧ W8.drew.drew.cell? ⟨g',off' + 1,none⟩ = some (.int .i64 y.v) ∧ W8.drew.drew.cell? ⟨g,off,none⟩ = some (.int .i64 x.t)) := S1.out
     refine wp_region_until (fun w' => w'.cell? ⟨hb,0,none⟩ = some (.int .i64 x.t) ∧ w'.cell? ⟨hb,1,none⟩ = some (.int .i64 x.v) ∧ w'.cell? ⟨g',off',none⟩ = some (.int .i64 y.t) ∧ w'.cell? ⟨g',off' + 1,none⟩ = some (.int .i64 y.v) ∧ w'.cell? ⟨g,off,none⟩ = some (.int .i64 x.t)) (fun _ => false) 5 (by rfl) (by kernel_rfl) ?_
     refine tKf 0 S1.out ?_
     refine tKf 1 S1.out ?_
     refine tKf 2 S1.out ?_
     refine tKf 3 S1.out ?_
     refine tKe 4 (v := .bool false) S1.out ?_ ?_
     ·intro w hSw
      go_simp
      try exact fun h => absurd h (by omega)
     try simp only [Act.put,zQ1,zQ2,zQ3]
     refine until_done (by kernel_rfl) ?_ _
     go_wp2_with fail
     refine wp_region_until (fun w' => w'.cell? ⟨hb,0,none⟩ = some (.int .i64 x.t) ∧ w'.cell? ⟨hb,1,none⟩ = some (.int .i64 x.v) ∧ w'.cell? ⟨g',off',none⟩ = some (.int .i64 y.t) ∧ w'.cell? ⟨g',off' + 1,none⟩ = some (.int .i64 y.v) ∧ w'.cell? ⟨g,off,none⟩ = some (.int .i64 x.t)) (fun _ => false) 7 (by rfl) (by kernel_rfl) ?_
     refine tKf 0 S2.out ?_
     refine tKf 1 S2.out ?_
     refine tKf 2 S2.out ?_
     refine tKf 3 S2.out ?_
     refine tKf 4 S2.out ?_
     refine tKf 5 S2.out ?_
     refine tKf 6 S2.out ?_
     refine until_done (by kernel_rfl) ?_ _
     go_wp2_with fail
     go_roundw
     case rel => exact ⟨a2,(y :: b2),done ++ [x],HLA2.out.on ((BW.out.mono HB.out).drew.drew),HLB.out.on ((BW.out.mono HB.out).drew.drew),HM2.out,HL2.out,by rw [List.length_append,HD.out]; go_num,by rw [List.length_append,HD.out]; exact O8.out.on ((Below.refl _ W8).drew.drew),B8.out.drew.drew⟩
     case measure => simp [sliceLen]
    ·go_simp
     go_wp2_with fail
     refine hK.out _ _ (fun _ h => ⟨cell_alloc_keep h.1 _,cell_alloc_keep h.2.1 _,cell_alloc_keep h.2.2.1 _,cell_alloc_keep h.2.2.2 _⟩) ?_
     clear hK K
     try simp only [Act.put,zQ1,zQ2,zQ3]
     refine uNe 6 (fun K hK => ?_)
     go_simp
     refine (cE _).mono ?_
     rintro e w1 ⟨rfl,hb1⟩
     have K1 : Hid (Blk w1 wr.heap.size #[.int .i64 0,.int .i64 0] 98) := (Blk.new wr.drew #[.int .i64 0,.int .i64 0] 98).on hb1 (by simp [World.size_alloc])
     have c0 := K1.out.cell 0 (.int .i64 0) rfl
     have c1 := K1.out.cell 1 (.int .i64 0) rfl
     have z0 := K1.out.free 0
     have z1 := K1.out.free 1
     have BR1 : Hid (Below wr.heap.size wr w1) := ((Below.refl _ wr).drew.alloc (Nat.le_refl _) _).trans (hb1.mono (by simp [World.size_alloc]))
     clear hb1
     go_wp2_with fail
     refine hK.out _ _ (fun h => by cases h) ?_
     clear hK K
     try simp only [Act.put,zQ1,zQ2,zQ3]
     refine uNe 8 (fun K hK => ?_)
     go_simp
     go_wp2_with fail
     refine hK.out _ _ (fun h => by cases h) ?_
     clear hK K
     try simp only [Act.put,zQ1,zQ2,zQ3]
     refine until_done (by kernel_rfl) ?_ _
     have BR7 : Hid (Below wr.heap.size wr ((w1.setCell ⟨wr.heap.size,0,none⟩ (.int .i64 x.t)).setCell ⟨wr.heap.size,1,none⟩ (.int .i64 x.v))) := (BR1.out.setCell (Nat.le_refl _) _).setCell (Nat.le_refl _) _
     have K7 : Hid (Blk ((w1.setCell ⟨wr.heap.size,0,none⟩ (.int .i64 x.t)).setCell ⟨wr.heap.size,1,none⟩ (.int .i64 x.v)) wr.heap.size #[.int .i64 x.t,.int .i64 x.v] 98) := (K1.out.set 0 (.int .i64 x.t)).set 1 (.int .i64 x.v)
     have O7 := hQz (HO.out.on BR7.out)
     have B7 := hQz (HB1.out.trans (BR7.out.mono HB1.out.size))
     have hhb : w.heap.size < wr.heap.size := HLL.out
     clear c0 c1 z0 z1 K1 BR1
     generalize ((w1.setCell ⟨wr.heap.size,0,none⟩ (.int .i64 x.t)).setCell ⟨wr.heap.size,1,none⟩ (.int .i64 x.v)) = W7 at *
     obtain ⟨hb,hbe⟩ : ∃ hb,hb = wr.heap.size := ⟨_,rfl⟩
     rw [← hbe] at hhb K7 ⊢
     clear hbe
     have hrl : (ptR done ++ List.replicate (N - d) ptZ).length = N := by rw [List.length_append,ptR_length,List.length_replicate,HD.out]; omega
     have hO7 : Owns W7 w.heap.size 98 2 (.slice (some ⟨w.heap.size,0,none⟩) (ptR done ++ List.replicate (N - d) ptZ).length N) (ptR done ++ List.replicate (N - d) ptZ) := by rw [hrl]; exact O7.out
     obtain ⟨y0,d0⟩ := hO7.cellX d 0 (by rw [hrl]; exact q9) (by omega)
     have f0 := hO7.free (d * 2)
     obtain ⟨y1,d1⟩ := hO7.cellX d 1 (by rw [hrl]; exact q9) (by omega)
     have f1 := hO7.free (d * 2 + 1)
     rw [Nat.add_zero] at d0
     have hP := hO7.put2 d (by rw [hrl]; exact q9) (.int .i64 x.t) (.int .i64 x.v)
     rw [hrl,fill_step ptZ (ptR done) _ N d (by rw [ptR_length]; exact HD.out) q9,← ptR_snoc' done x] at hP
     have O8 := hQz hP
     have B8 : Hid (Below w.heap.size w ((W7.setCell ⟨w.heap.size,d * 2,none⟩ (.int .i64 x.t)).setCell ⟨w.heap.size,d * 2 + 1,none⟩ (.int .i64 x.v))) := (B7.out.setCell (Nat.le_refl _) _).setCell (Nat.le_refl _) _
     have K8 : Hid (Blk ((W7.setCell ⟨w.heap.size,d * 2,none⟩ (.int .i64 x.t)).setCell ⟨w.heap.size,d * 2 + 1,none⟩ (.int .i64 x.v)) hb #[.int .i64 x.t,.int .i64 x.v] 98) := (K7.out.other (by omega) _ _).other (by omega) _ _
     have BW : Hid (Below w.heap.size wr ((W7.setCell ⟨w.heap.size,d * 2,none⟩ (.int .i64 x.t)).setCell ⟨w.heap.size,d * 2 + 1,none⟩ (.int .i64 x.v))) := ((BR7.out.mono (Nat.le_of_lt HLL.out)).setCell (Nat.le_refl _) _).setCell (Nat.le_refl _) _
     have k0 := K7.out.cell 0 (.int .i64 x.t) rfl
     have k1 := K7.out.cell 1 (.int .i64 x.v) rfl
     clear hO7 hP hrl
     go_wp2_with fail
     generalize ((W7.setCell ⟨w.heap.size,d * 2,none⟩ (.int .i64 x.t)).setCell ⟨w.heap.size,d * 2 + 1,none⟩ (.int .i64 x.v)) = W8 at *
     clear d0 f0 d1 f1 k0 k1 O7 B7 K7 BR7
     have S1 : Hid (W8.drew.cell? ⟨hb,0,none⟩ = some (.int .i64 x.t) ∧ W8.drew.cell? ⟨hb,1,none⟩ = some (.int .i64 x.v) ∧ W8.drew.cell? ⟨g',off',none⟩ = some (.int .i64 y.t) ∧ W8.drew.cell? ⟨g',off' + 1,none⟩ = some (.int .i64 y.v) ∧ W8.drew.cell? ⟨g,off,none⟩ = some (.int .i64 x.t)) := ⟨K8.out.cell 0 _ rfl,K8.out.cell 1 _ rfl,(BW.out.cell (p := ⟨_,_,none⟩) HG.out.2).trans HC.out.2.2.1,(BW.out.cell (p := ⟨_,_,none⟩) HG.out.2).trans HC.out.2.2.2,(BW.out.cell (p := ⟨_,_,none⟩) HG.out.1).trans HC.out.1⟩
     have S2 : Hid (W8.drew.drew.cell? ⟨hb,0,none⟩ = some (.int .i64 x.t) ∧ W8.drew.drew.cell? ⟨hb,1,none⟩ = some (.int .i64 x.v) ∧ W8.drew.drew.cell? ⟨g',off',none⟩ = some (.int .i64 y.t) ∧ W8.drew.drew.cell? ⟨g',off' + 1,none⟩ = some (.int .i64 y.v) ∧ W8.drew.drew.cell? ⟨g,off,none⟩ = some (.int .i64 x.t)) := S1.out
     refine wp_region_until (fun w' => w'.cell? ⟨hb,0,none⟩ = some (.int .i64 x.t) ∧ w'.cell? ⟨hb,1,none⟩ = some (.int .i64 x.v) ∧ w'.cell? ⟨g',off',none⟩ = some (.int .i64 y.t) ∧ w'.cell? ⟨g',off' + 1,none⟩ = some (.int .i64 y.v) ∧ w'.cell? ⟨g,off,none⟩ = some (.int .i64 x.t)) (fun _ => false) 5 (by rfl) (by kernel_rfl) ?_
     refine tKf 0 S1.out ?_
     refine tKf 1 S1.out ?_
     refine tKf 2 S1.out ?_
     refine tKf 3 S1.out ?_
     refine tKe 4 (v := .bool false) S1.out ?_ ?_
     ·intro w hSw
      go_simp
      try exact fun h => absurd h (by omega)
     try simp only [Act.put,zQ1,zQ2,zQ3]
     refine until_done (by kernel_rfl) ?_ _
     go_wp2_with fail
     refine wp_region_until (fun w' => w'.cell? ⟨hb,0,none⟩ = some (.int .i64 x.t) ∧ w'.cell? ⟨hb,1,none⟩ = some (.int .i64 x.v) ∧ w'.cell? ⟨g',off',none⟩ = some (.int .i64 y.t) ∧ w'.cell? ⟨g',off' + 1,none⟩ = some (.int .i64 y.v) ∧ w'.cell? ⟨g,off,none⟩ = some (.int .i64 x.t)) (fun _ => false) 7 (by rfl) (by kernel_rfl) ?_
     refine tKf 0 S2.out ?_
     refine tKf 1 S2.out ?_
     refine tKf 2 S2.out ?_
     refine tKf 3 S2.out ?_
     refine tKf 4 S2.out ?_
     refine tKf 5 S2.out ?_
     refine tKf 6 S2.out ?_
     refine until_done (by kernel_rfl) ?_ _
     go_wp2_with fail
     go_roundw
     case rel => exact ⟨a2,(y :: b2),done ++ [x],HLA2.out.on ((BW.out.mono HB.out).drew.drew),HLB.out.on ((BW.out.mono HB.out).drew.drew),HM2.out,HL2.out,by rw [List.length_append,HD.out]; go_num,by rw [List.length_append,HD.out]; exact O8.out.on ((Below.refl _ W8).drew.drew),B8.out.drew.drew⟩
     case measure => simp [sliceLen]
   by_cases h2 : x.t = y.t
   ·rw [if_neg h1] at cE
    have HH2 : Hid (x.t = y.t) := h2
    have dE : decide (y.t = x.t) = true := decide_eq_true h2.symm
    have dE2 : (y.t == x.t) = true := beq_iff_eq.2 h2.symm
    clear h2
    have HM2 : Hid (Rising a2 ∧ Rising b2 ∧ done ++ [y] ++ mrg a2 b2 = mrg a b) := by
     refine ⟨(List.pairwise_cons.1 HM.out.1).2,(List.pairwise_cons.1 HM.out.2.1).2,?_⟩
     rw [← HM.out.2.2,mrg_same HM.out.1 HM.out.2.1 HH2.out,List.append_assoc]
     rfl
    have HL2 : Hid ((done ++ [y]).length + a2.length + b2.length ≤ N) := by
     unfold Hid
     have h1 := HLN.out
     simp only [List.length_append,List.length_cons,List.length_nil,HD.out,HLa.out,HLb.out]
     omega
    go_wp2_with fail
    refine wp_region_until (fun w' => w'.cell? ⟨g,off,none⟩ = some (.int .i64 x.t) ∧ w'.cell? ⟨g,off + 1,none⟩ = some (.int .i64 x.v) ∧ w'.cell? ⟨g',off',none⟩ = some (.int .i64 y.t) ∧ w'.cell? ⟨g',off' + 1,none⟩ = some (.int .i64 y.v)) (fun i => i == 6 || i == 8) 9 (by rfl) (by kernel_rfl) ?_
    refine tKf 0 S0.out ?_
    refine tKf 1 S0.out ?_
    refine tKf 2 S0.out ?_
    refine tKf 3 S0.out ?_
    refine tKf 4 S0.out ?_
    refine tKf 5 S0.out ?_
    refine until_two 6 7 (by rfl) (by rfl) (by kernel_rfl) (fun K hK => ?_) (fun K hK => ?_)
    ·go_simp
     refine (cE _).mono ?_
     rintro e w1 ⟨rfl,hb1⟩
     go_wp2_with fail
     refine hK.out _ _ (fun h => by cases h) ?_
     clear hK K
     try simp only [Act.put,zQ1,zQ2,zQ3]
     refine uNe 7 (fun K hK => ?_)
     go_simp
     go_wp2_with fail
     refine hK.out _ _ (fun _ h => ⟨cell_alloc_keep h.1 _,cell_alloc_keep h.2.1 _,cell_alloc_keep h.2.2.1 _,cell_alloc_keep h.2.2.2 _⟩) ?_
     clear hK K
     try simp only [Act.put,zQ1,zQ2,zQ3]
     refine uNe 8 (fun K hK => ?_)
     go_simp
     go_wp2_with fail
     refine hK.out _ _ (fun h => by cases h) ?_
     clear hK K
     try simp only [Act.put,zQ1,zQ2,zQ3]
     refine until_done (by kernel_rfl) ?_ _
     have BR7 : Hid (Below wr.heap.size wr (w1.alloc (.cells #[.int .i64 y.t,.int .i64 y.v] 98))) := ((Below.refl _ wr).drew.trans hb1).alloc hb1.size _
     have K7 : Hid (Blk (w1.alloc (.cells #[.int .i64 y.t,.int .i64 y.v] 98)) w1.heap.size #[.int .i64 y.t,.int .i64 y.v] 98) := Blk.new _ _ _
     have O7 := hQz (HO.out.on BR7.out)
     have B7 := hQz (HB1.out.trans (BR7.out.mono HB1.out.size))
     have hhb : w.heap.size < w1.heap.size := Nat.lt_of_lt_of_le HLL.out hb1.size
     generalize hbe : w1.heap.size = hb at *
     generalize w1.alloc (.cells #[.int .i64 y.t,.int .i64 y.v] 98) = W7 at *
     clear hb1 hbe
     have hrl : (ptR done ++ List.replicate (N - d) ptZ).length = N := by rw [List.length_append,ptR_length,List.length_replicate,HD.out]; omega
     have hO7 : Owns W7 w.heap.size 98 2 (.slice (some ⟨w.heap.size,0,none⟩) (ptR done ++ List.replicate (N - d) ptZ).length N) (ptR done ++ List.replicate (N - d) ptZ) := by rw [hrl]; exact O7.out
     obtain ⟨y0,d0⟩ := hO7.cellX d 0 (by rw [hrl]; exact q9) (by omega)
     have f0 := hO7.free (d * 2)
     obtain ⟨y1,d1⟩ := hO7.cellX d 1 (by rw [hrl]; exact q9) (by omega)
     have f1 := hO7.free (d * 2 + 1)
     rw [Nat.add_zero] at d0
     have hP := hO7.put2 d (by rw [hrl]; exact q9) (.int .i64 y.t) (.int .i64 y.v)
     rw [hrl,fill_step ptZ (ptR done) _ N d (by rw [ptR_length]; exact HD.out) q9,← ptR_snoc' done y] at hP
     have O8 := hQz hP
     have B8 : Hid (Below w.heap.size w ((W7.setCell ⟨w.heap.size,d * 2,none⟩ (.int .i64 y.t)).setCell ⟨w.heap.size,d * 2 + 1,none⟩ (.int .i64 y.v))) := (B7.out.setCell (Nat.le_refl _) _).setCell (Nat.le_refl _) _
     have K8 : Hid (Blk ((W7.setCell ⟨w.heap.size,d * 2,none⟩ (.int .i64 y.t)).setCell ⟨w.heap.size,d * 2 + 1,none⟩ (.int .i64 y.v)) hb #[.int .i64 y.t,.int .i64 y.v] 98) := (K7.out.other (by omega) _ _).other (by omega) _ _
     have BW : Hid (Below w.heap.size wr ((W7.setCell ⟨w.heap.size,d * 2,none⟩ (.int .i64 y.t)).setCell ⟨w.heap.size,d * 2 + 1,none⟩ (.int .i64 y.v))) := ((BR7.out.mono (Nat.le_of_lt HLL.out)).setCell (Nat.le_refl _) _).setCell (Nat.le_refl _) _
     have k0 := K7.out.cell 0 (.int .i64 y.t) rfl
     have k1 := K7.out.cell 1 (.int .i64 y.v) rfl
     clear hO7 hP hrl
     go_wp2_with fail
     generalize ((W7.setCell ⟨w.heap.size,d * 2,none⟩ (.int .i64 y.t)).setCell ⟨w.heap.size,d * 2 + 1,none⟩ (.int .i64 y.v)) = W8 at *
     clear d0 f0 d1 f1 k0 k1 O7 B7 K7 BR7
     have S1 : Hid (W8.drew.cell? ⟨hb,0,none⟩ = some (.int .i64 y.t) ∧ W8.drew.cell? ⟨hb,1,none⟩ = some (.int .i64 y.v) ∧ W8.drew.cell? ⟨g',off',none⟩ = some (.int .i64 y.t) ∧ W8.drew.cell? ⟨g',off' + 1,none⟩ = some (.int .i64 y.v) ∧ W8.drew.cell? ⟨g,off,none⟩ = some (.int .i64 x.t)) := ⟨K8.out.cell 0 _ rfl,K8.out.cell 1 _ rfl,(BW.out.cell (p := ⟨_,_,none⟩) HG.out.2).trans HC.out.2.2.1,(BW.out.cell (p := ⟨_,_,none⟩) HG.out.2).trans HC.out.2.2.2,(BW.out.cell (p := ⟨_,_,none⟩) HG.out.1).trans HC.out.1⟩
     have S2 : Hid (W8.drew.drew.cell? ⟨hb,0,none⟩ = some (.int .i64 y.t) ∧ W8.drew.drew.cell? ⟨hb,1,none⟩ = some (.int .i64 y.v) ∧ W8.drew.drew.cell? ⟨g',off',none⟩ = some (.int .i64 y.t) ∧ W8.drew.drew.cell? ⟨g',off' + 1,none⟩ = some (.int .i64 y.v) ∧ W8.drew.drew.cell? ⟨g,off,none⟩ = some (.int .i64 x.t)) := S1.out
     refine wp_region_until (fun w' => w'.cell? ⟨hb,0,none⟩ = some (.int .i64 y.t) ∧ w'.cell? ⟨hb,1,none⟩ = some (.int .i64 y.v) ∧ w'.cell? ⟨g',off',none⟩ = some (.int .i64 y.t) ∧ w'.cell? ⟨g',off' + 1,none⟩ = some (.int .i64 y.v) ∧ w'.cell? ⟨g,off,none⟩ = some (.int .i64 x.t)) (fun _ => false) 5 (by rfl) (by kernel_rfl) ?_
     refine tKf 0 S1.out ?_
     refine tKf 1 S1.out ?_
     refine tKf 2 S1.out ?_
     refine tKf 3 S1.out ?_
     refine tKe 4 (v := .bool true) S1.out ?_ ?_
     ·intro w hSw
      go_simp
      try exact fun h => absurd h (by omega)
     try simp only [Act.put,zQ1,zQ2,zQ3]
     refine until_done (by kernel_rfl) ?_ _
     go_wp2_with fail
     refine wp_region_until (fun w' => w'.cell? ⟨hb,0,none⟩ = some (.int .i64 y.t) ∧ w'.cell? ⟨hb,1,none⟩ = some (.int .i64 y.v) ∧ w'.cell? ⟨g',off',none⟩ = some (.int .i64 y.t) ∧ w'.cell? ⟨g',off' + 1,none⟩ = some (.int .i64 y.v) ∧ w'.cell? ⟨g,off,none⟩ = some (.int .i64 x.t)) (fun _ => false) 7 (by rfl) (by kernel_rfl) ?_
     refine tKf 0 S2.out ?_
     refine tKf 1 S2.out ?_
     refine tKf 2 S2.out ?_
     refine tKf 3 S2.out ?_
     refine tKf 4 S2.out ?_
     refine tKf 5 S2.out ?_
     refine tKf 6 S2.out ?_
     refine until_done (by kernel_rfl) ?_ _
     go_wp2_with fail
     go_roundw
     case rel => exact ⟨a2,b2,done ++ [y],HLA2.out.on ((BW.out.mono HB.out).drew.drew),HLB2.out.on ((BW.out.mono HB.out).drew.drew),HM2.out,HL2.out,by rw [List.length_append,HD.out]; go_num,by rw [List.length_append,HD.out]; exact O8.out.on ((Below.refl _ W8).drew.drew),B8.out.drew.drew⟩
     case measure => simp [sliceLen]; omega
    ·go_simp
     go_wp2_with fail
     refine hK.out _ _ (fun _ h => ⟨cell_alloc_keep h.1 _,cell_alloc_keep h.2.1 _,cell_alloc_keep h.2.2.1 _,cell_alloc_keep h.2.2.2 _⟩) ?_
     clear hK K
     try simp only [Act.put,zQ1,zQ2,zQ3]
     refine uNe 6 (fun K hK => ?_)
     go_simp
     refine (cE _).mono ?_
     rintro e w1 ⟨rfl,hb1⟩
     have K1 : Hid (Blk w1 wr.heap.size #[.int .i64 0,.int .i64 0] 98) := (Blk.new wr.drew #[.int .i64 0,.int .i64 0] 98).on hb1 (by simp [World.size_alloc])
     have c0 := K1.out.cell 0 (.int .i64 0) rfl
     have c1 := K1.out.cell 1 (.int .i64 0) rfl
     have z0 := K1.out.free 0
     have z1 := K1.out.free 1
     have BR1 : Hid (Below wr.heap.size wr w1) := ((Below.refl _ wr).drew.alloc (Nat.le_refl _) _).trans (hb1.mono (by simp [World.size_alloc]))
     clear hb1
     go_wp2_with fail
     refine hK.out _ _ (fun h => by cases h) ?_
     clear hK K
     try simp only [Act.put,zQ1,zQ2,zQ3]
     refine uNe 8 (fun K hK => ?_)
     go_simp
     go_wp2_with fail
     refine hK.out _ _ (fun h => by cases h) ?_
     clear hK K
     try simp only [Act.put,zQ1,zQ2,zQ3]
     refine until_done (by kernel_rfl) ?_ _
     have BR7 : Hid (Below wr.heap.size wr ((w1.setCell ⟨wr.heap.size,0,none⟩ (.int .i64 y.t)).setCell ⟨wr.heap.size,1,none⟩ (.int .i64 y.v))) := (BR1.out.setCell (Nat.le_refl _) _).setCell (Nat.le_refl _) _
     have K7 : Hid (Blk ((w1.setCell ⟨wr.heap.size,0,none⟩ (.int .i64 y.t)).setCell ⟨wr.heap.size,1,none⟩ (.int .i64 y.v)) wr.heap.size #[.int .i64 y.t,.int .i64 y.v] 98) := (K1.out.set 0 (.int .i64 y.t)).set 1 (.int .i64 y.v)
     have O7 := hQz (HO.out.on BR7.out)
     have B7 := hQz (HB1.out.trans (BR7.out.mono HB1.out.size))
     have hhb : w.heap.size < wr.heap.size := HLL.out
     clear c0 c1 z0 z1 K1 BR1
     generalize ((w1.setCell ⟨wr.heap.size,0,none⟩ (.int .i64 y.t)).setCell ⟨wr.heap.size,1,none⟩ (.int .i64 y.v)) = W7 at *
     obtain ⟨hb,hbe⟩ : ∃ hb,hb = wr.heap.size := ⟨_,rfl⟩
     rw [← hbe] at hhb K7 ⊢
     clear hbe
     have hrl : (ptR done ++ List.replicate (N - d) ptZ).length = N := by rw [List.length_append,ptR_length,List.length_replicate,HD.out]; omega
     have hO7 : Owns W7 w.heap.size 98 2 (.slice (some ⟨w.heap.size,0,none⟩) (ptR done ++ List.replicate (N - d) ptZ).length N) (ptR done ++ List.replicate (N - d) ptZ) := by rw [hrl]; exact O7.out
     obtain ⟨y0,d0⟩ := hO7.cellX d 0 (by rw [hrl]; exact q9) (by omega)
     have f0 := hO7.free (d * 2)
     obtain ⟨y1,d1⟩ := hO7.cellX d 1 (by rw [hrl]; exact q9) (by omega)
     have f1 := hO7.free (d * 2 + 1)
     rw [Nat.add_zero] at d0
     have hP := hO7.put2 d (by rw [hrl]; exact q9) (.int .i64 y.t) (.int .i64 y.v)
     rw [hrl,fill_step ptZ (ptR done) _ N d (by rw [ptR_length]; exact HD.out) q9,← ptR_snoc' done y] at hP
     have O8 := hQz hP
     have B8 : Hid (Below w.heap.size w ((W7.setCell ⟨w.heap.size,d * 2,none⟩ (.int .i64 y.t)).setCell ⟨w.heap.size,d * 2 + 1,none⟩ (.int .i64 y.v))) := (B7.out.setCell (Nat.le_refl _) _).setCell (Nat.le_refl _) _
     have K8 : Hid (Blk ((W7.setCell ⟨w.heap.size,d * 2,none⟩ (.int .i64 y.t)).setCell ⟨w.heap.size,d * 2 + 1,none⟩ (.int .i64 y.v)) hb #[.int .i64 y.t,.int .i64 y.v] 98) := (K7.out.other (by omega) _ _).other (by omega) _ _
     have BW : Hid (Below w.heap.size wr ((W7.setCell ⟨w.heap.size,d * 2,none⟩ (.int .i64 y.t)).setCell ⟨w.heap.size,d * 2 + 1,none⟩ (.int .i64 y.v))) := ((BR7.out.mono (Nat.le_of_lt HLL.out)).setCell (Nat.le_refl _) _).setCell (Nat.le_refl _) _
     have k0 := K7.out.cell 0 (.int .i64 y.t) rfl
     have k1 := K7.out.cell 1 (.int .i64 y.v) rfl
     clear hO7 hP hrl
     go_wp2_with fail
     generalize ((W7.setCell ⟨w.heap.size,d * 2,none⟩ (.int .i64 y.t)).setCell ⟨w.heap.size,d * 2 + 1,none⟩ (.int .i64 y.v)) = W8 at *
     clear d0 f0 d1 f1 k0 k1 O7 B7 K7 BR7
     have S1 : Hid (W8.drew.cell? ⟨hb,0,none⟩ = some (.int .i64 y.t) ∧ W8.drew.cell? ⟨hb,1,none⟩ = some (.int .i64 y.v) ∧ W8.drew.cell? ⟨g',off',none⟩ = some (.int .i64 y.t) ∧ W8.drew.cell? ⟨g',off' + 1,none⟩ = some (.int .i64 y.v) ∧ W8.drew.cell? ⟨g,off,none⟩ = some (.int .i64 x.t)) := ⟨K8.out.cell 0 _ rfl,K8.out.cell 1 _ rfl,(BW.out.cell (p := ⟨_,_,none⟩) HG.out.2).trans HC.out.2.2.1,(BW.out.cell (p := ⟨_,_,none⟩) HG.out.2).trans HC.out.2.2.2,(BW.out.cell (p := ⟨_,_,none⟩) HG.out.1).trans HC.out.1⟩
     have S2 : Hid (W8.drew.drew.cell? ⟨hb,0,none⟩ = some (.int .i64 y.t) ∧ W8.drew.drew.cell? ⟨hb,1,none⟩ = some (.int .i64 y.v) ∧ W8.drew.drew.cell? ⟨g',off',none⟩ = some (.int .i64 y.t) ∧ W8.drew.drew.cell? ⟨g',off' + 1,none⟩ = some (.int .i64 y.v) ∧ W8.drew.drew.cell? ⟨g,off,none⟩ = some (.int .i64 x.t)) := S1.out
     refine wp_region_until (fun w' => w'.cell? ⟨hb,0,none⟩ = some (.int .i64 y.t) ∧ w'.cell? ⟨hb,1,none⟩ = some (.int .i64 y.v) ∧ w'.cell? ⟨g',off',none⟩ = some (.int .i64 y.t) ∧ w'.cell? ⟨g',off' + 1,none⟩ = some (.int .i64 y.v) ∧ w'.cell? ⟨g,off,none⟩ = some (.int .i64 x.t)) (fun _ => false) 5 (by rfl) (by kernel_rfl) ?_
     refine tKf 0 S1.out ?_
     refine tKf 1 S1.out ?_
     refine tKf 2 S1.out ?_
     refine tKf 3 S1.out ?_
     refine tKe 4 (v := .bool true) S1.out ?_ ?_
     ·intro w hSw
      go_simp
      try exact fun h => absurd h (by omega)
     try simp only [Act.put,zQ1,zQ2,zQ3]
     refine until_done (by kernel_rfl) ?_ _
     go_wp2_with fail
     refine wp_region_until (fun w' => w'.cell? ⟨hb,0,none⟩ = some (.int .i64 y.t) ∧ w'.cell? ⟨hb,1,none⟩ = some (.int .i64 y.v) ∧ w'.cell? ⟨g',off',none⟩ = some (.int .i64 y.t) ∧ w'.cell? ⟨g',off' + 1,none⟩ = some (.int .i64 y.v) ∧ w'.cell? ⟨g,off,none⟩ = some (.int .i64 x.t)) (fun _ => false) 7 (by rfl) (by kernel_rfl) ?_
     refine tKf 0 S2.out ?_
     refine tKf 1 S2.out ?_
     refine tKf 2 S2.out ?_
     refine tKf 3 S2.out ?_
     refine tKf 4 S2.out ?_
     refine tKf 5 S2.out ?_
     refine tKf 6 S2.out ?_
     refine until_done (by kernel_rfl) ?_ _
     go_wp2_with fail
     go_roundw
     case rel => exact ⟨a2,b2,done ++ [y],HLA2.out.on ((BW.out.mono HB.out).drew.drew),HLB2.out.on ((BW.out.mono HB.out).drew.drew),HM2.out,HL2.out,by rw [List.length_append,HD.out]; go_num,by rw [List.length_append,HD.out]; exact O8.out.on ((Below.refl _ W8).drew.drew),B8.out.drew.drew⟩
     case measure => simp [sliceLen]; omega
   rw [if_neg h1] at cE
   have h3 : y.t < x.t := by omega
   have dE : decide (y.t = x.t) = false := decide_eq_false (by omega)
   have dE2 : (y.t == x.t) = false := beq_eq_false_iff_ne.2 (by omega)
   clear h2
   have HM2 : Hid (Rising (x :: a2) ∧ Rising b2 ∧ done ++ [y] ++ mrg (x :: a2) b2 = mrg a b) := by
    refine ⟨HM.out.1,(List.pairwise_cons.1 HM.out.2.1).2,?_⟩
    rw [← HM.out.2.2,mrg_more HM.out.1 HM.out.2.1 h3,List.append_assoc]
    rfl
   have HL2 : Hid ((done ++ [y]).length + (x :: a2).length + b2.length ≤ N) := by
    unfold Hid
    have h1 := HLN.out
    simp only [List.length_append,List.length_cons,List.length_nil,HD.out,HLa.out,HLb.out]
    omega
   go_wp2_with fail
   refine wp_region_until (fun w' => w'.cell? ⟨g,off,none⟩ = some (.int .i64 x.t) ∧ w'.cell? ⟨g,off + 1,none⟩ = some (.int .i64 x.v) ∧ w'.cell? ⟨g',off',none⟩ = some (.int .i64 y.t) ∧ w'.cell? ⟨g',off' + 1,none⟩ = some (.int .i64 y.v)) (fun i => i == 6 || i == 8) 9 (by rfl) (by kernel_rfl) ?_
   refine tKf 0 S0.out ?_
   refine tKf 1 S0.out ?_
   refine tKf 2 S0.out ?_
   refine tKf 3 S0.out ?_
   refine tKf 4 S0.out ?_
   refine tKf 5 S0.out ?_
   refine until_two 6 7 (by rfl) (by rfl) (by kernel_rfl) (fun K hK => ?_) (fun K hK => ?_)
   ·go_simp
    refine (cE _).mono ?_
    rintro e w1 ⟨rfl,hb1⟩
    go_wp2_with fail
    refine hK.out _ _ (fun h => by cases h) ?_
    clear hK K
    try simp only [Act.put,zQ1,zQ2,zQ3]
    refine uNe 7 (fun K hK => ?_)
    go_simp
    go_wp2_with fail
    refine hK.out _ _ (fun _ h => ⟨cell_alloc_keep h.1 _,cell_alloc_keep h.2.1 _,cell_alloc_keep h.2.2.1 _,cell_alloc_keep h.2.2.2 _⟩) ?_
    clear hK K
    try simp only [Act.put,zQ1,zQ2,zQ3]
    refine uNe 8 (fun K hK => ?_)
    go_simp
    go_wp2_with fail
    refine hK.out _ _ (fun h => by cases h) ?_
    clear hK K
    try simp only [Act.put,zQ1,zQ2,zQ3]
    refine until_done (by kernel_rfl) ?_ _
    have BR7 : Hid (Below wr.heap.size wr (w1.alloc (.cells #[.int .i64 y.t,.int .i64 y.v] 98))) := ((Below.refl _ wr).drew.trans hb1).alloc hb1.size _
    have K7 : Hid (Blk (w1.alloc (.cells #[.int .i64 y.t,.int .i64 y.v] 98)) w1.heap.size #[.int .i64 y.t,.int .i64 y.v] 98) := Blk.new _ _ _
    have O7 := hQz (HO.out.on BR7.out)
    have B7 := hQz (HB1.out.trans (BR7.out.mono HB1.out.size))
    have hhb : w.heap.size < w1.heap.size := Nat.lt_of_lt_of_le HLL.out hb1.size
    generalize hbe : w1.heap.size = hb at *
    generalize w1.alloc (.cells #[.int .i64 y.t,.int .i64 y.v] 98) = W7 at *
    clear hb1 hbe
    have hrl : (ptR done ++ List.replicate (N - d) ptZ).length = N := by rw [List.length_append,ptR_length,List.length_replicate,HD.out]; omega
    have hO7 : Owns W7 w.heap.size 98 2 (.slice (some ⟨w.heap.size,0,none⟩) (ptR done ++ List.replicate (N - d) ptZ).length N) (ptR done ++ List.replicate (N - d) ptZ) := by rw [hrl]; exact O7.out
    obtain ⟨y0,d0⟩ := hO7.cellX d 0 (by rw [hrl]; exact q9) (by omega)
    have f0 := hO7.free (d * 2)
    obtain ⟨y1,d1⟩ := hO7.cellX d 1 (by rw [hrl]; exact q9) (by omega)
    have f1 := hO7.free (d * 2 + 1)
    rw [Nat.add_zero] at d0
    have hP := hO7.put2 d (by rw [hrl]; exact q9) (.int .i64 y.t) (.int .i64 y.v)
    rw [hrl,fill_step ptZ (ptR done) _ N d (by rw [ptR_length]; exact HD.out) q9,← ptR_snoc' done y] at hP
    have O8 := hQz hP
    have B8 : Hid (Below w.heap.size w ((W7.setCell ⟨w.heap.size,d * 2,none⟩ (.int .i64 y.t)).setCell ⟨w.heap.size,d * 2 + 1,none⟩ (.int .i64 y.v))) := (B7.out.setCell (Nat.le_refl _) _).setCell (Nat.le_refl _) _
    have K8 : Hid (Blk ((W7.setCell ⟨w.heap.size,d * 2,none⟩ (.int .i64 y.t)).setCell ⟨w.heap.size,d * 2 + 1,none⟩ (.int .i64 y.v)) hb #[.int .i64 y.t,.int .i64 y.v] 98) := (K7.out.other (by omega) _ _).other (by omega) _ _
    have BW : Hid (Below w.heap.size wr ((W7.setCell ⟨w.heap.size,d * 2,none⟩ (.int .i64 y.t)).setCell ⟨w.heap.size,d * 2 + 1,none⟩ (.int .i64 y.v))) := ((BR7.out.mono (Nat.le_of_lt HLL.out)).setCell (Nat.le_refl _) _).setCell (Nat.le_refl _) _
    have k0 := K7.out.cell 0 (.int .i64 y.t) rfl
    have k1 := K7.out.cell 1 (.int .i64 y.v) rfl
    clear hO7 hP hrl
    go_wp2_with fail
    generalize ((W7.setCell ⟨w.heap.size,d * 2,none⟩ (.int .i64 y.t)).setCell ⟨w.heap.size,d * 2 + 1,none⟩ (.int .i64 y.v)) = W8 at *
    clear d0 f0 d1 f1 k0 k1 O7 B7 K7 BR7
    have S1 : Hid (W8.drew.cell? ⟨hb,0,none⟩ = some (.int .i64 y.t) ∧ W8.drew.cell? ⟨hb,1,none⟩ = some (.int .i64 y.v) ∧ W8.drew.cell? ⟨g',off',none⟩ = some (.int .i64 y.t) ∧ W8.drew.cell? ⟨g',off' + 1,none⟩ = some (.int .i64 y.v) ∧ W8.drew.cell? ⟨g,off,none⟩ = some (.int .i64 x.t)) := ⟨K8.out.cell 0 _ rfl,K8.out.cell 1 _ rfl,(BW.out.cell (p := ⟨_,_,none⟩) HG.out.2).trans HC.out.2.2.1,(BW.out.cell (p := ⟨_,_,none⟩) HG.out.2).trans HC.out.2.2.2,(BW.out.cell (p := ⟨_,_,none⟩) HG.out.1).trans HC.out.1⟩
    have S2 : Hid (W8.drew.drew.cell? ⟨hb,0,none⟩ = some (.int .i64 y.t) ∧ W8.drew.drew.cell? ⟨hb,1,none⟩ = some (.int .i64 y.v) ∧ W8.drew.drew.cell? ⟨g',off',none⟩ = some (.int .i64 y.t) ∧ W8.drew.drew.cell? ⟨g',off' + 1,none⟩ = some (.int .i64 y.v) ∧ W8.drew.drew.cell? ⟨g,off,none⟩ = some (.int .i64 x.t)) := S1.out
    refine wp_region_until (fun w' => w'.cell? ⟨hb,0,none⟩ = some (.int .i64 y.t) ∧ w'.cell? ⟨hb,1,none⟩ = some (.int .i64 y.v) ∧ w'.cell? ⟨g',off',none⟩ = some (.int .i64 y.t) ∧ w'.cell? ⟨g',off' + 1,none⟩ = some (.int .i64 y.v) ∧ w'.cell? ⟨g,off,none⟩ = some (.int .i64 x.t)) (fun _ => false) 5 (by rfl) (by kernel_rfl) ?_
    refine tKf 0 S1.out ?_
    refine tKf 1 S1.out ?_
    refine tKf 2 S1.out ?_
    refine tKf 3 S1.out ?_
    refine tKe 4 (v := .bool true) S1.out ?_ ?_
    ·intro w hSw
     go_simp
     try exact fun h => absurd h (by omega)
    try simp only [Act.put,zQ1,zQ2,zQ3]
    refine until_done (by kernel_rfl) ?_ _
    go_wp2_with fail
    refine wp_region_until (fun w' => w'.cell? ⟨hb,0,none⟩ = some (.int .i64 y.t) ∧ w'.cell? ⟨hb,1,none⟩ = some (.int .i64 y.v) ∧ w'.cell? ⟨g',off',none⟩ = some (.int .i64 y.t) ∧ w'.cell? ⟨g',off' + 1,none⟩ = some (.int .i64 y.v) ∧ w'.cell? ⟨g,off,none⟩ = some (.int .i64 x.t)) (fun _ => false) 7 (by rfl) (by kernel_rfl) ?_
    refine tKf 0 S2.out ?_
    refine tKf 1 S2.out ?_
    refine tKf 2 S2.out ?_
    refine tKf 3 S2.out ?_
    refine tKf 4 S2.out ?_
    refine tKf 5 S2.out ?_
    refine tKf 6 S2.out ?_
    refine until_done (by kernel_rfl) ?_ _
    go_wp2_with fail
    go_roundw
    case rel => exact ⟨(x :: a2),b2,done ++ [y],HLA.out.on ((BW.out.mono HB.out).drew.drew),HLB2.out.on ((BW.out.mono HB.out).drew.drew),HM2.out,HL2.out,by rw [List.length_append,HD.out]; go_num,by rw [List.length_append,HD.out]; exact O8.out.on ((Below.refl _ W8).drew.drew),B8.out.drew.drew⟩
    case measure => simp [sliceLen]
   ·go_simp
    go_wp2_with fail
    refine hK.out _ _ (fun _ h => ⟨cell_alloc_keep h.1 _,cell_alloc_keep h.2.1 _,cell_alloc_keep h.2.2.1 _,cell_alloc_keep h.2.2.2 _⟩) ?_
    clear hK K
    try simp only [Act.put,zQ1,zQ2,zQ3]
    refine uNe 6 (fun K hK => ?_)
    go_simp
    refine (cE _).mono ?_
    rintro e w1 ⟨rfl,hb1⟩
    have K1 : Hid (Blk w1 wr.heap.size #[.int .i64 0,.int .i64 0] 98) := (Blk.new wr.drew #[.int .i64 0,.int .i64 0] 98).on hb1 (by simp [World.size_alloc])
    have c0 := K1.out.cell 0 (.int .i64 0) rfl
    have c1 := K1.out.cell 1 (.int .i64 0) rfl
    have z0 := K1.out.free 0
    have z1 := K1.out.free 1
    have BR1 : Hid (Below wr.heap.size wr w1) := ((Below.refl _ wr).drew.alloc (Nat.le_refl _) _).trans (hb1.mono (by simp [World.size_alloc]))
    clear hb1
    go_wp2_with fail
    refine hK.out _ _ (fun h => by cases h) ?_
    clear hK K
    try simp only [Act.put,zQ1,zQ2,zQ3]
    refine uNe 8 (fun K hK => ?_)
    go_simp
    go_wp2_with fail
    refine hK.out _ _ (fun h => by cases h) ?_
    clear hK K
    try simp only [Act.put,zQ1,zQ2,zQ3]
    refine until_done (by kernel_rfl) ?_ _
    have BR7 : Hid (Below wr.heap.size wr ((w1.setCell ⟨wr.heap.size,0,none⟩ (.int .i64 y.t)).setCell ⟨wr.heap.size,1,none⟩ (.int .i64 y.v))) := (BR1.out.setCell (Nat.le_refl _) _).setCell (Nat.le_refl _) _
    have K7 : Hid (Blk ((w1.setCell ⟨wr.heap.size,0,none⟩ (.int .i64 y.t)).setCell ⟨wr.heap.size,1,none⟩ (.int .i64 y.v)) wr.heap.size #[.int .i64 y.t,.int .i64 y.v] 98) := (K1.out.set 0 (.int .i64 y.t)).set 1 (.int .i64 y.v)
    have O7 := hQz (HO.out.on BR7.out)
    have B7 := hQz (HB1.out.trans (BR7.out.mono HB1.out.size))
    have hhb : w.heap.size < wr.heap.size := HLL.out
    clear c0 c1 z0 z1 K1 BR1
    generalize ((w1.setCell ⟨wr.heap.size,0,none⟩ (.int .i64 y.t)).setCell ⟨wr.heap.size,1,none⟩ (.int .i64 y.v)) = W7 at *
    obtain ⟨hb,hbe⟩ : ∃ hb,hb = wr.heap.size := ⟨_,rfl⟩
    rw [← hbe] at hhb K7 ⊢
    clear hbe
    have hrl : (ptR done ++ List.replicate (N - d) ptZ).length = N := by rw [List.length_append,ptR_length,List.length_replicate,HD.out]; omega
    have hO7 : Owns W7 w.heap.size 98 2 (.slice (some ⟨w.heap.size,0,none⟩) (ptR done ++ List.replicate (N - d) ptZ).length N) (ptR done ++ List.replicate (N - d) ptZ) := by rw [hrl]; exact O7.out
    obtain ⟨y0,d0⟩ := hO7.cellX d 0 (by rw [hrl]; exact q9) (by omega)
    have f0 := hO7.free (d * 2)
    obtain ⟨y1,d1⟩ := hO7.cellX d 1 (by rw [hrl]; exact q9) (by omega)
    have f1 := hO7.free (d * 2 + 1)
    rw [Nat.add_zero] at d0
    have hP := hO7.put2 d (by rw [hrl]; exact q9) (.int .i64 y.t) (.int .i64 y.v)
    rw [hrl,fill_step ptZ (ptR done) _ N d (by rw [ptR_length]; exact HD.out) q9,← ptR_snoc' done y] at hP
    have O8 := hQz hP
    have B8 : Hid (Below w.heap.size w ((W7.setCell ⟨w.heap.size,d * 2,none⟩ (.int .i64 y.t)).setCell ⟨w.heap.size,d * 2 + 1,none⟩ (.int .i64 y.v))) := (B7.out.setCell (Nat.le_refl _) _).setCell (Nat.le_refl _) _
    have K8 : Hid (Blk ((W7.setCell ⟨w.heap.size,d * 2,none⟩ (.int .i64 y.t)).setCell ⟨w.heap.size,d * 2 + 1,none⟩ (.int .i64 y.v)) hb #[.int .i64 y.t,.int .i64 y.v] 98) := (K7.out.other (by omega) _ _).other (by omega) _ _
    have BW : Hid (Below w.heap.size wr ((W7.setCell ⟨w.heap.size,d * 2,none⟩ (.int .i64 y.t)).setCell ⟨w.heap.size,d * 2 + 1,none⟩ (.int .i64 y.v))) := ((BR7.out.mono (Nat.le_of_lt HLL.out)).setCell (Nat.le_refl _) _).setCell (Nat.le_refl _) _
    have k0 := K7.out.cell 0 (.int .i64 y.t) rfl
    have k1 := K7.out.cell 1 (.int .i64 y.v) rfl
    clear hO7 hP hrl
    go_wp2_with fail
    generalize ((W7.setCell ⟨w.heap.size,d * 2,none⟩ (.int .i64 y.t)).setCell ⟨w.heap.size,d * 2 + 1,none⟩ (.int .i64 y.v)) = W8 at *
    clear d0 f0 d1 f1 k0 k1 O7 B7 K7 BR7
    have S1 : Hid (W8.drew.cell? ⟨hb,0,none⟩ = some (.int .i64 y.t) ∧ W8.drew.cell? ⟨hb,1,none⟩ = some (.int .i64 y.v) ∧ W8.drew.cell? ⟨g',off',none⟩ = some (.int .i64 y.t) ∧ W8.drew.cell? ⟨g',off' + 1,none⟩ = some (.int .i64 y.v) ∧ W8.drew.cell? ⟨g,off,none⟩ = some (.int .i64 x.t)) := ⟨K8.out.cell 0 _ rfl,K8.out.cell 1 _ rfl,(BW.out.cell (p := ⟨_,_,none⟩) HG.out.2).trans HC.out.2.2.1,(BW.out.cell (p := ⟨_,_,none⟩) HG.out.2).trans HC.out.2.2.2,(BW.out.cell (p := ⟨_,_,none⟩) HG.out.1).trans HC.out.1⟩
    have S2 : Hid (W8.drew.drew.cell? ⟨hb,0,none⟩ = some (.int .i64 y.t) ∧ W8.drew.drew.cell? ⟨hb,1,none⟩ = some (.int .i64 y.v) ∧ W8.drew.drew.cell? ⟨g',off',none⟩ = some (.int .i64 y.t) ∧ W8.drew.drew.cell? ⟨g',off' + 1,none⟩ = some (.int .i64 y.v) ∧ W8.drew.drew.cell? ⟨g,off,none⟩ = some (.int .i64 x.t)) := S1.out
    refine wp_region_until (fun w' => w'.cell? ⟨hb,0,none⟩ = some (.int .i64 y.t) ∧ w'.cell? ⟨hb,1,none⟩ = some (.int .i64 y.v) ∧ w'.cell? ⟨g',off',none⟩ = some (.int .i64 y.t) ∧ w'.cell? ⟨g',off' + 1,none⟩ = some (.int .i64 y.v) ∧ w'.cell? ⟨g,off,none⟩ = some (.int .i64 x.t)) (fun _ => false) 5 (by rfl) (by kernel_rfl) ?_
    refine tKf 0 S1.out ?_
    refine tKf 1 S1.out ?_
    refine tKf 2 S1.out ?_
    refine tKf 3 S1.out ?_
    refine tKe 4 (v := .bool true) S1.out ?_ ?_
    ·intro w hSw
     go_simp
     try exact fun h => absurd h (by omega)
    try simp only [Act.put,zQ1,zQ2,zQ3]
    refine until_done (by kernel_rfl) ?_ _
    go_wp2_with fail
    refine wp_region_until (fun w' => w'.cell? ⟨hb,0,none⟩ = some (.int .i64 y.t) ∧ w'.cell? ⟨hb,1,none⟩ = some (.int .i64 y.v) ∧ w'.cell? ⟨g',off',none⟩ = some (.int .i64 y.t) ∧ w'.cell? ⟨g',off' + 1,none⟩ = some (.int .i64 y.v) ∧ w'.cell? ⟨g,off,none⟩ = some (.int .i64 x.t)) (fun _ => false) 7 (by rfl) (by kernel_rfl) ?_
    refine tKf 0 S2.out ?_
    refine tKf 1 S2.out ?_
    refine tKf 2 S2.out ?_
    refine tKf 3 S2.out ?_
    refine tKf 4 S2.out ?_
    refine tKf 5 S2.out ?_
    refine tKf 6 S2.out ?_
    refine until_done (by kernel_rfl) ?_ _
    go_wp2_with fail
    go_roundw
    case rel => exact ⟨(x :: a2),b2,done ++ [y],HLA.out.on ((BW.out.mono HB.out).drew.drew),HLB2.out.on ((BW.out.mono HB.out).drew.drew),HM2.out,HL2.out,by rw [List.length_append,HD.out]; go_num,by rw [List.length_append,HD.out]; exact O8.out.on ((Below.refl _ W8).drew.drew),B8.out.drew.drew⟩
    case measure => simp [sliceLen]
end Go.Proofs.YthhamlahdjokkaaGreatDoor
