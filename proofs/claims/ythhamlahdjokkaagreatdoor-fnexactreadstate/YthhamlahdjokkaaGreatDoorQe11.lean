/- FlIdxS -/
import Derived.Test.YthhamlahdjokkaaGreatDoorQe10
open List (setIfInBounds_toArray set_cons_zero set_cons_succ)
namespace Go.Proofs.YthhamlahdjokkaaGreatDoor
open Go.ChangeShapes Go.WideShapes Go.ChangeAt Go.RowKit Go.PlainAid
set_option linter.unusedVariables false
def LKey (s : ByteArray) (L : List (Ser × Value)) : Prop := L.length ≤ 6 ∧ ∀ q ∈ L,q.1.pts.length ≤ 60 ∧ q.1.key.size ≤ s.size
theorem LKey.snoc {s : ByteArray} {L : List (Ser × Value)} (h : LKey s L) {x : Ser} {v : Value} (hl : L.length ≤ 5) (hp : x.pts.length ≤ 60) (hk : x.key.size ≤ s.size) : LKey s (L ++ [(x,v)]) := by
 refine ⟨by rw [List.length_append]; simp only [List.length_singleton]; omega,fun q hq => ?_⟩
 rcases List.mem_append.1 hq with hq | hq
 ·exact h.2 q hq
 ·rw [List.mem_singleton.1 hq]
  exact ⟨hp,hk⟩
def OnW (s : ByteArray) (k p : Nat) (l : List Ser) : Prop := ∀ m,GoodF s m → k ≤ m.length ∧ p = posF m k ∧ l = m.take k
theorem OnW.zero {s : ByteArray} (p : Nat) (hp : p = rdv (rest s (s.size - 8)) 4) : OnW s 0 p [] := fun m hm => ⟨Nat.zero_le _,by rw [hp,hm.ends.2.2.1],by simp⟩
theorem OnW.go {s : ByteArray} {k p : Nat} {l : List Ser} (h : OnW s k p l) (hp : p < s.size - 8) {m : List Ser} (hm : GoodF s m) : k < m.length ∧ p = posF m k := ⟨hm.more k (h m hm).1 (by rw [← (h m hm).2.1]; exact hp),(h m hm).2.1⟩
theorem OnW.var {s : ByteArray} {k p : Nat} {l : List Ser} (h : OnW s k p l) (hp : p < s.size - 8) (hb : rvK (s.extract p (s.size - 8)) = 0 ∨ s.size - 8 < p + rvK (s.extract p (s.size - 8)) + rvN (s.extract p (s.size - 8))) : ∀ m,¬ GoodF s m := fun m hm => by
 obtain ⟨h1,h2⟩ := h.go hp hm
 obtain ⟨a1,a2,a3,_⟩ := hm.step k h1 p h2
 rw [a1] at hb
 omega
theorem OnW.no4 {s : ByteArray} {k p : Nat} {l : List Ser} (h : OnW s k p l) (hp : p < s.size - 8) (hb : RdNo (s.extract (p + rvK (s.extract p (s.size - 8)) + rvN (s.extract p (s.size - 8))) (s.size - 8)) 4) : ∀ m,¬ GoodF s m := fun m hm => by
 obtain ⟨h1,h2⟩ := h.go hp hm
 obtain ⟨a1,a2,a3,a4,a5,_⟩ := hm.step k h1 p h2
 rw [a1] at hb
 exact a5.no hb
theorem OnW.four {s : ByteArray} {k p : Nat} {l : List Ser} (h : OnW s k p l) (hp : p < s.size - 8) {v : List Int} {n : Nat} (hr : Rd (s.extract (p + rvK (s.extract p (s.size - 8)) + rvN (s.extract p (s.size - 8))) (s.size - 8)) 4 v n) {m : List Ser} (hm : GoodF s m) : v.getD 0 0 = (atB m k : Int) ∧ v.getD 1 0 = ((blkB m k).length : Int) ∧ p + rvK (s.extract p (s.size - 8)) + rvN (s.extract p (s.size - 8)) + n = posF m (k + 1) := by
 obtain ⟨h1,h2⟩ := h.go hp hm
 obtain ⟨a1,a2,a3,a4,a5,a6,_⟩ := hm.step k h1 p h2
 rw [a1] at hr ⊢
 obtain ⟨rfl,rfl⟩ := hr.one a5
 exact ⟨(four_at m k).1,(four_at m k).2,a6⟩
theorem OnW.big {s : ByteArray} {k p : Nat} {l : List Ser} (h : OnW s k p l) (hp : p < s.size - 8) {v : List Int} {n : Nat} (hr : Rd (s.extract (p + rvK (s.extract p (s.size - 8)) + rvN (s.extract p (s.size - 8))) (s.size - 8)) 4 v n) (hb : (s.size : Int) < v.getD 0 0 ∨ (s.size : Int) - v.getD 0 0 < v.getD 1 0) : ∀ m,¬ GoodF s m := fun m hm => by
 obtain ⟨e1,e2,_⟩ := h.four hp hr hm
 obtain ⟨h1,h2⟩ := h.go hp hm
 obtain ⟨a1,a2,a3,a4,a5,a6,a7,a8,_⟩ := hm.step k h1 p h2
 omega
theorem OnW.blk {s : ByteArray} {k p : Nat} {l : List Ser} (h : OnW s k p l) (hp : p < s.size - 8) {v : List Int} {n z0 z1 : Nat} (hr : Rd (s.extract (p + rvK (s.extract p (s.size - 8)) + rvN (s.extract p (s.size - 8))) (s.size - 8)) 4 v n) (e0 : v.getD 0 0 = (z0 : Int)) (e1 : v.getD 1 0 = (z1 : Int)) {q : List Pnt} {ok : Bool} (hq : RbAns (s.extract z0 (z0 + z1)) q ok) {m : List Ser} (hm : GoodF s m) : ok = true ∧ q = (sAt m k).pts := by
 obtain ⟨f1,f2,_⟩ := h.four hp hr hm
 obtain ⟨h1,h2⟩ := h.go hp hm
 obtain ⟨a1,a2,a3,a4,a5,a6,a7,a8,a9⟩ := hm.step k h1 p h2
 obtain rfl : z0 = atB m k := by omega
 obtain rfl : z1 = (blkB m k).length := by omega
 rw [a9] at hq
 have hg : RbAns (showB (sAt m k).pts) (sAt m k).pts true := .inl ⟨rfl,hm.pts k h1⟩
 obtain ⟨b1,b2⟩ := hq.one hg
 exact ⟨b2,b1⟩
theorem OnW.next {s : ByteArray} {k p : Nat} {l : List Ser} (h : OnW s k p l) (hp : p < s.size - 8) {v : List Int} {n z0 z1 : Nat} (hr : Rd (s.extract (p + rvK (s.extract p (s.size - 8)) + rvN (s.extract p (s.size - 8))) (s.size - 8)) 4 v n) (e0 : v.getD 0 0 = (z0 : Int)) (e1 : v.getD 1 0 = (z1 : Int)) {q : List Pnt} {ok : Bool} (hq : RbAns (s.extract z0 (z0 + z1)) q ok) : OnW s (k + 1) (p + rvK (s.extract p (s.size - 8)) + rvN (s.extract p (s.size - 8)) + n) (l ++ [⟨s.extract (p + rvK (s.extract p (s.size - 8))) (p + rvK (s.extract p (s.size - 8)) + rvN (s.extract p (s.size - 8))),q⟩]) := fun m hm => by
 obtain ⟨h1,h2⟩ := h.go hp hm
 obtain ⟨a1,a2,a3,a4,_⟩ := hm.step k h1 p h2
 obtain ⟨_,rfl⟩ := h.blk hp hr e0 e1 hq hm
 refine ⟨h1,(h.four hp hr hm).2.2,?_⟩
 rw [a1,a4,(h m hm).2.2,take_sAt k h1]
theorem OnW.end {s : ByteArray} {k p : Nat} {l : List Ser} (h : OnW s k p l) (hp : ¬ p < s.size - 8) : ∀ m,GoodF s m → l = m := fun m hm => by
 obtain ⟨h1,h2,h3⟩ := h m hm
 have := hm.last k h1 (by rw [← h2]; exact hp)
 subst this
 rw [h3,List.take_length]
def IxAns (s : ByteArray) (w' : World) (b : Nat) (e : Ending) : Prop := ∃ u L ok,e = .returned (.tuple #[u,.bool ok]) ∧ SerO w' b u L ∧ LKey s L ∧ (∀ m,GoodF s m → ok = true ∧ L.map Prod.fst = m) ∧ (s.size < 12 → ok = false)
set_option maxRecDepth 10000 in
set_option maxHeartbeats 8000000 in
theorem specIndex (s : ByteArray) (w : World) (hs : s.size ≤ 1048576) : Calls Tryz.prog 123 #[.string s] w fun e w' => IxAns s w' w.heap.size e ∧ Below w.heap.size w w' := by
 have HS : Hid (s.size ≤ 1048576) := hs
 have q0 : (s.size : Int) ≤ 1048576 := by omega
 have E0 : Hid (SerO (w.alloc (.cells #[] 101)) w.heap.size (.slice (some ⟨w.heap.size,0,none⟩) 0 0) []) := ⟨Owns.empty w w.heap.size 101 2 (Nat.le_refl _),fun p hp => (by cases hp),List.Pairwise.nil⟩
 have B0 : Hid (Below w.heap.size w (w.alloc (.cells #[] 101))) := (Below.refl _ w).alloc (Nat.le_refl _) _
 have LK0 : Hid (LKey s []) := ⟨by simp,fun q hq => (by cases hq)⟩
 by_cases h12 : s.size < 12
 ·have HN : Hid (∀ m,¬ GoodF s m) := fun m hm => by have := hm.ends.2.1; omega
  have q1 : (s.size : Int) < 12 := by omega
  clear hs h12
  go_enter Tryz.func123,Tryz.ntmps123
  go_wp2_with fail
  exact bodyPost_ret (results_tmp2 rfl _ _ _) rfl ⟨⟨_,[],false,rfl,E0.out,LK0.out,fun m hm => absurd hm (HN.out m),fun _ => rfl⟩,B0.out⟩
 have H12 : Hid (¬ s.size < 12) := h12
 have q1 : (12 : Int) ≤ (s.size : Int) := by omega
 have d1 : decide ((s.size : Int) < 12) = false := decide_eq_false (by omega)
 have e2 : ((s.size : Int) - 8).toNat = s.size - 8 := by omega
 have HRs : Hid ((s.extract (s.size - 8) s.size).size = 8) := by unfold Hid; rw [ByteArray.size_extract]; omega
 have c1 := fun wx => spec_readFixed (s.extract (s.size - 8) s.size) 4 wx (by rw [HRs.out]; unfold maxLen; omega) (by omega) (by omega) (by rw [HRs.out]; omega)
 have hlt := rdv_four_lt (s.extract (s.size - 8) s.size)
 have HRb : Hid (rdv (s.extract (s.size - 8) s.size) 4 = rdv (rest s (s.size - 8)) 4) := rfl
 have HN0 : Hid (∀ m,GoodF s m → rdv (s.extract (s.size - 8) s.size) 4 ≤ s.size - 8) := fun m hm => by rw [HRb.out,hm.ends.2.2.1]; exact hm.ends.2.2.2
 have HW0 : Hid (OnW s 0 (rdv (s.extract (s.size - 8) s.size) 4) []) := OnW.zero _ HRb.out
 have HE8 : Hid (((s.size - 8 : Nat) : Int) = (s.size : Int) - 8) := by unfold Hid; omega
 clear hs h12 HRb
 generalize rdv (s.extract (s.size - 8) s.size) 4 = rd at *
 by_cases hbig : (s.size : Int) - 8 < (rd : Int)
 ·have HN : Hid (∀ m,¬ GoodF s m) := fun m hm => by have := HN0.out m hm; omega
  go_enter Tryz.func123,Tryz.ntmps123
  go_wp2_with fail
  refine (c1 _).mono ?_
  rintro e w' ⟨rfl,rfl⟩
  go_wp2_with fail
  exact bodyPost_ret (results_tmp2 rfl _ _ _) rfl ⟨⟨_,[],false,rfl,E0.out,LK0.out,fun m hm => absurd hm (HN.out m),fun h => absurd h H12.out⟩,B0.out⟩
 have q2 : (rd : Int) ≤ (s.size : Int) - 8 := by omega
 have d2 : decide ((s.size : Int) - 8 < (rd : Int)) = false := decide_eq_false hbig
 clear hbig hlt HN0
 go_enter Tryz.func123,Tryz.ntmps123
 go_wp2_with fail
 refine (c1 _).mono ?_
 rintro e w' ⟨rfl,rfl⟩
 go_wp2_with fail
 clear c1
 go_loopw [4,5] (fun v4 v5 wr => ∃ (k p : Nat) (L : List (Ser × Value)),L.length = k ∧ k ≤ 5 ∧ p ≤ s.size - 8 ∧ v5 = .int .i64 (p : Int) ∧ SerO wr w.heap.size v4 L ∧ LKey s L ∧ Hid (OnW s k p (L.map Prod.fst)) ∧ Below w.heap.size w wr) (fun _ i _ => s.size - 8 - (intOf i).toNat)
 case atStart => exact ⟨0,rd,[],rfl,by omega,by omega,rfl,E0.out,LK0.out,HW0.out,B0.out⟩
 case round =>
  obtain ⟨k,p,L,hLl,hk5,hp,rfl,hO,hLk,HX,hb⟩ := hrel
  have HLL : Hid (L.length = k) := hLl
  have HO := hQz hO
  have HLK : Hid (LKey s L) := hLk
  have HB1 := hQz hb
  clear hLl hO hLk hb
  by_cases hpe : p < s.size - 8
  ·have HPE : Hid (p < s.size - 8) := hpe
   have q5 : (p : Int) < (s.size : Int) - 8 := by omega
   have q6 : (p : Int) ≤ (s.size : Int) - 8 := by omega
   have hx8 : ((s.size : Int) - 8).toNat = s.size - 8 := e2
   have cv : ∀ wx,Calls Tryz.prog 122 #[.string (s.extract p (s.size - 8))] wx fun e w' => e = .returned (.tuple #[.int .i64 (rvN (s.extract p (s.size - 8)) : Int),.int .i64 (rvK (s.extract p (s.size - 8)) : Int)]) ∧ Below wx.heap.size wx w' := fun wx => by
    refine (spec_readVar (s.extract p (s.size - 8)) wx (by rw [ByteArray.size_extract]; have := HS.out; omega)).mono ?_
    rintro e w' ⟨h,hb⟩
    obtain ⟨n,kk,h1,rfl⟩ := h.rd
    obtain ⟨rfl,rfl⟩ := rv_is h1
    exact ⟨rfl,hb⟩
   have hkk := rvK_le (s.extract p (s.size - 8))
   have hnn := rvN_le (s.extract p (s.size - 8))
   rw [ByteArray.size_extract,Nat.min_eq_left (by omega)] at hkk
   have HVar : Hid ((rvK (s.extract p (s.size - 8)) = 0 ∨ s.size - 8 < p + rvK (s.extract p (s.size - 8)) + rvN (s.extract p (s.size - 8))) → ∀ m,¬ GoodF s m) := HX.out.var hpe
   have HNo4 : Hid (RdNo (s.extract (p + rvK (s.extract p (s.size - 8)) + rvN (s.extract p (s.size - 8))) (s.size - 8)) 4 → ∀ m,¬ GoodF s m) := HX.out.no4 hpe
   have HBig : Hid (∀ v n,Rd (s.extract (p + rvK (s.extract p (s.size - 8)) + rvN (s.extract p (s.size - 8))) (s.size - 8)) 4 v n → ((s.size : Int) < v.getD 0 0 ∨ (s.size : Int) - v.getD 0 0 < v.getD 1 0) → ∀ m,¬ GoodF s m) := fun v n hr hb => HX.out.big hpe hr hb
   have HBlk : Hid (∀ v n (z0 z1 : Nat) q ok,Rd (s.extract (p + rvK (s.extract p (s.size - 8)) + rvN (s.extract p (s.size - 8))) (s.size - 8)) 4 v n → v.getD 0 0 = (z0 : Int) → v.getD 1 0 = (z1 : Int) → RbAns (s.extract z0 (z0 + z1)) q ok → ∀ m,GoodF s m → ok = true ∧ q = (sAt m k).pts) := fun v n z0 z1 q ok hr h0 h1 hq m hm => HX.out.blk hpe hr h0 h1 hq hm
   have HNext : Hid (∀ v n (z0 z1 : Nat) q ok,Rd (s.extract (p + rvK (s.extract p (s.size - 8)) + rvN (s.extract p (s.size - 8))) (s.size - 8)) 4 v n → v.getD 0 0 = (z0 : Int) → v.getD 1 0 = (z1 : Int) → RbAns (s.extract z0 (z0 + z1)) q ok → OnW s (k + 1) (p + rvK (s.extract p (s.size - 8)) + rvN (s.extract p (s.size - 8)) + n) (L.map Prod.fst ++ [⟨s.extract (p + rvK (s.extract p (s.size - 8))) (p + rvK (s.extract p (s.size - 8)) + rvN (s.extract p (s.size - 8))),q⟩])) := fun v n z0 z1 q ok hr h0 h1 hq => HX.out.next hpe hr h0 h1 hq
   have HK5 : Hid (∀ m,GoodF s m → k < 5) := fun m hm => by have := (HX.out.go hpe hm).1; have := hm.2.1.1; omega
   generalize rvN (s.extract p (s.size - 8)) = nn at *
   generalize rvK (s.extract p (s.size - 8)) = kk at *
   clear hpe
   by_cases hk0 : kk = 0
   ·have HN : Hid (∀ m,¬ GoodF s m) := HVar.out (.inl hk0)
    subst hk0
    go_wp2_with fail
    refine (cv _).mono ?_
    rintro e Y1 ⟨rfl,hb1⟩
    have BY1 := hQz (HB1.out.trans (hb1.mono HB1.out.size))
    have OY1 := hQz (HO.out.on hb1)
    clear hb1
    go_wp2_with fail
    exact bodyPost_ret (results_tmp2 rfl _ _ _) rfl ⟨⟨_,L,false,rfl,OY1.out,HLK.out,fun m hm => absurd hm (HN.out m),fun _ => rfl⟩,BY1.out⟩
   have dk1 : ((kk : Int) == 0) = false := by rw [beq_eq_false_iff_ne]; omega
   have dk2 : decide ((kk : Int) = 0) = false := decide_eq_false (by omega)
   by_cases hnb : (s.size : Int) - 8 - (p : Int) - (kk : Int) < (nn : Int)
   ·have HN : Hid (∀ m,¬ GoodF s m) := HVar.out (.inr (by omega))
    go_wp2_with fail
    refine (cv _).mono ?_
    rintro e Y1 ⟨rfl,hb1⟩
    have BY1 := hQz (HB1.out.trans (hb1.mono HB1.out.size))
    have OY1 := hQz (HO.out.on hb1)
    clear hb1
    go_wp2_with fail
    exact bodyPost_ret (results_tmp2 rfl _ _ _) rfl ⟨⟨_,L,false,rfl,OY1.out,HLK.out,fun m hm => absurd hm (HN.out m),fun _ => rfl⟩,BY1.out⟩
   have dn1 : decide ((s.size : Int) - 8 - (p : Int) - (kk : Int) < (nn : Int)) = false := decide_eq_false hnb
   have q7 : (p : Int) + (kk : Int) + (nn : Int) ≤ (s.size : Int) - 8 := by omega
   have i1 : ((p : Int) + (kk : Int)).toNat = p + kk := by omega
   have i2 : ((p : Int) + (kk : Int) + (nn : Int)).toNat = p + kk + nn := by omega
   have HP2 : Hid (p + kk + nn ≤ s.size - 8 ∧ 1 ≤ kk) := by unfold Hid; omega
   clear hnb
   have c4 := fun wx => specReadVars (s.extract (p + kk + nn) (s.size - 8)) 4 wx (by rw [ByteArray.size_extract]; have := HS.out; omega) (by omega) (by omega)
   go_wp2_with fail
   refine (cv _).mono ?_
   rintro e Y1 ⟨rfl,hb1⟩
   have BY1 := hQz (HB1.out.trans (hb1.mono HB1.out.size))
   have OY1 := hQz (HO.out.on hb1)
   clear hb1 cv
   go_wp2_with fail
   refine (c4 _).mono ?_
   rintro e Y2 ⟨hcase,hb2⟩
   have BY2 := hQz (BY1.out.trans (hb2.mono BY1.out.size))
   have OY2 := hQz (OY1.out.on hb2)
   have ZY := hQz (BY1.out.size)
   clear hb2 c4
   rcases hcase with ⟨v,n,uv,hrd,rfl,hNm⟩ | ⟨hno,uv,rfl⟩
   ·have hvl := hrd.length
    have hvb0 := hrd.boundD 0
    have hvb1 := hrd.boundD 1
    have hrle := hrd.le.2
    rw [ByteArray.size_extract,Nat.min_eq_left (by omega)] at hrle
    obtain ⟨z0,hz0⟩ : ∃ z : Nat,v.getD 0 0 = (z : Int) := ⟨(v.getD 0 0).toNat,by omega⟩
    obtain ⟨z1,hz1⟩ : ∃ z : Nat,v.getD 1 0 = (z : Int) := ⟨(v.getD 1 0).toNat,by omega⟩
    obtain ⟨Av,cv,rfl,_,_⟩ := hNm.shape
    obtain ⟨gv,rfl,_,hgv⟩ := hNm.block (by omega)
    have f0 := hNm.cell 0 (by omega)
    have f1 := hNm.cell 1 (by omega)
    rw [hz0] at f0 hvb0
    rw [hz1] at f1 hvb1
    rw [hvl] at hNm
    have HR : Hid (Rd (s.extract (p + kk + nn) (s.size - 8)) 4 v n) := hrd
    have HZ : Hid (v.getD 0 0 = (z0 : Int) ∧ v.getD 1 0 = (z1 : Int)) := ⟨hz0,hz1⟩
    have S0 : Hid (Y2.drew.cell? ⟨gv,0,none⟩ = some (.int .i64 (z0 : Int)) ∧ Y2.drew.cell? ⟨gv,1,none⟩ = some (.int .i64 (z1 : Int))) := ⟨f0,f1⟩
    have HSV : Hid (Y2.cell? ⟨gv,0,none⟩ = some (.int .i64 (z0 : Int)) ∧ Y2.cell? ⟨gv,1,none⟩ = some (.int .i64 (z1 : Int))) := ⟨f0,f1⟩
    have q8 : (z0 : Int) ≤ 562949953421311 := hvb0.2
    have q9 : (z1 : Int) ≤ 562949953421311 := hvb1.2
    have HGV : Hid (gv < Y2.heap.size) := hgv
    have q10 : (p : Int) + (kk : Int) + (nn : Int) + (n : Int) ≤ (s.size : Int) - 8 := by omega
    rw [hvl]
    clear hvl hrle hvb0 hvb1 hNm f0 f1 hrd hz0 hz1 hgv
    by_cases hb0 : (s.size : Int) < (z0 : Int)
    ·have HN : Hid (∀ m,¬ GoodF s m) := HBig.out v n HR.out (.inl (by rw [HZ.out.1]; exact hb0))
     go_wp2_with fail
     refine wp_region_until (fun w' => w'.cell? ⟨gv,0,none⟩ = some (.int .i64 (z0 : Int)) ∧ w'.cell? ⟨gv,1,none⟩ = some (.int .i64 (z1 : Int))) (fun _ => false) 22 (by rfl) (by kernel_rfl) ?_
     refine tKf 0 S0.out ?_
     refine tKf 1 S0.out ?_
     refine tKf 2 S0.out ?_
     refine tKf 3 S0.out ?_
     refine tKf 4 S0.out ?_
     refine tKf 5 S0.out ?_
     refine tKf 6 S0.out ?_
     refine tKf 7 S0.out ?_
     refine tKf 8 S0.out ?_
     refine tKf 9 S0.out ?_
     refine tKf 10 S0.out ?_
     refine sKf 11 ?_
     refine sKf 12 ?_
     refine sKf 13 ?_
     refine sKf 14 ?_
     refine sKf 15 ?_
     refine sKf 16 ?_
     refine sKf 17 ?_
     refine sKf 18 ?_
     refine sKf 19 ?_
     refine sKf 20 ?_
     refine tKf 21 S0.out ?_
     refine until_done (by kernel_rfl) ?_ _
     go_wp2_with fail
     exact bodyPost_ret (results_tmp2 rfl _ _ _) rfl ⟨⟨_,L,false,rfl,OY2.out,HLK.out,fun m hm => absurd hm (HN.out m),fun _ => rfl⟩,BY2.out.drew⟩
    have db0 : decide ((s.size : Int) < (z0 : Int)) = false := decide_eq_false hb0
    have db0n : decide (s.size < z0) = false := decide_eq_false (by omega)
    have nz0 : ¬ s.size < z0 := by omega
    have e20 : IntKind.i64.wrap ((s.size : Int) - (z0 : Int)) = (s.size : Int) - (z0 : Int) := by rw [IntKind.wrap_i64]; omega
    by_cases hb1 : (s.size : Int) - (z0 : Int) < (z1 : Int)
    ·have HN : Hid (∀ m,¬ GoodF s m) := HBig.out v n HR.out (.inr (by rw [HZ.out.1,HZ.out.2]; exact hb1))
     go_wp2_with fail
     refine wp_region_until (fun w' => w'.cell? ⟨gv,0,none⟩ = some (.int .i64 (z0 : Int)) ∧ w'.cell? ⟨gv,1,none⟩ = some (.int .i64 (z1 : Int))) (fun _ => false) 22 (by rfl) (by kernel_rfl) ?_
     refine tKf 0 S0.out ?_
     refine tKf 1 S0.out ?_
     refine tKf 2 S0.out ?_
     refine tKf 3 S0.out ?_
     refine tKf 4 S0.out ?_
     refine tKf 5 S0.out ?_
     refine tKf 6 S0.out ?_
     refine tKf 7 S0.out ?_
     refine tKf 8 S0.out ?_
     refine tKf 9 S0.out ?_
     refine tKf 10 S0.out ?_
     refine tKf 11 S0.out ?_
     refine tKf 12 S0.out ?_
     refine tKf 13 S0.out ?_
     refine tKf 14 S0.out ?_
     refine tKf 15 S0.out ?_
     refine tKf 16 S0.out ?_
     refine tKf 17 S0.out ?_
     refine tKf 18 S0.out ?_
     refine tKf 19 S0.out ?_
     refine tKf 20 S0.out ?_
     refine tKf 21 S0.out ?_
     refine until_done (by kernel_rfl) ?_ _
     go_wp2_with fail
     exact bodyPost_ret (results_tmp2 rfl _ _ _) rfl ⟨⟨_,L,false,rfl,OY2.out,HLK.out,fun m hm => absurd hm (HN.out m),fun _ => rfl⟩,BY2.out.drew⟩
    have db1 : decide ((s.size : Int) - (z0 : Int) < (z1 : Int)) = false := decide_eq_false hb1
    have q11 : (z0 : Int) + (z1 : Int) ≤ (s.size : Int) := by omega
    have i3 : ((z0 : Int) + (z1 : Int)).toNat = z0 + z1 := by omega
    have i4 : (0 : Int) ≤ (z0 : Int) + (z1 : Int) := by omega
    have i5 : (z0 : Int) ≤ (z0 : Int) + (z1 : Int) := by omega
    have e21 : IntKind.i64.wrap ((z0 : Int) + (z1 : Int)) = (z0 : Int) + (z1 : Int) := by rw [IntKind.wrap_i64]; omega
    clear hb0 hb1
    have S1 : Hid (Y2.drew.drew.cell? ⟨gv,0,none⟩ = some (.int .i64 (z0 : Int)) ∧ Y2.drew.drew.cell? ⟨gv,1,none⟩ = some (.int .i64 (z1 : Int))) := HSV.out
    have cb := specReadBlock (s.extract z0 (z0 + z1)) Y2.drew.drew (by rw [ByteArray.size_extract]; have := HS.out; omega)
    go_wp2_with fail
    refine wp_region_until (fun w' => w'.cell? ⟨gv,0,none⟩ = some (.int .i64 (z0 : Int)) ∧ w'.cell? ⟨gv,1,none⟩ = some (.int .i64 (z1 : Int))) (fun _ => false) 22 (by rfl) (by kernel_rfl) ?_
    refine tKf 0 S0.out ?_
    refine tKf 1 S0.out ?_
    refine tKf 2 S0.out ?_
    refine tKf 3 S0.out ?_
    refine tKf 4 S0.out ?_
    refine tKf 5 S0.out ?_
    refine tKf 6 S0.out ?_
    refine tKf 7 S0.out ?_
    refine tKf 8 S0.out ?_
    refine tKf 9 S0.out ?_
    refine tKf 10 S0.out ?_
    refine tKf 11 S0.out ?_
    refine tKf 12 S0.out ?_
    refine tKf 13 S0.out ?_
    refine tKf 14 S0.out ?_
    refine tKf 15 S0.out ?_
    refine tKf 16 S0.out ?_
    refine tKf 17 S0.out ?_
    refine tKf 18 S0.out ?_
    refine tKf 19 S0.out ?_
    refine tKf 20 S0.out ?_
    refine tKf 21 S0.out ?_
    refine until_done (by kernel_rfl) ?_ _
    go_wp2_with fail
    refine wp_region_until (fun w' => w'.cell? ⟨gv,0,none⟩ = some (.int .i64 (z0 : Int)) ∧ w'.cell? ⟨gv,1,none⟩ = some (.int .i64 (z1 : Int))) (fun _ => false) 18 (by rfl) (by kernel_rfl) ?_
    refine tKf 0 S1.out ?_
    refine tKf 1 S1.out ?_
    refine tKf 2 S1.out ?_
    refine tKf 3 S1.out ?_
    refine tKf 4 S1.out ?_
    refine tKf 5 S1.out ?_
    refine tKf 6 S1.out ?_
    refine tKf 7 S1.out ?_
    refine tKf 8 S1.out ?_
    refine tKf 9 S1.out ?_
    refine pUf 10 ?_
    refine pUf 11 ?_
    refine uNe 12 (fun K hK => ?_)
    go_simp
    refine cb.mono ?_
    rintro e Y3 ⟨⟨u3,q3,ok3,hR3,rfl,hO3⟩,hb3⟩
    have BY3 := hQz ((BY2.out.drew.drew).trans (hb3.mono BY2.out.size))
    have OY3 : Hid (SerO Y3 w.heap.size u4 L) := (OY2.out.on (Below.refl _ Y2).drew.drew).on hb3
    have SY3 : Hid (Y3.cell? ⟨gv,0,none⟩ = some (.int .i64 (z0 : Int)) ∧ Y3.cell? ⟨gv,1,none⟩ = some (.int .i64 (z1 : Int))) := ⟨(hb3.cell (p := ⟨gv,0,none⟩) HGV.out).trans HSV.out.1,(hb3.cell (p := ⟨gv,1,none⟩) HGV.out).trans HSV.out.2⟩
    have HBl : Hid (∀ m,GoodF s m → ok3 = true ∧ q3 = (sAt m k).pts) := HBlk.out v n z0 z1 q3 ok3 HR.out HZ.out.1 HZ.out.2 hR3
    have HNx : Hid (OnW s (k + 1) (p + kk + nn + n) (L.map Prod.fst ++ [⟨s.extract (p + kk) (p + kk + nn),q3⟩])) := HNext.out v n z0 z1 q3 ok3 HR.out HZ.out.1 HZ.out.2 hR3
    have HQ3 : Hid (q3.length ≤ 60) := hR3.len
    have UY3 := hQz (hO3.mono BY2.out.size)
    have AY3 : Hid (∀ q ∈ L,Apart q.2 u3) := fun q hq gg h1 h2 => by
     have := ((OY2.out.2.1 q hq).lt gg h1).2
     have := (hO3.lt gg h2).1
     have e : Y2.drew.drew.heap.size = Y2.heap.size := rfl
     omega
    clear hb3 hO3 hR3 cb
    go_wp2_with fail
    refine hK.out _ _ (fun _ _ => SY3.out) ?_
    clear hK K
    try simp only [Act.put,zQ1,zQ2,zQ3]
    refine pUf 13 ?_
    refine pUf 14 ?_
    refine pUf 15 ?_
    refine pUf 16 ?_
    refine pUf 17 ?_
    refine until_done (by kernel_rfl) ?_ _
    cases ok3 with
    | false =>
     have HN : Hid (∀ m,¬ GoodF s m) := fun m hm => by have := (HBl.out m hm).1; cases this
     go_wp2_with fail
     exact bodyPost_ret (results_tmp2 rfl _ _ _) rfl ⟨⟨_,L,false,rfl,OY3.out,HLK.out,fun m hm => absurd hm (HN.out m),fun _ => rfl⟩,BY3.out⟩
    | true =>
    obtain ⟨A3,n3,c3,rfl⟩ := UY3.out.shape
    have Z3 : w.heap.size ≤ Y3.heap.size := BY3.out.size
    have L3 : Hid ((srR L).length ≤ 2097152) := by unfold Hid; rw [srR_length,HLL.out]; omega
    generalize hkey : s.extract (p + kk) (p + kk + nn) = xk at *
    have HKs : Hid (xk.size ≤ s.size) := by unfold Hid; rw [← hkey,ByteArray.size_extract]; omega
    have hpc : ∀ y ∈ ([.string xk,.slice A3 n3 c3] : List Value),y.oneCell' = true := by intro y hy; simp only [List.mem_cons,List.not_mem_nil,or_false] at hy; rcases hy with rfl | rfl <;> rfl
    go_wp2_with (at_builtin; refine wpList_append_row (w := Y3) rfl (.tmp 124) (.tmp 128) 33 101 (.agg #[.string ⟨#[]⟩,.slice none 0 0]) 2 40 rfl Tryz.underlying33 Tryz.infoSr rfl (by omega) w.heap.size u4 (srR L) rfl OY3.out.1 [.string xk,.slice A3 n3 c3] rfl hpc rfl L3.out (by omega) Z3 ?_; intro v2 w4 hO4 hb4 hk4 hw4; refine Shut.out ?_)
    unfold Shut
    have hne4 : ∀ (v : Value) (b : Nat) (e : TypeId) (sz : Nat) (r : List (List Value)),Owns Y3 b e sz v r → e ≠ 101 → Owns w4 b e sz v r := fun v b e sz r ho hne => ho.kept fun gg hg hv => hk4 gg hg (fun hu => ho.apartT OY3.out.1 hne gg hv hu)
    have O4 : Hid (SerO w4 w.heap.size v2 (L ++ [(⟨xk,q3⟩,.slice A3 n3 c3)])) := SerO.snoc (w1 := Y3) (v := u4) hO4 (fun q hq => hne4 _ _ _ _ _ (OY3.out.2.1 q hq) (by decide)) OY3.out.2.2 (hne4 _ _ _ _ _ UY3.out (by decide)) AY3.out
    have B4 := hQz (BY3.out.trans hb4)
    have LK4 : Hid (LKey s (L ++ [(⟨xk,q3⟩,Value.slice A3 n3 c3)])) := HLK.out.snoc (by rw [HLL.out]; exact hk5) HQ3.out HKs.out
    have LL4 : Hid ((L ++ [((⟨xk,q3⟩ : Ser),Value.slice A3 n3 c3)]).length = k + 1) := by unfold Hid; rw [List.length_append,HLL.out]; rfl
    have HNm : Hid (OnW s (k + 1) (p + kk + nn + n) ((L ++ [((⟨xk,q3⟩ : Ser),Value.slice A3 n3 c3)]).map Prod.fst)) := by unfold Hid; rw [List.map_append]; exact HNx.out
    obtain ⟨A4,c4,e4,_⟩ := sr_look O4.out.lies.1
    rw [LL4.out] at e4
    subst e4
    clear hO4 hb4 hk4 hw4 hne4 hpc
    by_cases hk6 : (5 : Int) < ((k + 1 : Nat) : Int)
    ·have HN : Hid (∀ m,¬ GoodF s m) := fun m hm => by have := HK5.out m hm; omega
     go_wp2_with fail
     exact bodyPost_ret (results_tmp2 rfl _ _ _) rfl ⟨⟨_,_,false,rfl,O4.out,LK4.out,fun m hm => absurd hm (HN.out m),fun _ => rfl⟩,B4.out⟩
    have q12 : (k : Int) + 1 ≤ 5 := by omega
    have q13 : k + 1 ≤ 5 := by omega
    clear hk6
    have HM : Hid (((p + kk + nn + n : Nat) : Int) = (p : Int) + (kk : Int) + (nn : Int) + (n : Int)) := by unfold Hid; omega
    go_wp2_with fail
    go_roundw
    case rel => exact ⟨k + 1,p + kk + nn + n,_,LL4.out,by omega,by omega,by rw [HM.out],O4.out,LK4.out,HNm.out,B4.out⟩
    case measure => simp [intOf]; have := HP2.out; have := HPE.out; omega
   ·have HN := hQz (HNo4.out hno)
    go_wp2_with fail
    refine wp_region_until (fun _ => True) (fun _ => false) 22 (by rfl) (by kernel_rfl) ?_
    refine tKf 0 trivial ?_
    refine tKf 1 trivial ?_
    refine tKf 2 trivial ?_
    refine sKf 3 ?_
    refine sKf 4 ?_
    refine sKf 5 ?_
    refine sKf 6 ?_
    refine sKf 7 ?_
    refine sKf 8 ?_
    refine tKf 9 trivial ?_
    refine tKf 10 trivial ?_
    refine sKf 11 ?_
    refine sKf 12 ?_
    refine sKf 13 ?_
    refine sKf 14 ?_
    refine sKf 15 ?_
    refine sKf 16 ?_
    refine sKf 17 ?_
    refine sKf 18 ?_
    refine sKf 19 ?_
    refine sKf 20 ?_
    refine tKf 21 trivial ?_
    refine until_done (by kernel_rfl) ?_ _
    go_wp2_with fail
    exact bodyPost_ret (results_tmp2 rfl _ _ _) rfl ⟨⟨_,L,false,rfl,OY2.out,HLK.out,fun m hm => absurd hm (HN.out m),fun _ => rfl⟩,BY2.out.drew⟩
  ·have q5 : ¬ (p : Int) < (s.size : Int) - 8 := by omega
   have d5 : decide ((p : Int) < (s.size : Int) - 8) = false := decide_eq_false q5
   have HF : Hid (∀ m,GoodF s m → L.map Prod.fst = m) := HX.out.end hpe
   go_wp2_with fail
   refine bodyPost_ret (results_tmp2 rfl _ _ _) rfl ?_
   refine ⟨⟨_,L,true,rfl,HO.out,HLK.out,fun m hm => ⟨rfl,HF.out m hm⟩,fun h => absurd h H12.out⟩,HB1.out⟩
end Go.Proofs.YthhamlahdjokkaaGreatDoor
