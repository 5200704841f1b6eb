/- StS -/
import Derived.Test.YthhamlahdjokkaaGreatDoorQe13
import Derived.Deep.CutRange
open List (setIfInBounds_toArray set_cons_zero set_cons_succ)
namespace Go.Proofs.YthhamlahdjokkaaGreatDoor
open Go.ChangeShapes Go.WideShapes Go.ChangeAt Go.RowKit Go.PlainAid
set_option linter.unusedVariables false
set_option maxHeartbeats 400000 in
theorem specPast (n m : Int) (w : World) (h0 : -10 ≤ n) (h1 : n ≤ 10995116277) : Calls Tryz.prog 24 #[.int .i64 n,.int .i64 m] w fun e w' => e = .returned (.bool (decide ((n + 1) * 100 ≤ m))) ∧ w = w' := by
 have a1 : IntKind.i64.wrap (n + 1) = n + 1 := by rw [IntKind.wrap_i64]; omega
 have a2 : IntKind.i64.wrap ((n + 1) * 100) = (n + 1) * 100 := by rw [IntKind.wrap_i64]; omega
 have b1 : wrap64 (n + 1) = n + 1 := by unfold wrap64; omega
 have b2 : wrap64 ((n + 1) * 100) = (n + 1) * 100 := by unfold wrap64; omega
 clear h0 h1
 go_enter Tryz.func24,Tryz.ntmps24
 go_wp2
 go_ret
 exact ⟨rfl,rfl⟩
set_option maxHeartbeats 1000000 in
theorem specZero (f : Int) (Ac : Option Addr) (nc cc : Nat) (Af : Option Addr) (nf cf : Nat) (w : World) (h1 : nc ≤ 1048576) (h2 : nf ≤ 1048576) : Calls Tryz.prog 22 #[.agg #[.int .i64 f,.slice Ac nc cc,.slice Af nf cf]] w fun e w' => e = .returned (.bool (decide (f = 0) && decide (nc = 0) && decide (nf = 0))) ∧ Below w.heap.size w w' := by
 have HB : Hid (Below w.heap.size w (w.alloc (.cells #[.int .i64 f,.slice Ac nc cc,.slice Af nf cf] 35))) := below_a1 _ _
 have q2 : (nc : Int) ≤ 1048576 := by omega
 have q3 : (nf : Int) ≤ 1048576 := by omega
 clear h1 h2
 by_cases z1 : f = 0
 ·subst z1
  by_cases z2 : nc = 0
  ·have e2 : ((nc : Int) == 0) = true := by simp; omega
   by_cases z3 : nf = 0
   ·have e3 : ((nf : Int) == 0) = true := by simp; omega
    rw [decide_eq_true rfl,decide_eq_true z2,decide_eq_true z3]
    clear z2 z3
    go_enter Tryz.func22,Tryz.ntmps22
    go_wp2_with fail
    go_ret
    exact ⟨rfl,HB.out⟩
   ·have e3 : ((nf : Int) == 0) = false := by simp; omega
    rw [decide_eq_true rfl,decide_eq_true z2,decide_eq_false z3]
    clear z2 z3
    go_enter Tryz.func22,Tryz.ntmps22
    go_wp2_with fail
    go_ret
    exact ⟨rfl,HB.out⟩
  ·have e2 : ((nc : Int) == 0) = false := by simp; omega
   rw [decide_eq_true rfl,decide_eq_false z2]
   clear z2
   go_enter Tryz.func22,Tryz.ntmps22
   go_wp2_with fail
   go_ret
   exact ⟨rfl,HB.out⟩
 ·have e1 : (f == 0) = false := by simpa using z1
  rw [decide_eq_false z1]
  clear z1
  go_enter Tryz.func22,Tryz.ntmps22
  go_wp2_with fail
  go_ret
  exact ⟨rfl,HB.out⟩
set_option maxRecDepth 20000 in
set_option maxHeartbeats 8000000 in
theorem specStateOk (x : Sta) (v : Value) (w : World) (B : Nat) (hv : StaV w B v x) (hs : StShort x) (hB : B ≤ w.heap.size) :
  Calls Tryz.prog 7 #[v] w fun e w' => e = .returned (.bool (staOk x)) ∧ Below w.heap.size w w' := by
 obtain ⟨Ab,nb,cb,Ac,nc,cc,Af,nf,cf,As,ns,cs,rfl⟩ := hv.shape
 have HV : Hid (StaV w B (vSt x (.slice Ab nb cb) (.slice Ac nc cc) (.slice Af nf cf) (.slice As ns cs)) x) := hv
 obtain ⟨hb0,he0,hs0⟩ := hv.parts
 have HB : Hid (B ≤ w.heap.size) := hB
 have HS : Hid (StShort x) := hs
 have LB := hQz hb0
 have LE : Hid (EngV w B (.agg #[.int .i64 x.eng.floor,.slice Ac nc cc,.slice Af nf cf]) x.eng) := he0
 have LQ := hQz hs0
 have hnb : nb = x.bks.length := by have := hb0.room.1; rw [ptR_length] at this; exact this
 have hnc : nc = x.eng.cache.length ∧ nf = x.eng.files.length := by
  obtain ⟨vc',vf',e,h1,h2⟩ := he0
  unfold vE at e
  simp only [Value.agg.injEq,Array.mk.injEq,List.cons.injEq,true_and,and_true] at e
  obtain ⟨rfl,rfl⟩ := e
  obtain ⟨A1,c1,e1,_⟩ := h1.look
  obtain ⟨A2,c2,e2,_⟩ := st_look h2
  cases e1
  cases e2
  exact ⟨rfl,rfl⟩
 have hns : ns = x.ses.length := by have := hs0.room.1; rw [sesR_length] at this; exact this
 clear hv hb0 he0 hs0 hB hs
 have HN : Hid (nb = x.bks.length ∧ nb ≤ 1048576 ∧ nc ≤ 1048576 ∧ nf ≤ 1048576) := ⟨hnb,by rw [hnb]; exact HS.out.1,by rw [hnc.1]; exact HS.out.2.1.1.1,by rw [hnc.2]; exact HS.out.2.1.2.2.1⟩
 have HE : Hid (staOk x = (sesFrom 1 x.ses && (if x.kind = 1 then (inRg x.hold 0 100000 && inRg x.mark 0 1099511627776 && decide (nb ≤ 12) && (decide (x.eng.floor = 0) && decide (nc = 0) && decide (nf = 0)) && mokFrom x.mark 0 x.bks) else if x.kind = 2 then (decide (x.hold = 0) && decide (x.mark = 0) && decide (nb = 0) && decide (EOk x.eng)) else false))) := by
  unfold Hid staOk shardB metaB zeroB
  rw [mok_same,hnb,hnc.1,hnc.2]
  generalize bokFrom 0 x.bks = c1
  generalize firstB x.mark x.bks = c2
  generalize (decide (x.eng.floor = 0) && decide (x.eng.cache.length = 0) && decide (x.eng.files.length = 0)) = c3
  generalize (inRg x.hold 0 100000 && inRg x.mark 0 1099511627776 && decide (x.bks.length ≤ 12)) = c4
  have e : (c4 && c1 && c2 && c3) = (c4 && c3 && (c1 && c2)) := by cases c1 <;> cases c2 <;> cases c3 <;> cases c4 <;> rfl
  rw [e]
 have HMany : Hid (4 < ns → sesFrom 1 x.ses = false) := fun h => ses_many (by rw [← hns]; exact h)
 have HL : Hid (∀ wx,Below B w wx → ∀ j,j < ns → ∃ g off,As = some ⟨g,off,none⟩ ∧ g < B ∧ wx.cell? ⟨g,off + j * 6,none⟩ = some (.int .i64 (x.ses.getD j default).client) ∧ wx.cell? ⟨g,off + j * 6 + 1,none⟩ = some (.int .i64 (x.ses.getD j default).serial) ∧ wx.cell? ⟨g,off + j * 6 + 2,none⟩ = some (.int .i64 (x.ses.getD j default).code) ∧ wx.cell? ⟨g,off + j * 6 + 3,none⟩ = some (.int .i64 (x.ses.getD j default).index) ∧ wx.cell? ⟨g,off + j * 6 + 4,none⟩ = some (.int .i64 (x.ses.getD j default).mark) ∧ wx.cell? ⟨g,off + j * 6 + 5,none⟩ = some (.string (x.ses.getD j default).data)) := by
  intro wx hx j hj
  obtain ⟨A',c',e',hlk⟩ := ses_look (LQ.out.on hx)
  cases e'
  exact hlk j (by rw [← hns]; exact hj)
 have HLB : Hid (∀ wx,Below B w wx → ∀ j,j < nb → ∃ g off,Ab = some ⟨g,off,none⟩ ∧ g < B ∧ wx.cell? ⟨g,off + j * 2,none⟩ = some (.int .i64 (x.bks.getD j default).t) ∧ wx.cell? ⟨g,off + j * 2 + 1,none⟩ = some (.int .i64 (x.bks.getD j default).v)) := by
  intro wx hx j hj
  obtain ⟨A',c',e',hlk⟩ := pt_look (LB.out.on hx)
  cases e'
  exact hlk j (by rw [← hnb]; exact hj)
 have HDT : Hid (∀ k,k < ns → (x.ses.getD k default).data.size ≤ maxLen) := fun k hk => by have := HS.out.2.2.2 _ (getD_mem x.ses k (by rw [← hns]; exact hk)); unfold maxLen; omega
 have HDr : Hid (∀ k,k < ns → ∀ a,sesFrom a (x.ses.drop k) = _) := fun k h a => ses_drop x.ses k (by rw [← hns]; exact h) a
 have HDz : Hid (∀ a,sesFrom a (x.ses.drop ns) = true) := fun a => by rw [hns,List.drop_length]; rfl
 have HBr : Hid (∀ k,k < nb → ∀ a,mokFrom x.mark a (x.bks.drop k) = _) := fun k h a => mok_drop x.mark x.bks k (by rw [← hnb]; exact h) a
 have HBz : Hid (∀ a,mokFrom x.mark a (x.bks.drop nb) = true) := fun a => by rw [hnb,List.drop_length]; rfl
 have hns9 : ns ≤ 1048576 := by rw [hns]; exact HS.out.2.2.1
 clear hnb hnc hns
 obtain ⟨b0,hb0⟩ : ∃ b,sesFrom 1 x.ses = b := ⟨_,rfl⟩
 obtain ⟨b1,hb1⟩ : ∃ b,mokFrom x.mark 0 x.bks = b := ⟨_,rfl⟩
 rw [hb0] at HMany
 rw [hb0,hb1] at HE
 have HE0 : Hid (sesFrom 1 (x.ses.drop 0) = b0) := by unfold Hid; rw [List.drop_zero]; exact hb0
 have HE1 : Hid (mokFrom x.mark 0 (x.bks.drop 0) = b1) := by unfold Hid; rw [List.drop_zero]; exact hb1
 have LE2 := hQz (LE.out)
 unfold vSt
 obtain ⟨sk,hsk⟩ : ∃ sk,x.kind = sk := ⟨_,rfl⟩
 obtain ⟨sh,hsh⟩ : ∃ sh,x.hold = sh := ⟨_,rfl⟩
 obtain ⟨sm,hsm⟩ : ∃ sm,x.mark = sm := ⟨_,rfl⟩
 obtain ⟨sf,hsf⟩ : ∃ sf,x.eng.floor = sf := ⟨_,rfl⟩
 rw [hsk,hsh,hsm,hsf]
 rw [hsf] at LE LE2
 rw [hsk,hsh,hsm,hsf] at HE
 rw [hsm] at HBr HBz HE1
 clear hsk hsh hsm hsf hb0 hb1 HV LE LQ LB
 obtain ⟨n,hn0⟩ : ∃ n,ns = n := ⟨_,rfl⟩
 rw [hn0] at HMany HL HDT HDr HDz hns9 ⊢
 clear hn0
 obtain ⟨X0,hX0⟩ : ∃ X0,X0 = w.alloc (.cells #[.int .i64 sk,.int .i64 sh,.int .i64 sm,.slice Ab nb cb,.int .i64 sf,.slice Ac nc cc,.slice Af nf cf,.slice As n cs] 38) := ⟨_,rfl⟩
 have BX : Hid (Below w.heap.size w X0) := by unfold Hid; rw [hX0]; exact (Below.refl _ w).alloc (Nat.le_refl _) _
 have KX : Hid (Blk X0 w.heap.size #[.int .i64 sk,.int .i64 sh,.int .i64 sm,.slice Ab nb cb,.int .i64 sf,.slice Ac nc cc,.slice Af nf cf,.slice As n cs] 38) := by unfold Hid; rw [hX0]; exact Blk.new w _ _
 have k7 := KX.out.cell 7 _ rfl
 have q1 : (n : Int) ≤ 1048576 := by omega
 by_cases hm : 4 < n
 ·have H9 := hQz (HMany.out hm)
  have d4 : (4 : Int) < (n : Int) := by omega
  clear hm
  go_enter Tryz.func7,Tryz.ntmps7
  go_wp2_with fail
  rw [← hX0]
  go_ret
  exact ⟨by rw [HE.out,H9.out]; rfl,BX.out⟩
 have d4 : decide ((4 : Int) < (n : Int)) = false := decide_eq_false (by omega)
 have hn4 : n ≤ 4 := by omega
 clear hm
 go_enter Tryz.func7,Tryz.ntmps7
 go_wp2_with fail
 rw [← hX0]
 clear hX0 k7 d4
 go_loopw [3,4] (fun v3 v4 wr => ∃ (k : Nat) (a : Int),k ≤ n ∧ v3 = .int .i64 (k : Int) ∧ Hid ((1 ≤ a ∧ a ≤ 10 ∧ (k = 0 → a = 1)) ∧ (0 < k → a = (x.ses.getD (k - 1) default).client + 1) ∧ sesFrom a (x.ses.drop k) = b0) ∧ Blk wr w.heap.size #[.int .i64 sk,.int .i64 sh,.int .i64 sm,.slice Ab nb cb,.int .i64 sf,.slice Ac nc cc,.slice Af nf cf,.slice As n cs] 38 ∧ Below w.heap.size w wr) (fun i _ _ => n - (intOf i).toNat)
 case atStart => exact ⟨0,1,by omega,rfl,⟨by omega,fun h => by omega,HE0.out⟩,KX.out,BX.out⟩
 case round =>
  obtain ⟨k,a,hk,rfl,HA,hK1,hb⟩ := hrel
  have HB1 := hQz hb
  have K1 := hQz hK1
  have k7 := hK1.cell 7 _ rfl
  clear hb hK1
  by_cases hlt : k < n
  ·have q4 : (k : Int) < (n : Int) := by omega
   obtain ⟨g,off,rfl,hg,ha0,ha1,ha2,ha3,ha4,ha5⟩ := HL.out wr (HB1.out.mono HB.out) k hlt
   have hgw : g < w.heap.size := Nat.lt_of_lt_of_le hg HB.out
   have hdd := HDT.out k hlt
   have hd := HDr.out k hlt a
   rw [HA.out.2.2] at hd
   have HLC : Hid ((x.ses.getD k default).client = (x.ses.getD k default).client) := rfl
   generalize hz : x.ses.getD k default = z at *
   obtain ⟨xc,xs,xo,xi,xm,xd⟩ := z
   have HLD : Hid ((x.ses.getD k default).client = xc) := by unfold Hid; rw [hz]
   clear hz
   simp only [Ses.ans] at ha0 ha1 ha2 ha3 ha4 ha5 hd hdd
   have cA := fun wx => specAnswerOk ⟨xo,xi,xm,xd⟩ wx hdd
   unfold vAns at cA
   simp only at cA
   have H0 : Hid (b0 = _) := hd
   have hsz := HB1.out.size
   obtain ⟨X,hX⟩ : ∃ X,X = wr.alloc (.cells #[.int .i64 xc,.int .i64 xs,.int .i64 xo,.int .i64 xi,.int .i64 xm,.string xd] 53) := ⟨_,rfl⟩
   have BD : Hid (Below w.heap.size w X.drew) := by rw [hX]; exact (HB1.out.alloc hsz _).drew
   have KP : Hid (Blk X.drew wr.heap.size #[.int .i64 xc,.int .i64 xs,.int .i64 xo,.int .i64 xi,.int .i64 xm,.string xd] 53) := by unfold Hid; rw [hX]; exact Blk.new wr _ _
   have KD : Hid (Blk X.drew w.heap.size #[.int .i64 sk,.int .i64 sh,.int .i64 sm,.slice Ab nb cb,.int .i64 sf,.slice Ac nc cc,.slice Af nf cf,.slice (some ⟨g,off,none⟩) n cs] 38) := by unfold Hid; rw [hX]; exact K1.out.alloc _
   obtain ⟨p,hp⟩ : ∃ p,p = wr.heap.size := ⟨_,rfl⟩
   rw [← hp] at KP
   have S0 : Hid (X.drew.cell? ⟨p,0,none⟩ = some (.int .i64 xc) ∧ X.drew.cell? ⟨p,1,none⟩ = some (.int .i64 xs) ∧ X.drew.cell? ⟨p,2,none⟩ = some (.int .i64 xo) ∧ X.drew.cell? ⟨p,3,none⟩ = some (.int .i64 xi) ∧ X.drew.cell? ⟨p,4,none⟩ = some (.int .i64 xm) ∧ X.drew.cell? ⟨p,5,none⟩ = some (.string xd)) := ⟨KP.out.cell 0 _ rfl,KP.out.cell 1 _ rfl,KP.out.cell 2 _ rfl,KP.out.cell 3 _ rfl,KP.out.cell 4 _ rfl,KP.out.cell 5 _ rfl⟩
   have cC := fun wx => inS xc 1 4 wx
   have cS := fun wx => inS xs 1 1000000 wx
   have hA := HA.out.1
   clear hd hsz hdd
   go_wp2_with fail
   rw [← hX,← hp]
   clear hX hp ha0 ha1 ha2 ha3 ha4 ha5 k7
   cases hc : inRg xc 1 4 <;> rw [hc] at cC
   ·have H9 : Hid (b0 = false) := by
     unfold Hid
     rw [H0.out,inRg_false.2 (by have := inRg_false.1 hc; omega)]
     rfl
    clear hA
    refine wp_region_until (fun w' => w'.cell? ⟨p,0,none⟩ = some (.int .i64 xc) ∧ w'.cell? ⟨p,1,none⟩ = some (.int .i64 xs) ∧ w'.cell? ⟨p,2,none⟩ = some (.int .i64 xo) ∧ w'.cell? ⟨p,3,none⟩ = some (.int .i64 xi) ∧ w'.cell? ⟨p,4,none⟩ = some (.int .i64 xm) ∧ w'.cell? ⟨p,5,none⟩ = some (.string xd)) (fun _ => false) 32 (by rfl) (by kernel_rfl) ?_
    refine tKf 0 S0.out ?_
    refine tKf 1 S0.out ?_
    refine uNe 2 (fun K hK => ?_)
    go_simp
    refine (cC _).mono ?_
    rintro e w' ⟨rfl,rfl⟩
    go_wp2_with fail
    refine hK.out _ _ (fun _ h => h) ?_
    clear hK K
    try simp only [Act.put,zQ1,zQ2,zQ3]
    refine tKf 3 S0.out ?_
    refine tKf 4 S0.out ?_
    refine sKf 5 ?_
    refine sKf 6 ?_
    refine sKf 7 ?_
    refine sKf 8 ?_
    refine sKf 9 ?_
    refine sKf 10 ?_
    refine sKf 11 ?_
    refine sKf 12 ?_
    refine sKf 13 ?_
    refine sKf 14 ?_
    refine sKf 15 ?_
    refine sKf 16 ?_
    refine sKf 17 ?_
    refine sKf 18 ?_
    refine tKf 19 S0.out ?_
    refine tKf 20 S0.out ?_
    refine sKf 21 ?_
    refine sKf 22 ?_
    refine sKf 23 ?_
    refine sKf 24 ?_
    refine tKf 25 S0.out ?_
    refine tKf 26 S0.out ?_
    refine sKf 27 ?_
    refine sKf 28 ?_
    refine sKf 29 ?_
    refine sKf 30 ?_
    refine tKf 31 S0.out ?_
    refine until_done (by kernel_rfl) ?_ _
    go_wp2_with fail
    go_ret
    exact ⟨by rw [HE.out,H9.out]; rfl,BD.out⟩
   have HX1 : Hid (1 ≤ xc ∧ xc ≤ 4) := inRg_true.1 hc
   by_cases hk0 : k = 0
   ·have d0 : decide ((0 : Int) < (k : Int)) = false := decide_eq_false (by omega)
    have d1 : decide (0 < k) = false := decide_eq_false (by omega)
    have ha1 : inRg xc a 4 = true := by
     have e1 := HX1.out
     exact inRg_true.2 (by have := hA.2.2 hk0; omega)
    rw [ha1] at H0
    clear hk0 hA ha1
    cases hc2 : inRg xs 1 1000000 <;> rw [hc2] at cS H0
    ·have H9 : Hid (b0 = false) := by unfold Hid; rw [H0.out]; rfl
     refine wp_region_until (fun w' => w'.cell? ⟨p,0,none⟩ = some (.int .i64 xc) ∧ w'.cell? ⟨p,1,none⟩ = some (.int .i64 xs) ∧ w'.cell? ⟨p,2,none⟩ = some (.int .i64 xo) ∧ w'.cell? ⟨p,3,none⟩ = some (.int .i64 xi) ∧ w'.cell? ⟨p,4,none⟩ = some (.int .i64 xm) ∧ w'.cell? ⟨p,5,none⟩ = some (.string xd)) (fun _ => false) 32 (by rfl) (by kernel_rfl) ?_
     refine tKf 0 S0.out ?_
     refine tKf 1 S0.out ?_
     refine uNe 2 (fun K hK => ?_)
     go_simp
     refine (cC _).mono ?_
     rintro e w' ⟨rfl,rfl⟩
     go_wp2_with fail
     refine hK.out _ _ (fun _ h => h) ?_
     clear hK K
     try simp only [Act.put,zQ1,zQ2,zQ3]
     refine tKf 3 S0.out ?_
     refine tKf 4 S0.out ?_
     refine tKf 5 S0.out ?_
     refine tKf 6 S0.out ?_
     refine tKf 7 S0.out ?_
     refine sKf 8 ?_
     refine sKf 9 ?_
     refine sKf 10 ?_
     refine sKf 11 ?_
     refine sKf 12 ?_
     refine sKf 13 ?_
     refine sKf 14 ?_
     refine sKf 15 ?_
     refine sKf 16 ?_
     refine sKf 17 ?_
     refine tKf 18 S0.out ?_
     refine tKf 19 S0.out ?_
     refine tKf 20 S0.out ?_
     refine tKf 21 S0.out ?_
     refine tKf 22 S0.out ?_
     refine uNe 23 (fun K hK => ?_)
     go_simp
     refine (cS _).mono ?_
     rintro e w' ⟨rfl,rfl⟩
     go_wp2_with fail
     refine hK.out _ _ (fun _ h => h) ?_
     clear hK K
     try simp only [Act.put,zQ1,zQ2,zQ3]
     refine tKf 24 S0.out ?_
     refine tKf 25 S0.out ?_
     refine tKf 26 S0.out ?_
     refine sKf 27 ?_
     refine sKf 28 ?_
     refine sKf 29 ?_
     refine sKf 30 ?_
     refine tKf 31 S0.out ?_
     refine until_done (by kernel_rfl) ?_ _
     go_wp2_with fail
     go_ret
     exact ⟨by rw [HE.out,H9.out]; rfl,BD.out⟩
    ·skip
     refine wp_region_until (fun w' => w'.cell? ⟨p,0,none⟩ = some (.int .i64 xc) ∧ w'.cell? ⟨p,1,none⟩ = some (.int .i64 xs) ∧ w'.cell? ⟨p,2,none⟩ = some (.int .i64 xo) ∧ w'.cell? ⟨p,3,none⟩ = some (.int .i64 xi) ∧ w'.cell? ⟨p,4,none⟩ = some (.int .i64 xm) ∧ w'.cell? ⟨p,5,none⟩ = some (.string xd)) (fun i => i == 29 || i == 30 || i == 31) 32 (by rfl) (by kernel_rfl) ?_
     refine tKf 0 S0.out ?_
     refine tKf 1 S0.out ?_
     refine uNe 2 (fun K hK => ?_)
     go_simp
     refine (cC _).mono ?_
     rintro e w' ⟨rfl,rfl⟩
     go_wp2_with fail
     refine hK.out _ _ (fun _ h => h) ?_
     clear hK K
     try simp only [Act.put,zQ1,zQ2,zQ3]
     refine tKf 3 S0.out ?_
     refine tKf 4 S0.out ?_
     refine tKf 5 S0.out ?_
     refine tKf 6 S0.out ?_
     refine tKf 7 S0.out ?_
     refine sKf 8 ?_
     refine sKf 9 ?_
     refine sKf 10 ?_
     refine sKf 11 ?_
     refine sKf 12 ?_
     refine sKf 13 ?_
     refine sKf 14 ?_
     refine sKf 15 ?_
     refine sKf 16 ?_
     refine sKf 17 ?_
     refine tKf 18 S0.out ?_
     refine tKf 19 S0.out ?_
     refine tKf 20 S0.out ?_
     refine tKf 21 S0.out ?_
     refine tKf 22 S0.out ?_
     refine uNe 23 (fun K hK => ?_)
     go_simp
     refine (cS _).mono ?_
     rintro e w' ⟨rfl,rfl⟩
     go_wp2_with fail
     refine hK.out _ _ (fun _ h => h) ?_
     clear hK K
     try simp only [Act.put,zQ1,zQ2,zQ3]
     refine tKf 24 S0.out ?_
     refine tKf 25 S0.out ?_
     refine tKf 26 S0.out ?_
     refine tKf 27 S0.out ?_
     refine tKf 28 S0.out ?_
     refine uNe 29 (fun K hK => ?_)
     go_simp
     refine (cA _).mono ?_
     rintro e X2 ⟨rfl,hb2⟩
     have B2 := hQz (BD.out.trans (hb2.mono BD.out.size))
     have K2 := hQz (KD.out.on hb2 KD.out.lt)
     clear hb2
     generalize ansOk ⟨xo,xi,xm,xd⟩ = ba at *
     go_wp2_with fail
     refine hK.out _ _ (fun h => by cases h) ?_
     clear hK K
     try simp only [Act.put,zQ1,zQ2,zQ3]
     refine pUf 30 ?_
     refine pUf 31 ?_
     refine until_done (by kernel_rfl) ?_ _
     cases ba
     ·have H9 : Hid (b0 = false) := by unfold Hid; rw [H0.out]; simp
      go_wp2_with fail
      go_ret
      exact ⟨by rw [HE.out,H9.out]; rfl,B2.out⟩
     ·go_wp2_with fail
      go_roundw
      case rel => exact ⟨k + 1,xc + 1,by omega,by go_num,⟨by have := HX1.out; omega,fun _ => by have := HLD.out; simp only [Nat.add_sub_cancel]; rw [this],by rw [H0.out]; rfl⟩,K2.out,B2.out⟩
      case measure => simp [intOf]; omega
   have q5 : (0 : Int) < (k : Int) := by omega
   have q6 : decide (0 < k) = true := decide_eq_true (by omega)
   have q7 : 0 < k := by omega
   have e3 : ((k : Int) - 1).toNat = k - 1 := by omega
   have e9 : IntKind.i64.wrap ((k : Int) - 1) = (k : Int) - 1 := by rw [IntKind.wrap_i64]; omega
   have e4 : (1 : Int) ≤ (k : Int) := by omega
   have e5 : (k : Int) - 1 < (n : Int) := by omega
   obtain ⟨g',off',eg,_,hz0,_⟩ := HL.out X.drew (BD.out.mono HB.out) (k - 1) (by omega)
   cases eg
   have hprev := HA.out.2.1 q7
   generalize (x.ses.getD (k - 1) default).client = zc at *
   subst hprev
   have S1 : Hid ((X.drew.cell? ⟨p,0,none⟩ = some (.int .i64 xc) ∧ X.drew.cell? ⟨p,1,none⟩ = some (.int .i64 xs) ∧ X.drew.cell? ⟨p,2,none⟩ = some (.int .i64 xo) ∧ X.drew.cell? ⟨p,3,none⟩ = some (.int .i64 xi) ∧ X.drew.cell? ⟨p,4,none⟩ = some (.int .i64 xm) ∧ X.drew.cell? ⟨p,5,none⟩ = some (.string xd)) ∧ X.drew.cell? ⟨w.heap.size,7,none⟩ = some (.slice (some ⟨g,off,none⟩) n cs) ∧ X.drew.cell? ⟨g,off + (k - 1) * 6,none⟩ = some (.int .i64 zc)) := ⟨S0.out,KD.out.cell 7 _ rfl,hz0⟩
   clear hz0 hk0
   by_cases cz : xc ≤ zc
   ·have H9 : Hid (b0 = false) := by
     unfold Hid
     rw [H0.out,inRg_false.2 (by omega)]
     rfl
    clear hA
    refine wp_region_until (fun w' => (w'.cell? ⟨p,0,none⟩ = some (.int .i64 xc) ∧ w'.cell? ⟨p,1,none⟩ = some (.int .i64 xs) ∧ w'.cell? ⟨p,2,none⟩ = some (.int .i64 xo) ∧ w'.cell? ⟨p,3,none⟩ = some (.int .i64 xi) ∧ w'.cell? ⟨p,4,none⟩ = some (.int .i64 xm) ∧ w'.cell? ⟨p,5,none⟩ = some (.string xd)) ∧ w'.cell? ⟨w.heap.size,7,none⟩ = some (.slice (some ⟨g,off,none⟩) n cs) ∧ w'.cell? ⟨g,off + (k - 1) * 6,none⟩ = some (.int .i64 zc)) (fun _ => false) 32 (by rfl) (by kernel_rfl) ?_
    refine tKf 0 S1.out ?_
    refine tKf 1 S1.out ?_
    refine uNe 2 (fun K hK => ?_)
    go_simp
    refine (cC _).mono ?_
    rintro e w' ⟨rfl,rfl⟩
    go_wp2_with fail
    refine hK.out _ _ (fun _ h => h) ?_
    clear hK K
    try simp only [Act.put,zQ1,zQ2,zQ3]
    refine tKf 3 S1.out ?_
    refine tKf 4 S1.out ?_
    refine tKf 5 S1.out ?_
    refine tKf 6 S1.out ?_
    refine tKf 7 S1.out ?_
    refine tKf 8 S1.out ?_
    refine tKf 9 S1.out ?_
    refine tKf 10 S1.out ?_
    refine tKe 11 (v := .int .i64 ((k : Int) - 1)) S1.out ?_ ?_
    ·intro w hSw
     try dsimp only at hSw
     go_simp
     try rw [e9]
    try simp only [Act.put,zQ1,zQ2,zQ3]
    refine tKf 12 S1.out ?_
    refine tKf 13 S1.out ?_
    refine tKf 14 S1.out ?_
    refine tKf 15 S1.out ?_
    refine tKf 16 S1.out ?_
    refine tKf 17 S1.out ?_
    refine tKf 18 S1.out ?_
    refine tKf 19 S1.out ?_
    refine tKf 20 S1.out ?_
    refine sKf 21 ?_
    refine sKf 22 ?_
    refine sKf 23 ?_
    refine sKf 24 ?_
    refine tKf 25 S1.out ?_
    refine tKf 26 S1.out ?_
    refine sKf 27 ?_
    refine sKf 28 ?_
    refine sKf 29 ?_
    refine sKf 30 ?_
    refine tKf 31 S1.out ?_
    refine until_done (by kernel_rfl) ?_ _
    go_wp2_with fail
    go_ret
    exact ⟨by rw [HE.out,H9.out]; rfl,BD.out⟩
   have dz : decide (xc ≤ zc) = false := decide_eq_false cz
   have ha1 : inRg xc (zc + 1) 4 = true := inRg_true.2 (by have := HX1.out; omega)
   rw [ha1] at H0
   clear hA ha1 cz
   cases hc2 : inRg xs 1 1000000 <;> rw [hc2] at cS H0
   ·have H9 : Hid (b0 = false) := by unfold Hid; rw [H0.out]; rfl
    refine wp_region_until (fun w' => (w'.cell? ⟨p,0,none⟩ = some (.int .i64 xc) ∧ w'.cell? ⟨p,1,none⟩ = some (.int .i64 xs) ∧ w'.cell? ⟨p,2,none⟩ = some (.int .i64 xo) ∧ w'.cell? ⟨p,3,none⟩ = some (.int .i64 xi) ∧ w'.cell? ⟨p,4,none⟩ = some (.int .i64 xm) ∧ w'.cell? ⟨p,5,none⟩ = some (.string xd)) ∧ w'.cell? ⟨w.heap.size,7,none⟩ = some (.slice (some ⟨g,off,none⟩) n cs) ∧ w'.cell? ⟨g,off + (k - 1) * 6,none⟩ = some (.int .i64 zc)) (fun _ => false) 32 (by rfl) (by kernel_rfl) ?_
    refine tKf 0 S1.out ?_
    refine tKf 1 S1.out ?_
    refine uNe 2 (fun K hK => ?_)
    go_simp
    refine (cC _).mono ?_
    rintro e w' ⟨rfl,rfl⟩
    go_wp2_with fail
    refine hK.out _ _ (fun _ h => h) ?_
    clear hK K
    try simp only [Act.put,zQ1,zQ2,zQ3]
    refine tKf 3 S1.out ?_
    refine tKf 4 S1.out ?_
    refine tKf 5 S1.out ?_
    refine tKf 6 S1.out ?_
    refine tKf 7 S1.out ?_
    refine tKf 8 S1.out ?_
    refine tKf 9 S1.out ?_
    refine tKf 10 S1.out ?_
    refine tKe 11 (v := .int .i64 ((k : Int) - 1)) S1.out ?_ ?_
    ·intro w hSw
     try dsimp only at hSw
     go_simp
     try rw [e9]
    try simp only [Act.put,zQ1,zQ2,zQ3]
    refine tKf 12 S1.out ?_
    refine tKf 13 S1.out ?_
    refine tKf 14 S1.out ?_
    refine tKf 15 S1.out ?_
    refine tKf 16 S1.out ?_
    refine tKf 17 S1.out ?_
    refine tKf 18 S1.out ?_
    refine tKf 19 S1.out ?_
    refine tKf 20 S1.out ?_
    refine tKf 21 S1.out ?_
    refine tKf 22 S1.out ?_
    refine uNe 23 (fun K hK => ?_)
    go_simp
    refine (cS _).mono ?_
    rintro e w' ⟨rfl,rfl⟩
    go_wp2_with fail
    refine hK.out _ _ (fun _ h => h) ?_
    clear hK K
    try simp only [Act.put,zQ1,zQ2,zQ3]
    refine tKf 24 S1.out ?_
    refine tKf 25 S1.out ?_
    refine tKf 26 S1.out ?_
    refine sKf 27 ?_
    refine sKf 28 ?_
    refine sKf 29 ?_
    refine sKf 30 ?_
    refine tKf 31 S1.out ?_
    refine until_done (by kernel_rfl) ?_ _
    go_wp2_with fail
    go_ret
    exact ⟨by rw [HE.out,H9.out]; rfl,BD.out⟩
   ·skip
    refine wp_region_until (fun w' => (w'.cell? ⟨p,0,none⟩ = some (.int .i64 xc) ∧ w'.cell? ⟨p,1,none⟩ = some (.int .i64 xs) ∧ w'.cell? ⟨p,2,none⟩ = some (.int .i64 xo) ∧ w'.cell? ⟨p,3,none⟩ = some (.int .i64 xi) ∧ w'.cell? ⟨p,4,none⟩ = some (.int .i64 xm) ∧ w'.cell? ⟨p,5,none⟩ = some (.string xd)) ∧ w'.cell? ⟨w.heap.size,7,none⟩ = some (.slice (some ⟨g,off,none⟩) n cs) ∧ w'.cell? ⟨g,off + (k - 1) * 6,none⟩ = some (.int .i64 zc)) (fun i => i == 29 || i == 30 || i == 31) 32 (by rfl) (by kernel_rfl) ?_
    refine tKf 0 S1.out ?_
    refine tKf 1 S1.out ?_
    refine uNe 2 (fun K hK => ?_)
    go_simp
    refine (cC _).mono ?_
    rintro e w' ⟨rfl,rfl⟩
    go_wp2_with fail
    refine hK.out _ _ (fun _ h => h) ?_
    clear hK K
    try simp only [Act.put,zQ1,zQ2,zQ3]
    refine tKf 3 S1.out ?_
    refine tKf 4 S1.out ?_
    refine tKf 5 S1.out ?_
    refine tKf 6 S1.out ?_
    refine tKf 7 S1.out ?_
    refine tKf 8 S1.out ?_
    refine tKf 9 S1.out ?_
    refine tKf 10 S1.out ?_
    refine tKe 11 (v := .int .i64 ((k : Int) - 1)) S1.out ?_ ?_
    ·intro w hSw
     try dsimp only at hSw
     go_simp
     try rw [e9]
    try simp only [Act.put,zQ1,zQ2,zQ3]
    refine tKf 12 S1.out ?_
    refine tKf 13 S1.out ?_
    refine tKf 14 S1.out ?_
    refine tKf 15 S1.out ?_
    refine tKf 16 S1.out ?_
    refine tKf 17 S1.out ?_
    refine tKf 18 S1.out ?_
    refine tKf 19 S1.out ?_
    refine tKf 20 S1.out ?_
    refine tKf 21 S1.out ?_
    refine tKf 22 S1.out ?_
    refine uNe 23 (fun K hK => ?_)
    go_simp
    refine (cS _).mono ?_
    rintro e w' ⟨rfl,rfl⟩
    go_wp2_with fail
    refine hK.out _ _ (fun _ h => h) ?_
    clear hK K
    try simp only [Act.put,zQ1,zQ2,zQ3]
    refine tKf 24 S1.out ?_
    refine tKf 25 S1.out ?_
    refine tKf 26 S1.out ?_
    refine tKf 27 S1.out ?_
    refine tKf 28 S1.out ?_
    refine uNe 29 (fun K hK => ?_)
    go_simp
    refine (cA _).mono ?_
    rintro e X2 ⟨rfl,hb2⟩
    have B2 := hQz (BD.out.trans (hb2.mono BD.out.size))
    have K2 := hQz (KD.out.on hb2 KD.out.lt)
    clear hb2
    generalize ansOk ⟨xo,xi,xm,xd⟩ = ba at *
    go_wp2_with fail
    refine hK.out _ _ (fun h => by cases h) ?_
    clear hK K
    try simp only [Act.put,zQ1,zQ2,zQ3]
    refine pUf 30 ?_
    refine pUf 31 ?_
    refine until_done (by kernel_rfl) ?_ _
    cases ba
    ·have H9 : Hid (b0 = false) := by unfold Hid; rw [H0.out]; simp
     go_wp2_with fail
     go_ret
     exact ⟨by rw [HE.out,H9.out]; rfl,B2.out⟩
    ·go_wp2_with fail
     go_roundw
     case rel => exact ⟨k + 1,xc + 1,by omega,by go_num,⟨by have := HX1.out; omega,fun _ => by have := HLD.out; simp only [Nat.add_sub_cancel]; rw [this],by rw [H0.out]; rfl⟩,K2.out,B2.out⟩
     case measure => simp [intOf]; omega
  ·obtain rfl : n = k := by omega
   have hz := HA.out.2.2
   rw [HDz.out] at hz
   subst hz
   have HK7 := k7
   clear k7
   have hn9 := HN.out
   have p1 : (nb : Int) ≤ 1048576 := by omega
   have k0 := K1.out.cell 0 _ rfl
   have k1 := K1.out.cell 1 _ rfl
   have k2 := K1.out.cell 2 _ rfl
   have k3 := K1.out.cell 3 _ rfl
   have k4 := K1.out.cell 4 _ rfl
   have k5 := K1.out.cell 5 _ rfl
   have k6 := K1.out.cell 6 _ rfl
   clear HL HMany HDT HDr HDz HE0 HA KX BX
   by_cases g1 : sk = 1
   ·subst g1
    rw [if_pos rfl] at HE
    have cH := fun wx => inS sh 0 100000 wx
    have cM := fun wx => inS sm 0 1099511627776 wx
    have cZ := fun wx => specZero sf Ac nc cc Af nf cf wx (by omega) (by omega)
    clear hn9
    cases h1 : inRg sh 0 100000 <;> rw [h1] at cH HE
    ·go_wp2_with fail
     refine (cH _).mono ?_
     rintro e w' ⟨rfl,rfl⟩
     go_wp2_with fail
     go_ret
     exact ⟨by rw [HE.out]; rfl,HB1.out⟩
    cases h2 : inRg sm 0 1099511627776 <;> rw [h2] at cM HE
    ·go_wp2_with fail
     refine (cH _).mono ?_
     rintro e w' ⟨rfl,rfl⟩
     go_wp2_with fail
     refine (cM _).mono ?_
     rintro e w' ⟨rfl,rfl⟩
     go_wp2_with fail
     go_ret
     exact ⟨by rw [HE.out]; rfl,HB1.out⟩
    rcases Nat.lt_or_ge 12 nb with h3 | h3
    ·rw [show decide (nb ≤ 12) = false from decide_eq_false (by omega)] at HE
     have d3 : (12 : Int) < (nb : Int) := by omega
     clear h3
     go_wp2_with fail
     refine (cH _).mono ?_
     rintro e w' ⟨rfl,rfl⟩
     go_wp2_with fail
     refine (cM _).mono ?_
     rintro e w' ⟨rfl,rfl⟩
     go_wp2_with fail
     go_ret
     exact ⟨by rw [HE.out]; rfl,HB1.out⟩
    rw [decide_eq_true h3] at HE
    have d3 : decide ((12 : Int) < (nb : Int)) = false := decide_eq_false (by omega)
    have HSM : Hid (0 ≤ sm ∧ sm ≤ 1099511627776) := inRg_true.1 h2
    clear h1 h2
    go_wp2_with fail
    refine (cH _).mono ?_
    rintro e w' ⟨rfl,rfl⟩
    go_wp2_with fail
    refine (cM _).mono ?_
    rintro e w' ⟨rfl,rfl⟩
    go_wp2_with fail
    refine (cZ _).mono ?_
    rintro e X3 ⟨rfl,hb3⟩
    have B3 := hQz (HB1.out.trans (hb3.mono HB1.out.size))
    have K3 := hQz (K1.out.on hb3 K1.out.lt)
    clear hb3 cZ cH cM k0 k1 k2 k3 k4 k5 k6 d3
    generalize (decide (sf = 0) && decide (nc = 0) && decide (nf = 0)) = bz at *
    cases bz
    ·go_wp2_with fail
     go_ret
     exact ⟨by rw [HE.out]; rfl,B3.out⟩
    go_wp2_with fail
    go_loopw [5,6] (fun v5 v6 wr => ∃ (k : Nat) (a : Int),k ≤ nb ∧ v5 = .int .i64 (k : Int) ∧ Hid ((0 ≤ a ∧ a ≤ 10995116278 ∧ (k = 0 → a = 0)) ∧ (0 < k → a = (x.bks.getD (k - 1) default).t + 1) ∧ mokFrom sm a (x.bks.drop k) = b1) ∧ Blk wr w.heap.size #[.int .i64 1,.int .i64 sh,.int .i64 sm,.slice Ab nb cb,.int .i64 sf,.slice Ac nc cc,.slice Af nf cf,.slice As n cs] 38 ∧ Below w.heap.size w wr) (fun i _ _ => nb - (intOf i).toNat)
    case atStart => exact ⟨0,0,by omega,rfl,⟨by omega,fun h => by omega,HE1.out⟩,K3.out,B3.out⟩
    case round =>
     clear HB1 K1 B3 K3
     obtain ⟨k,a,hk,rfl,HA,hK1,hb⟩ := hrel
     have HB1 := hQz hb
     have K1 := hQz hK1
     have k3 := hK1.cell 3 _ rfl
     clear hb hK1
     by_cases hlt : k < nb
     ·have q4 : (k : Int) < (nb : Int) := by omega
      obtain ⟨g,off,rfl,hg,ha0,ha1⟩ := HLB.out wr (HB1.out.mono HB.out) k hlt
      have hd := HBr.out k hlt a
      rw [HA.out.2.2] at hd
      have HLC : Hid ((x.bks.getD k default).t = (x.bks.getD k default).t) := rfl
      generalize hxt : (x.bks.getD k default).t = xt at *
      generalize (x.bks.getD k default).v = xv at *
      have HLD : Hid ((x.bks.getD k default).t = xt) := hxt
      clear hxt
      have H0 : Hid (b1 = _) := hd
      have hsz := HB1.out.size
      obtain ⟨X,hX⟩ : ∃ X,X = wr.alloc (.cells #[.int .i64 xt,.int .i64 xv] 58) := ⟨_,rfl⟩
      have BD : Hid (Below w.heap.size w X.drew) := by rw [hX]; exact (HB1.out.alloc hsz _).drew
      have KP : Hid (Blk X.drew wr.heap.size #[.int .i64 xt,.int .i64 xv] 58) := by unfold Hid; rw [hX]; exact Blk.new wr _ _
      have KD : Hid (Blk X.drew w.heap.size #[.int .i64 1,.int .i64 sh,.int .i64 sm,.slice (some ⟨g,off,none⟩) nb cb,.int .i64 sf,.slice Ac nc cc,.slice Af nf cf,.slice As n cs] 38) := by unfold Hid; rw [hX]; exact K1.out.alloc _
      obtain ⟨p,hp⟩ : ∃ p,p = wr.heap.size := ⟨_,rfl⟩
      rw [← hp] at KP
      have S0 : Hid (X.drew.cell? ⟨p,0,none⟩ = some (.int .i64 xt) ∧ X.drew.cell? ⟨p,1,none⟩ = some (.int .i64 xv) ∧ X.drew.cell? ⟨w.heap.size,2,none⟩ = some (.int .i64 sm)) := ⟨KP.out.cell 0 _ rfl,KP.out.cell 1 _ rfl,KD.out.cell 2 _ rfl⟩
      have cB := fun wx => specBucket 1099511627776 wx
      rw [show bkt 1099511627776 = 10995116277 from by rw [bkt_in (by omega) (by omega)]; rfl] at cB
      have cN := fun wx => inS xt 0 10995116277 wx
      have cV := fun wx => inS xv 0 1 wx
      have hA := HA.out.1
      clear hd hsz
      go_wp2_with fail
      rw [← hX,← hp]
      clear hX hp ha0 ha1 k3
      cases hc : inRg xt 0 10995116277 <;> rw [hc] at cN
      ·have H9 : Hid (b1 = false) := by
        unfold Hid
        rw [H0.out,inRg_false.2 (by have := inRg_false.1 hc; omega)]
        rfl
       clear hA
       refine wp_region_until (fun w' => w'.cell? ⟨p,0,none⟩ = some (.int .i64 xt) ∧ w'.cell? ⟨p,1,none⟩ = some (.int .i64 xv) ∧ w'.cell? ⟨w.heap.size,2,none⟩ = some (.int .i64 sm)) (fun _ => false) 34 (by rfl) (by kernel_rfl) ?_
       refine tKf 0 S0.out ?_
       refine tKf 1 S0.out ?_
       refine uNe 2 (fun K hK => ?_)
       go_simp
       refine (cB _).mono ?_
       rintro e w' ⟨rfl,rfl⟩
       go_wp2_with fail
       refine hK.out _ _ (fun _ h => h) ?_
       clear hK K
       try simp only [Act.put,zQ1,zQ2,zQ3]
       refine uNe 3 (fun K hK => ?_)
       go_simp
       refine (cN _).mono ?_
       rintro e w' ⟨rfl,rfl⟩
       go_wp2_with fail
       refine hK.out _ _ (fun _ h => h) ?_
       clear hK K
       try simp only [Act.put,zQ1,zQ2,zQ3]
       refine tKf 4 S0.out ?_
       refine tKf 5 S0.out ?_
       refine sKf 6 ?_
       refine sKf 7 ?_
       refine sKf 8 ?_
       refine sKf 9 ?_
       refine sKf 10 ?_
       refine sKf 11 ?_
       refine sKf 12 ?_
       refine sKf 13 ?_
       refine sKf 14 ?_
       refine sKf 15 ?_
       refine sKf 16 ?_
       refine sKf 17 ?_
       refine sKf 18 ?_
       refine sKf 19 ?_
       refine tKf 20 S0.out ?_
       refine tKf 21 S0.out ?_
       refine sKf 22 ?_
       refine sKf 23 ?_
       refine sKf 24 ?_
       refine sKf 25 ?_
       refine sKf 26 ?_
       refine tKf 27 S0.out ?_
       refine tKf 28 S0.out ?_
       refine sKf 29 ?_
       refine sKf 30 ?_
       refine sKf 31 ?_
       refine sKf 32 ?_
       refine tKf 33 S0.out ?_
       refine until_done (by kernel_rfl) ?_ _
       go_wp2_with fail
       go_ret
       exact ⟨by rw [HE.out,H9.out]; rfl,BD.out⟩
      have HX1 : Hid (0 ≤ xt ∧ xt ≤ 10995116277) := inRg_true.1 hc
      have cP := fun wx => specPast xt sm wx (by have := HX1.out; omega) HX1.out.2
      have HP : Hid (decide (sm < (xt + 1) * 100) = !(decide ((xt + 1) * 100 ≤ sm))) := by
       unfold Hid
       by_cases hh : (xt + 1) * 100 ≤ sm
       ·rw [decide_eq_true hh,decide_eq_false (by omega)]; rfl
       ·rw [decide_eq_false hh,decide_eq_true (by omega)]; rfl
      rw [HP.out] at H0
      clear HP
      generalize inRg xv 0 1 = bv at *
      by_cases hk0 : k = 0
      ·have d0 : decide ((0 : Int) < (k : Int)) = false := decide_eq_false (by omega)
       have d1 : decide (0 < k) = false := decide_eq_false (by omega)
       have ha1 : inRg xt a 10995116277 = true := by
        have e1 := HX1.out
        exact inRg_true.2 (by have := hA.2.2 hk0; omega)
       rw [ha1] at H0
       clear hk0 hA ha1
       generalize decide ((xt + 1) * 100 ≤ sm) = bp at *
       cases bp
       ·skip
        refine wp_region_until (fun w' => w'.cell? ⟨p,0,none⟩ = some (.int .i64 xt) ∧ w'.cell? ⟨p,1,none⟩ = some (.int .i64 xv) ∧ w'.cell? ⟨w.heap.size,2,none⟩ = some (.int .i64 sm)) (fun _ => false) 34 (by rfl) (by kernel_rfl) ?_
        refine tKf 0 S0.out ?_
        refine tKf 1 S0.out ?_
        refine uNe 2 (fun K hK => ?_)
        go_simp
        refine (cB _).mono ?_
        rintro e w' ⟨rfl,rfl⟩
        go_wp2_with fail
        refine hK.out _ _ (fun _ h => h) ?_
        clear hK K
        try simp only [Act.put,zQ1,zQ2,zQ3]
        refine uNe 3 (fun K hK => ?_)
        go_simp
        refine (cN _).mono ?_
        rintro e w' ⟨rfl,rfl⟩
        go_wp2_with fail
        refine hK.out _ _ (fun _ h => h) ?_
        clear hK K
        try simp only [Act.put,zQ1,zQ2,zQ3]
        refine tKf 4 S0.out ?_
        refine tKf 5 S0.out ?_
        refine tKf 6 S0.out ?_
        refine tKf 7 S0.out ?_
        refine tKf 8 S0.out ?_
        refine sKf 9 ?_
        refine sKf 10 ?_
        refine sKf 11 ?_
        refine sKf 12 ?_
        refine sKf 13 ?_
        refine sKf 14 ?_
        refine sKf 15 ?_
        refine sKf 16 ?_
        refine sKf 17 ?_
        refine sKf 18 ?_
        refine tKf 19 S0.out ?_
        refine tKf 20 S0.out ?_
        refine tKf 21 S0.out ?_
        refine tKf 22 S0.out ?_
        refine tKf 23 S0.out ?_
        refine tKf 24 S0.out ?_
        refine tKf 25 S0.out ?_
        refine uNe 26 (fun K hK => ?_)
        go_simp
        refine (cP _).mono ?_
        rintro e w' ⟨rfl,rfl⟩
        go_wp2_with fail
        refine hK.out _ _ (fun _ h => h) ?_
        clear hK K
        try simp only [Act.put,zQ1,zQ2,zQ3]
        refine tKf 27 S0.out ?_
        refine tKf 28 S0.out ?_
        refine tKf 29 S0.out ?_
        refine tKf 30 S0.out ?_
        refine uNe 31 (fun K hK => ?_)
        go_simp
        refine (cV _).mono ?_
        rintro e w' ⟨rfl,rfl⟩
        go_wp2_with fail
        refine hK.out _ _ (fun _ h => h) ?_
        clear hK K
        try simp only [Act.put,zQ1,zQ2,zQ3]
        refine tKf 32 S0.out ?_
        refine tKf 33 S0.out ?_
        refine until_done (by kernel_rfl) ?_ _
        cases bv
        ·have H9 : Hid (b1 = false) := by unfold Hid; rw [H0.out]; simp
         go_wp2_with fail
         go_ret
         exact ⟨by rw [HE.out,H9.out]; rfl,BD.out⟩
        ·go_wp2_with fail
         go_roundw
         case rel => exact ⟨k + 1,xt + 1,by omega,by go_num,⟨by have := HX1.out; omega,fun _ => by have := HLD.out; simp only [Nat.add_sub_cancel]; rw [this],by rw [H0.out]; rfl⟩,KD.out,BD.out⟩
         case measure => simp [intOf]; omega
       ·have H9 : Hid (b1 = false) := by unfold Hid; rw [H0.out]; rfl
        refine wp_region_until (fun w' => w'.cell? ⟨p,0,none⟩ = some (.int .i64 xt) ∧ w'.cell? ⟨p,1,none⟩ = some (.int .i64 xv) ∧ w'.cell? ⟨w.heap.size,2,none⟩ = some (.int .i64 sm)) (fun _ => false) 34 (by rfl) (by kernel_rfl) ?_
        refine tKf 0 S0.out ?_
        refine tKf 1 S0.out ?_
        refine uNe 2 (fun K hK => ?_)
        go_simp
        refine (cB _).mono ?_
        rintro e w' ⟨rfl,rfl⟩
        go_wp2_with fail
        refine hK.out _ _ (fun _ h => h) ?_
        clear hK K
        try simp only [Act.put,zQ1,zQ2,zQ3]
        refine uNe 3 (fun K hK => ?_)
        go_simp
        refine (cN _).mono ?_
        rintro e w' ⟨rfl,rfl⟩
        go_wp2_with fail
        refine hK.out _ _ (fun _ h => h) ?_
        clear hK K
        try simp only [Act.put,zQ1,zQ2,zQ3]
        refine tKf 4 S0.out ?_
        refine tKf 5 S0.out ?_
        refine tKf 6 S0.out ?_
        refine tKf 7 S0.out ?_
        refine tKf 8 S0.out ?_
        refine sKf 9 ?_
        refine sKf 10 ?_
        refine sKf 11 ?_
        refine sKf 12 ?_
        refine sKf 13 ?_
        refine sKf 14 ?_
        refine sKf 15 ?_
        refine sKf 16 ?_
        refine sKf 17 ?_
        refine sKf 18 ?_
        refine tKf 19 S0.out ?_
        refine tKf 20 S0.out ?_
        refine tKf 21 S0.out ?_
        refine tKf 22 S0.out ?_
        refine tKf 23 S0.out ?_
        refine tKf 24 S0.out ?_
        refine tKf 25 S0.out ?_
        refine uNe 26 (fun K hK => ?_)
        go_simp
        refine (cP _).mono ?_
        rintro e w' ⟨rfl,rfl⟩
        go_wp2_with fail
        refine hK.out _ _ (fun _ h => h) ?_
        clear hK K
        try simp only [Act.put,zQ1,zQ2,zQ3]
        refine tKf 27 S0.out ?_
        refine tKf 28 S0.out ?_
        refine sKf 29 ?_
        refine sKf 30 ?_
        refine sKf 31 ?_
        refine sKf 32 ?_
        refine tKf 33 S0.out ?_
        refine until_done (by kernel_rfl) ?_ _
        go_wp2_with fail
        go_ret
        exact ⟨by rw [HE.out,H9.out]; rfl,BD.out⟩
      have q5 : (0 : Int) < (k : Int) := by omega
      have q6 : decide (0 < k) = true := decide_eq_true (by omega)
      have q7 : 0 < k := by omega
      have e3 : ((k : Int) - 1).toNat = k - 1 := by omega
      have e9 : IntKind.i64.wrap ((k : Int) - 1) = (k : Int) - 1 := by rw [IntKind.wrap_i64]; omega
      have e4 : (1 : Int) ≤ (k : Int) := by omega
      have e5 : (k : Int) - 1 < (nb : Int) := by omega
      obtain ⟨g',off',eg,_,hz0,_⟩ := HLB.out X.drew (BD.out.mono HB.out) (k - 1) (by omega)
      cases eg
      have hprev := HA.out.2.1 q7
      generalize (x.bks.getD (k - 1) default).t = zt at *
      subst hprev
      have S1 : Hid ((X.drew.cell? ⟨p,0,none⟩ = some (.int .i64 xt) ∧ X.drew.cell? ⟨p,1,none⟩ = some (.int .i64 xv) ∧ X.drew.cell? ⟨w.heap.size,2,none⟩ = some (.int .i64 sm)) ∧ X.drew.cell? ⟨w.heap.size,3,none⟩ = some (.slice (some ⟨g,off,none⟩) nb cb) ∧ X.drew.cell? ⟨g,off + (k - 1) * 2,none⟩ = some (.int .i64 zt)) := ⟨S0.out,KD.out.cell 3 _ rfl,hz0⟩
      clear hz0 hk0
      by_cases cz : xt ≤ zt
      ·have H9 : Hid (b1 = false) := by
        unfold Hid
        rw [H0.out,inRg_false.2 (by omega)]
        rfl
       clear hA
       refine wp_region_until (fun w' => (w'.cell? ⟨p,0,none⟩ = some (.int .i64 xt) ∧ w'.cell? ⟨p,1,none⟩ = some (.int .i64 xv) ∧ w'.cell? ⟨w.heap.size,2,none⟩ = some (.int .i64 sm)) ∧ w'.cell? ⟨w.heap.size,3,none⟩ = some (.slice (some ⟨g,off,none⟩) nb cb) ∧ w'.cell? ⟨g,off + (k - 1) * 2,none⟩ = some (.int .i64 zt)) (fun _ => false) 34 (by rfl) (by kernel_rfl) ?_
       refine tKf 0 S1.out ?_
       refine tKf 1 S1.out ?_
       refine uNe 2 (fun K hK => ?_)
       go_simp
       refine (cB _).mono ?_
       rintro e w' ⟨rfl,rfl⟩
       go_wp2_with fail
       refine hK.out _ _ (fun _ h => h) ?_
       clear hK K
       try simp only [Act.put,zQ1,zQ2,zQ3]
       refine uNe 3 (fun K hK => ?_)
       go_simp
       refine (cN _).mono ?_
       rintro e w' ⟨rfl,rfl⟩
       go_wp2_with fail
       refine hK.out _ _ (fun _ h => h) ?_
       clear hK K
       try simp only [Act.put,zQ1,zQ2,zQ3]
       refine tKf 4 S1.out ?_
       refine tKf 5 S1.out ?_
       refine tKf 6 S1.out ?_
       refine tKf 7 S1.out ?_
       refine tKf 8 S1.out ?_
       refine tKf 9 S1.out ?_
       refine tKf 10 S1.out ?_
       refine tKf 11 S1.out ?_
       refine tKe 12 (v := .int .i64 ((k : Int) - 1)) S1.out ?_ ?_
       ·intro w hSw
        try dsimp only at hSw
        go_simp
        try rw [e9]
       try simp only [Act.put,zQ1,zQ2,zQ3]
       refine tKf 13 S1.out ?_
       refine tKf 14 S1.out ?_
       refine tKf 15 S1.out ?_
       refine tKf 16 S1.out ?_
       refine tKf 17 S1.out ?_
       refine tKf 18 S1.out ?_
       refine tKf 19 S1.out ?_
       refine tKf 20 S1.out ?_
       refine tKf 21 S1.out ?_
       refine sKf 22 ?_
       refine sKf 23 ?_
       refine sKf 24 ?_
       refine sKf 25 ?_
       refine sKf 26 ?_
       refine tKf 27 S1.out ?_
       refine tKf 28 S1.out ?_
       refine sKf 29 ?_
       refine sKf 30 ?_
       refine sKf 31 ?_
       refine sKf 32 ?_
       refine tKf 33 S1.out ?_
       refine until_done (by kernel_rfl) ?_ _
       go_wp2_with fail
       go_ret
       exact ⟨by rw [HE.out,H9.out]; rfl,BD.out⟩
      have dz : decide (xt ≤ zt) = false := decide_eq_false cz
      have ha1 : inRg xt (zt + 1) 10995116277 = true := inRg_true.2 (by have := HX1.out; omega)
      rw [ha1] at H0
      clear hA ha1 cz
      generalize decide ((xt + 1) * 100 ≤ sm) = bp at *
      cases bp
      ·skip
       refine wp_region_until (fun w' => (w'.cell? ⟨p,0,none⟩ = some (.int .i64 xt) ∧ w'.cell? ⟨p,1,none⟩ = some (.int .i64 xv) ∧ w'.cell? ⟨w.heap.size,2,none⟩ = some (.int .i64 sm)) ∧ w'.cell? ⟨w.heap.size,3,none⟩ = some (.slice (some ⟨g,off,none⟩) nb cb) ∧ w'.cell? ⟨g,off + (k - 1) * 2,none⟩ = some (.int .i64 zt)) (fun _ => false) 34 (by rfl) (by kernel_rfl) ?_
       refine tKf 0 S1.out ?_
       refine tKf 1 S1.out ?_
       refine uNe 2 (fun K hK => ?_)
       go_simp
       refine (cB _).mono ?_
       rintro e w' ⟨rfl,rfl⟩
       go_wp2_with fail
       refine hK.out _ _ (fun _ h => h) ?_
       clear hK K
       try simp only [Act.put,zQ1,zQ2,zQ3]
       refine uNe 3 (fun K hK => ?_)
       go_simp
       refine (cN _).mono ?_
       rintro e w' ⟨rfl,rfl⟩
       go_wp2_with fail
       refine hK.out _ _ (fun _ h => h) ?_
       clear hK K
       try simp only [Act.put,zQ1,zQ2,zQ3]
       refine tKf 4 S1.out ?_
       refine tKf 5 S1.out ?_
       refine tKf 6 S1.out ?_
       refine tKf 7 S1.out ?_
       refine tKf 8 S1.out ?_
       refine tKf 9 S1.out ?_
       refine tKf 10 S1.out ?_
       refine tKf 11 S1.out ?_
       refine tKe 12 (v := .int .i64 ((k : Int) - 1)) S1.out ?_ ?_
       ·intro w hSw
        try dsimp only at hSw
        go_simp
        try rw [e9]
       try simp only [Act.put,zQ1,zQ2,zQ3]
       refine tKf 13 S1.out ?_
       refine tKf 14 S1.out ?_
       refine tKf 15 S1.out ?_
       refine tKf 16 S1.out ?_
       refine tKf 17 S1.out ?_
       refine tKf 18 S1.out ?_
       refine tKf 19 S1.out ?_
       refine tKf 20 S1.out ?_
       refine tKf 21 S1.out ?_
       refine tKf 22 S1.out ?_
       refine tKf 23 S1.out ?_
       refine tKf 24 S1.out ?_
       refine tKf 25 S1.out ?_
       refine uNe 26 (fun K hK => ?_)
       go_simp
       refine (cP _).mono ?_
       rintro e w' ⟨rfl,rfl⟩
       go_wp2_with fail
       refine hK.out _ _ (fun _ h => h) ?_
       clear hK K
       try simp only [Act.put,zQ1,zQ2,zQ3]
       refine tKf 27 S1.out ?_
       refine tKf 28 S1.out ?_
       refine tKf 29 S1.out ?_
       refine tKf 30 S1.out ?_
       refine uNe 31 (fun K hK => ?_)
       go_simp
       refine (cV _).mono ?_
       rintro e w' ⟨rfl,rfl⟩
       go_wp2_with fail
       refine hK.out _ _ (fun _ h => h) ?_
       clear hK K
       try simp only [Act.put,zQ1,zQ2,zQ3]
       refine tKf 32 S1.out ?_
       refine tKf 33 S1.out ?_
       refine until_done (by kernel_rfl) ?_ _
       cases bv
       ·have H9 : Hid (b1 = false) := by unfold Hid; rw [H0.out]; simp
        go_wp2_with fail
        go_ret
        exact ⟨by rw [HE.out,H9.out]; rfl,BD.out⟩
       ·go_wp2_with fail
        go_roundw
        case rel => exact ⟨k + 1,xt + 1,by omega,by go_num,⟨by have := HX1.out; omega,fun _ => by have := HLD.out; simp only [Nat.add_sub_cancel]; rw [this],by rw [H0.out]; rfl⟩,KD.out,BD.out⟩
        case measure => simp [intOf]; omega
      ·have H9 : Hid (b1 = false) := by unfold Hid; rw [H0.out]; rfl
       refine wp_region_until (fun w' => (w'.cell? ⟨p,0,none⟩ = some (.int .i64 xt) ∧ w'.cell? ⟨p,1,none⟩ = some (.int .i64 xv) ∧ w'.cell? ⟨w.heap.size,2,none⟩ = some (.int .i64 sm)) ∧ w'.cell? ⟨w.heap.size,3,none⟩ = some (.slice (some ⟨g,off,none⟩) nb cb) ∧ w'.cell? ⟨g,off + (k - 1) * 2,none⟩ = some (.int .i64 zt)) (fun _ => false) 34 (by rfl) (by kernel_rfl) ?_
       refine tKf 0 S1.out ?_
       refine tKf 1 S1.out ?_
       refine uNe 2 (fun K hK => ?_)
       go_simp
       refine (cB _).mono ?_
       rintro e w' ⟨rfl,rfl⟩
       go_wp2_with fail
       refine hK.out _ _ (fun _ h => h) ?_
       clear hK K
       try simp only [Act.put,zQ1,zQ2,zQ3]
       refine uNe 3 (fun K hK => ?_)
       go_simp
       refine (cN _).mono ?_
       rintro e w' ⟨rfl,rfl⟩
       go_wp2_with fail
       refine hK.out _ _ (fun _ h => h) ?_
       clear hK K
       try simp only [Act.put,zQ1,zQ2,zQ3]
       refine tKf 4 S1.out ?_
       refine tKf 5 S1.out ?_
       refine tKf 6 S1.out ?_
       refine tKf 7 S1.out ?_
       refine tKf 8 S1.out ?_
       refine tKf 9 S1.out ?_
       refine tKf 10 S1.out ?_
       refine tKf 11 S1.out ?_
       refine tKe 12 (v := .int .i64 ((k : Int) - 1)) S1.out ?_ ?_
       ·intro w hSw
        try dsimp only at hSw
        go_simp
        try rw [e9]
       try simp only [Act.put,zQ1,zQ2,zQ3]
       refine tKf 13 S1.out ?_
       refine tKf 14 S1.out ?_
       refine tKf 15 S1.out ?_
       refine tKf 16 S1.out ?_
       refine tKf 17 S1.out ?_
       refine tKf 18 S1.out ?_
       refine tKf 19 S1.out ?_
       refine tKf 20 S1.out ?_
       refine tKf 21 S1.out ?_
       refine tKf 22 S1.out ?_
       refine tKf 23 S1.out ?_
       refine tKf 24 S1.out ?_
       refine tKf 25 S1.out ?_
       refine uNe 26 (fun K hK => ?_)
       go_simp
       refine (cP _).mono ?_
       rintro e w' ⟨rfl,rfl⟩
       go_wp2_with fail
       refine hK.out _ _ (fun _ h => h) ?_
       clear hK K
       try simp only [Act.put,zQ1,zQ2,zQ3]
       refine tKf 27 S1.out ?_
       refine tKf 28 S1.out ?_
       refine sKf 29 ?_
       refine sKf 30 ?_
       refine sKf 31 ?_
       refine sKf 32 ?_
       refine tKf 33 S1.out ?_
       refine until_done (by kernel_rfl) ?_ _
       go_wp2_with fail
       go_ret
       exact ⟨by rw [HE.out,H9.out]; rfl,BD.out⟩
     ·obtain rfl : k = nb := by omega
      have hz := HA.out.2.2
      rw [HBz.out] at hz
      subst hz
      go_wp2_with fail
      go_ret
      exact ⟨by rw [HE.out]; rfl,HB1.out⟩
   have z1 : (sk == 1) = false := by simpa using g1
   rw [if_neg g1] at HE
   clear hn9
   by_cases g2 : sk = 2
   ·subst g2
    rw [if_pos rfl] at HE
    by_cases y1 : sh = 0
    ·subst y1
     by_cases y2 : sm = 0
     ·subst y2
      by_cases y3 : nb = 0
      ·have e3 : ((nb : Int) == 0) = true := by simp; omega
       rw [decide_eq_true rfl,decide_eq_true y3] at HE
       clear y3 g1 z1
       have c2 := specEngineOk x.eng _ wr B (LE2.out.on (HB1.out.mono HB.out)) HS.out.2.1 (Nat.le_trans HB.out HB1.out.size)
       go_wp2_with fail
       refine c2.mono ?_
       rintro e X2 ⟨rfl,hb2⟩
       have B2 := hQz (HB1.out.trans (hb2.mono HB1.out.size))
       clear hb2 c2
       go_wp2_with fail
       go_ret
       exact ⟨by rw [HE.out]; first | rfl | simp,B2.out⟩
      ·have e3 : ((nb : Int) == 0) = false := by simp; omega
       rw [decide_eq_true rfl,decide_eq_false y3] at HE
       clear y3 g1 z1
       go_wp2_with fail
       go_ret
       exact ⟨by rw [HE.out]; rfl,HB1.out⟩
     ·have e2 : (sm == 0) = false := by simpa using y2
      rw [decide_eq_true rfl,decide_eq_false y2] at HE
      clear y2 g1 z1
      go_wp2_with fail
      go_ret
      exact ⟨by rw [HE.out]; rfl,HB1.out⟩
    ·have e1 : (sh == 0) = false := by simpa using y1
     rw [decide_eq_false y1] at HE
     clear y1 g1 z1
     go_wp2_with fail
     go_ret
     exact ⟨by rw [HE.out]; rfl,HB1.out⟩
   have z2 : (sk == 2) = false := by simpa using g2
   rw [if_neg g2] at HE
   clear g1 g2
   go_wp2_with fail
   go_ret
   exact ⟨by rw [HE.out]; rfl,HB1.out⟩
end Go.Proofs.YthhamlahdjokkaaGreatDoor
