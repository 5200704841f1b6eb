/- WtImpl PlImpl PtRow EgApp PnImpl DkOk -/
import Derived.Test.YtepffbgelaajnaaGreatDoorRows
import Derived.Test.YtepffbgelaajnaaGreatDoorQn13
import Derived.Test.YtepffbgelaajnaaGreatDoorQn14
import Derived.Test.YtepffbgelaajnaaGreatDoorQn8
import Derived.Test.YtepffbgelaajnaaGreatDoorQn12
import Derived.Test.YtepffbgelaajnaaGreatDoorQn0
import Derived.WalkKit
import Derived.ProofKit
import Derived.Laws.OwnMore
import Derived.Below
import Derived.OwnWalk
import Derived.WalkSmall
import Derived.Test.YtepffbgelaajnaaGreatDoorQn7
import Derived.Test.YtepffbgelaajnaaGreatDoorQn3
import Derived.Test.YtepffbgelaajnaaGreatDoorQn11
import Derived.Test.YtepffbgelaajnaaGreatDoorQn2
import Derived.Test.YtepffbgelaajnaaGreatDoorQn1
import Derived.Deep.RegionHeld3
import Derived.OpenShut
import Derived.BigQuiet
import Derived.Deep.QuietTactic
import Derived.Deep.RegionWith
import Derived.Handy
open List (setIfInBounds_toArray set_cons_zero set_cons_succ)
namespace Go.Proofs.YtepffbgelaajnaaGreatDoor
open Go.ChangeShapes Go.WideShapes Go.ChangeAt Go.RowKit Go.PlainAid
set_option linter.unusedVariables false
theorem Owns.apartB {w : World} {base g : Nat} {v : Value} {rows : List (List Value)} {cs : Array Value} {t : TypeId} (h : Owns w base 143 1 v rows) (hb : Blk w g cs t) (hne : 143 ≠ t) : v.ownBlock ≠ some g := by
 intro hg
 obtain ⟨c, fz, e1⟩ := Lib.ownsRow_kind h.2 g hg
 unfold Blk at hb
 rw [e1] at hb
 cases hb
 exact hne rfl
theorem take_snoc (l : List Rcd) (k : Nat) (hk : k < l.length) : l.take (k + 1) = l.take k ++ [l.getD k ⟨0, 0, 0, 0, ByteArray.empty⟩] := by
 rw [List.getD_eq_getElem?_getD, List.getElem?_eq_getElem hk]
 exact List.take_succ_eq_append_getElem hk
set_option maxRecDepth 20000 in
set_option maxHeartbeats 8000000 in
theorem implWalText (x : Wl) (v : Value) (w : World) (B : Nat) (hv : WalV w B v x) (hf : FitsW x) (hB : B ≤ w.heap.size) (ht : SumTab w) : Calls Tryz.prog 37 #[v] w fun e w' => e = .returned (.string (walT x)) ∧ Below w.heap.size w w' := by
 have HV : Hid (WalV w B v x) := hv
 have HB : Hid (B ≤ w.heap.size) := hB
 have HT : Hid (SumTab w) := ht
 have cO := fun wx hx hb => implWalOk x v wx B hx hf hb
 have HE : Hid (walT x = if walOk x = true then catF (walRecs x) else ⟨#[]⟩) := rfl
 obtain ⟨u, rfl, _⟩ := hv
 clear ht hB hf
 have b0 : Below w.heap.size w (w.alloc (.cells #[.int .i64 x.term, .int .i64 x.vote, .int .i64 x.base, .int .i64 x.bterm, u] 42)) := (Below.refl _ _).alloc (Nat.le_refl _) _
 have k0 := Blk.new w #[.int .i64 x.term, .int .i64 x.vote, .int .i64 x.base, .int .i64 x.bterm, u] 42
 cases ho : walOk x
 ·rw [ho] at cO HE
  clear ho
  go_enter Tryz.func37, Tryz.ntmps37
  go_wp2_with fail
  generalize w.alloc (.cells #[.int .i64 x.term, .int .i64 x.vote, .int .i64 x.base, .int .i64 x.bterm, u] 42) = W at *
  refine (cO W (HV.out.on (b0.mono HB.out)) (Nat.le_trans HB.out b0.size)).mono ?_
  rintro e w1 ⟨rfl, hb1⟩
  have B1 : Hid (Below w.heap.size w w1) := b0.trans (hb1.mono b0.size)
  clear hb1 cO k0 b0
  go_wp2_with fail
  go_ret
  exact ⟨by rw [HE.out]; rfl, B1.out⟩
 obtain ⟨n60, ⟨base0, base1⟩, hdd⟩ := ok_in x ho
 have HLR : Hid (∀ r ∈ walRecs x, LogRec r) := walRecs_log x hdd
 have HWL : Hid ((walRecs x).length ≤ 62) := by unfold Hid; rw [walRecs_length]; omega
 have HE : Hid (walT x = catF (walRecs x)) := by unfold Hid; rw [HE.out, ho]; rfl
 have cE := fun wx hx hb => entriesV x (.agg #[.int .i64 x.term, .int .i64 x.vote, .int .i64 x.base, .int .i64 x.bterm, u]) wx B hx n60 base0 base1 hb
 have HM : Hid (kindR (walRecs x) = [[.iface 133 (.agg #[.int .i64 x.base, .int .i64 x.bterm])], [.iface 135 (.agg #[.int .i64 x.term, .int .i64 x.vote])]] ++ kindR (entRecs x x.ents.length)) := by
  unfold Hid walRecs
  rw [kindR_append]
  rfl
 have HME : Hid ((kindR (entRecs x x.ents.length)).length ≤ 60) := by unfold Hid; rw [kindR_length, entRecs_length]; exact n60
 have HONE : Hid (∀ r ∈ kindR (entRecs x x.ents.length), ∀ y ∈ r, y.oneCell' = true) := by
  intro r hr y hy
  obtain ⟨q, hq, rfl⟩ := List.mem_map.1 hr
  obtain ⟨i, _, rfl⟩ := List.mem_map.1 hq
  simp only [List.mem_cons, List.not_mem_nil, or_false] at hy
  subst hy
  rw [kindV_at]
  rfl
 rw [ho] at cO
 clear ho hdd n60 base0 base1
 go_enter Tryz.func37, Tryz.ntmps37
 go_wp2_with fail
 generalize w.alloc (.cells #[.int .i64 x.term, .int .i64 x.vote, .int .i64 x.base, .int .i64 x.bterm, u] 42) = W at *
 refine (cO W (HV.out.on (b0.mono HB.out)) (Nat.le_trans HB.out b0.size)).mono ?_
 rintro e w1 ⟨rfl, hb1⟩
 have B1 : Hid (Below w.heap.size w w1) := b0.trans (hb1.mono b0.size)
 have K1 : Hid (Blk w1 w.heap.size #[.int .i64 x.term, .int .i64 x.vote, .int .i64 x.base, .int .i64 x.bterm, u] 42) := k0.on hb1 k0.lt
 clear hb1 cO k0 b0
 have e0 := K1.out.cell 0 (.int .i64 x.term) rfl
 have e1 := K1.out.cell 1 (.int .i64 x.vote) rfl
 have e2 := K1.out.cell 2 (.int .i64 x.base) rfl
 have e3 := K1.out.cell 3 (.int .i64 x.bterm) rfl
 have K2 : Hid (Blk (w1.alloc (.cells #[.iface 133 (.agg #[.int .i64 x.base, .int .i64 x.bterm]), .iface 135 (.agg #[.int .i64 x.term, .int .i64 x.vote])] 143)) w.heap.size #[.int .i64 x.term, .int .i64 x.vote, .int .i64 x.base, .int .i64 x.bterm, u] 42) := K1.out.alloc _
 have K3 : Hid (Blk ((w1.alloc (.cells #[.iface 133 (.agg #[.int .i64 x.base, .int .i64 x.bterm]), .iface 135 (.agg #[.int .i64 x.term, .int .i64 x.vote])] 143)).alloc (.cells #[.pointer none, .slice none 0 0] 140)) w.heap.size #[.int .i64 x.term, .int .i64 x.vote, .int .i64 x.base, .int .i64 x.bterm, u] 42) := K2.out.alloc _
 have f0 := K3.out.cell 0 (.int .i64 x.term) rfl
 have f1 := K3.out.cell 1 (.int .i64 x.vote) rfl
 have f2 := K3.out.cell 2 (.int .i64 x.base) rfl
 have f3 := K3.out.cell 3 (.int .i64 x.bterm) rfl
 have f4 := K3.out.cell 4 u rfl
 go_wp2_with fail
 have O2 := Owns.two w1 (.iface 133 (.agg #[.int .i64 x.base, .int .i64 x.bterm])) (.iface 135 (.agg #[.int .i64 x.term, .int .i64 x.vote]))
 have P3 := Blk.new (w1.alloc (.cells #[.iface 133 (.agg #[.int .i64 x.base, .int .i64 x.bterm]), .iface 135 (.agg #[.int .i64 x.term, .int .i64 x.vote])] 143)) #[.pointer none, .slice none 0 0] 140
 have B3 : Hid (Below w.heap.size w ((w1.alloc (.cells #[.iface 133 (.agg #[.int .i64 x.base, .int .i64 x.bterm]), .iface 135 (.agg #[.int .i64 x.term, .int .i64 x.vote])] 143)).alloc (.cells #[.pointer none, .slice none 0 0] 140))) := (B1.out.alloc B1.out.size _).alloc (Nat.le_trans B1.out.size (by simp)) _
 have O3 : Hid (Owns ((w1.alloc (.cells #[.iface 133 (.agg #[.int .i64 x.base, .int .i64 x.bterm]), .iface 135 (.agg #[.int .i64 x.term, .int .i64 x.vote])] 143)).alloc (.cells #[.pointer none, .slice none 0 0] 140)) w1.heap.size 143 1 _ _) := O2.alloc _
 have GG : Hid (w1.heap.size < w1.heap.size + 1) := Nat.lt_succ_self _
 have GW1 : Hid (w.heap.size < w1.heap.size) := K1.out.lt
 simp only [World.size_alloc] at P3
 clear e0 e1 e2 e3 f0 f1 f2 f3 f4 K2 K1 O2 B1
 generalize (w1.alloc (.cells #[.iface 133 (.agg #[.int .i64 x.base, .int .i64 x.bterm]), .iface 135 (.agg #[.int .i64 x.term, .int .i64 x.vote])] 143)).alloc (.cells #[.pointer none, .slice none 0 0] 140) = w3 at *
 generalize hgb : w1.heap.size + 1 = gb at *
 generalize w1.heap.size = gl at *
 have BK3 : Hid (Blk w3 gb #[.pointer none, .slice none 0 0] 140) := P3
 clear P3
 refine (cE w3 (HV.out.on (B3.out.mono HB.out)) (Nat.le_trans HB.out B3.out.size)).mono ?_
 rintro e w4 ⟨ue, rfl, hOe, hb4⟩
 have B4 : Hid (Below w.heap.size w w4) := B3.out.trans (hb4.mono B3.out.size)
 have BK4 : Hid (Blk w4 gb #[.pointer none, .slice none 0 0] 140) := BK3.out.on hb4 BK3.out.lt
 have O4 : Hid (Owns w4 gl 143 1 (.slice (some ⟨gl, 0, none⟩) 2 2) [[.iface 133 (.agg #[.int .i64 x.base, .int .i64 x.bterm])], [.iface 135 (.agg #[.int .i64 x.term, .int .i64 x.vote])]]) := O3.out.on hb4
 have LE : Hid (Lies w4 w4.heap.size 1 ue (kindR (entRecs x x.ents.length))) := hOe.lies
 have G4 : Hid (gl ≤ w4.heap.size) := by have := BK4.out.lt; unfold Hid; omega
 clear hb4 hOe B3 K3 BK3 O3 cE
 have qn0 : ((walRecs x).length : Int) ≤ 62 := by have := HWL.out; omega
 go_wp2_with (at_builtin; refine wpList_append_all rfl (.tmp 23) (.tmp 25) 136 143 .nilIface 1 16 rfl Tryz.underlying136 Tryz.infoRec rfl (by omega) gl _ ue [[.iface 133 (.agg #[.int .i64 x.base, .int .i64 x.bterm])], [.iface 135 (.agg #[.int .i64 x.term, .int .i64 x.vote])]] (kindR (entRecs x x.ents.length)) w4.heap.size rfl O4.out LE.out HONE.out rfl (by have := HME.out; simp only [List.length_cons, List.length_nil]; omega) (by omega) G4.out ?_; intro lv w5 hO5 hb5 hk5 hw5; rw [← HM.out] at hO5; obtain ⟨lA, lc, rfl, hlook⟩ := kind_look hO5)
 have OL5 : Hid (Owns w5 gl 143 1 (.slice lA (walRecs x).length lc) (kindR (walRecs x))) := hO5
 have BK5 : Hid (Blk w5 gb #[.pointer none, .slice none 0 0] 140) := by
  unfold Hid Blk
  rw [hk5 gb BK4.out.lt (O4.out.apartB BK4.out (by decide))]
  exact BK4.out
 have B5 : Hid (Below w.heap.size w w5) := B4.out.trans (hb5.mono (Nat.le_of_lt GW1.out))
 have GW : Hid (w.heap.size ≤ gb) := by have := GW1.out; unfold Hid; omega
 clear hO5 hb5 hk5 hw5 B4 BK4 O4 LE G4
 clear hlook
 have HNB : Hid ((Value.slice lA (walRecs x).length lc).ownBlock ≠ some gb) := OL5.out.apartB BK5.out (by decide)
 have st : Below w.heap.size w w5 ∧ Lib.IsBuilderF 140 5 gb gb (Lib.strCells (catF ((walRecs x).take 0))) w5 ∧ Owns w5 gl 143 1 (.slice lA (walRecs x).length lc) (kindR (walRecs x)) ∧ gb ≤ w5.heap.size := ⟨B5.out, bld_new BK5.out, OL5.out, Nat.le_of_lt BK5.out.lt⟩
 clear B5 OL5 BK5 GG
 generalize hN : (walRecs x).length = n at *
 have qn : (n : Int) ≤ 62 := by have := HWL.out; omega
 have NB : Hid ((Value.slice lA n lc).ownBlock ≠ some gb) := HNB.out
 clear HNB
 generalize hlm : n = lm at *
 go_loopw [28] (fun v28 wr => ∃ k : Nat, k ≤ lm ∧ v28 = .int .i64 (k : Int) ∧ Below w.heap.size w wr ∧ Lib.IsBuilderF 140 5 gb gb (Lib.strCells (catF ((walRecs x).take k))) wr ∧ Owns wr gl 143 1 (.slice lA lm lc) (kindR (walRecs x)) ∧ gb ≤ wr.heap.size) (fun i _ => lm - (intOf i).toNat)
 case atStart => exact ⟨0, by omega, rfl, st⟩
 case round =>
  obtain ⟨k, hk, rfl, hBR, hBL, hOL, hZR⟩ := hrel
  have BR : Hid (Below w.heap.size w wr) := hBR
  have BL : Hid (Lib.IsBuilderF 140 5 gb gb (Lib.strCells (catF ((walRecs x).take k))) wr) := hBL
  have OL : Hid (Owns wr gl 143 1 (.slice lA lm lc) (kindR (walRecs x))) := hOL
  have ZR : Hid (gb ≤ wr.heap.size) := hZR
  clear hBR hBL hOL hZR st
  by_cases hlt : k < lm
  ·have q4 : (k : Int) < (lm : Int) := by omega
   obtain ⟨A', cap', e', hlook⟩ := kind_look OL.out
   injection e' with ea eb ec
   subst ea
   subst ec
   obtain ⟨g, rfl, hcell⟩ := hlook k (by omega)
   have hlog := HLR.out ((walRecs x).getD k ⟨0, 0, 0, 0, ByteArray.empty⟩) (by rw [List.getD_eq_getElem?_getD, List.getElem?_eq_getElem (show k < (walRecs x).length by omega)]; exact List.getElem_mem _)
   have HC : Hid (catF ((walRecs x).take (k + 1)) = catF ((walRecs x).take k) ++ frame (showR ((walRecs x).getD k ⟨0, 0, 0, 0, ByteArray.empty⟩))) := by
    unfold Hid
    rw [take_snoc _ _ (by omega), catF_snoc]
   have hcs := catF_size ((walRecs x).take k)
   have htl : ((walRecs x).take k).length ≤ 62 := by rw [List.length_take]; have := HWL.out; omega
   generalize (walRecs x).getD k ⟨0, 0, 0, 0, ByteArray.empty⟩ = r at *
   have HSZ : Hid ((showR r).size ≤ 1048576) := by have := showR_size r hlog.d; unfold Hid; omega
   have HLW : Hid ((Lib.strCells (catF ((walRecs x).take k))).length + (frame (showR r)).size ≤ 140737488355328) := by
    unfold Hid
    rw [Lib.strCells_length]
    have := frame_size (showR r)
    omega
   clear htl hcs hlook eb
   obtain ⟨rk, rt, ri, rv, rd⟩ := r
   rcases hlog.k with ⟨hk1, hk2, hk3⟩ | ⟨hk1, hk2, hk3⟩ | ⟨hk1, hk2⟩
   ·simp only at hk1 hk2 hk3
    subst hk1
    subst hk2
    subst hk3
    have hkv : kindV ⟨4, rt, ri, 0, ⟨#[]⟩⟩ = .iface 133 (.agg #[.int .i64 ri, .int .i64 rt]) := rfl
    rw [hkv] at hcell
    have cM := fun wx => baseRec ri rt wx
    have cSh : ∀ wx, Calls Tryz.prog 81 #[.agg #[.int .i64 4, .int .i64 rt, .int .i64 ri, .int .i64 0, .string ⟨#[]⟩]] wx fun e w' => e = .returned (.string (showR ⟨4, rt, ri, 0, ⟨#[]⟩⟩)) ∧ Below wx.heap.size wx w' := fun wx => implShowRec ⟨4, rt, ri, 0, ⟨#[]⟩⟩ wx (Nat.zero_le _)
    clear hkv hlog
    generalize showR ⟨4, rt, ri, 0, ⟨#[]⟩⟩ = sr at *
    go_wp2_with fail
    refine (cM _).mono ?_
    rintro e w6 ⟨rfl, hb6⟩
    have B6 : Hid (Below w.heap.size w w6) := BR.out.trans (hb6.mono BR.out.size)
    have L6 : Hid (Lib.IsBuilderF 140 5 gb gb _ w6) := bld_on BL.out hb6
    have O6 : Hid (Owns w6 gl 143 1 (.slice (some ⟨g, 0, none⟩) lm lc) (kindR (walRecs x))) := OL.out.on hb6
    have Z6 : Hid (gb ≤ w6.heap.size) := Nat.le_trans ZR.out hb6.size
    clear hb6
    go_wp2_with fail
    refine (cSh w6).mono ?_
    rintro e w7 ⟨rfl, hb7⟩
    have B7 : Hid (Below w.heap.size w w7) := B6.out.trans (hb7.mono B6.out.size)
    have L7 : Hid (Lib.IsBuilderF 140 5 gb gb _ w7) := bld_on L6.out hb7
    have O7 : Hid (Owns w7 gl 143 1 (.slice (some ⟨g, 0, none⟩) lm lc) (kindR (walRecs x))) := O6.out.on hb7
    have Z7 : Hid (gb ≤ w7.heap.size) := Nat.le_trans Z6.out hb7.size
    clear hb7
    go_wp2_with fail
    refine (impl_frame sr w7 HSZ.out (HT.out.on B7.out)).mono ?_
    rintro e w8 ⟨rfl, hb8⟩
    have B8 : Hid (Below w.heap.size w w8) := B7.out.trans (hb8.mono B7.out.size)
    have L8 : Hid (Lib.IsBuilderF 140 5 gb gb _ w8) := bld_on L7.out hb8
    have O8 : Hid (Owns w8 gl 143 1 (.slice (some ⟨g, 0, none⟩) lm lc) (kindR (walRecs x))) := O7.out.on hb8
    have Z8 : Hid (gb ≤ w8.heap.size) := Nat.le_trans Z7.out hb8.size
    clear hb8
    go_wp2_with fail
    refine (bldWrite gb gb _ (frame sr) w8 L8.out HLW.out Z8.out).mono ?_
    rintro e w9 ⟨rfl, hB9, hb9, hk9⟩
    have B9 : Hid (Below w.heap.size w w9) := B8.out.trans (hb9.mono GW.out)
    have L9 : Hid (Lib.IsBuilderF 140 5 gb gb (Lib.strCells (catF ((walRecs x).take (k + 1)))) w9) := by
     unfold Hid
     rw [HC.out, strCells_append]
     exact .inr hB9
    have O9 : Hid (Owns w9 gl 143 1 (.slice (some ⟨g, 0, none⟩) lm lc) (kindR (walRecs x))) := O8.out.others hk9 (NB.out)
    have Z9 : Hid (gb ≤ w9.heap.size) := Nat.le_trans Z8.out hb9.size
    clear hb9 hk9 hB9
    go_wp2_with fail
    go_roundw
    case rel => exact ⟨k + 1, by omega, by go_num, B9.out, L9.out, O9.out, Z9.out⟩
    case measure => simp [intOf]; omega
   ·simp only at hk1 hk2 hk3
    subst hk1
    subst hk2
    subst hk3
    have hkv : kindV ⟨1, rt, 0, rv, ⟨#[]⟩⟩ = .iface 135 (.agg #[.int .i64 rt, .int .i64 rv]) := rfl
    rw [hkv] at hcell
    have cM := fun wx => hardRec rt rv wx
    have cSh : ∀ wx, Calls Tryz.prog 81 #[.agg #[.int .i64 1, .int .i64 rt, .int .i64 0, .int .i64 rv, .string ⟨#[]⟩]] wx fun e w' => e = .returned (.string (showR ⟨1, rt, 0, rv, ⟨#[]⟩⟩)) ∧ Below wx.heap.size wx w' := fun wx => implShowRec ⟨1, rt, 0, rv, ⟨#[]⟩⟩ wx (Nat.zero_le _)
    clear hkv hlog
    generalize showR ⟨1, rt, 0, rv, ⟨#[]⟩⟩ = sr at *
    go_wp2_with fail
    refine (cM _).mono ?_
    rintro e w6 ⟨rfl, hb6⟩
    have B6 : Hid (Below w.heap.size w w6) := BR.out.trans (hb6.mono BR.out.size)
    have L6 : Hid (Lib.IsBuilderF 140 5 gb gb _ w6) := bld_on BL.out hb6
    have O6 : Hid (Owns w6 gl 143 1 (.slice (some ⟨g, 0, none⟩) lm lc) (kindR (walRecs x))) := OL.out.on hb6
    have Z6 : Hid (gb ≤ w6.heap.size) := Nat.le_trans ZR.out hb6.size
    clear hb6
    go_wp2_with fail
    refine (cSh w6).mono ?_
    rintro e w7 ⟨rfl, hb7⟩
    have B7 : Hid (Below w.heap.size w w7) := B6.out.trans (hb7.mono B6.out.size)
    have L7 : Hid (Lib.IsBuilderF 140 5 gb gb _ w7) := bld_on L6.out hb7
    have O7 : Hid (Owns w7 gl 143 1 (.slice (some ⟨g, 0, none⟩) lm lc) (kindR (walRecs x))) := O6.out.on hb7
    have Z7 : Hid (gb ≤ w7.heap.size) := Nat.le_trans Z6.out hb7.size
    clear hb7
    go_wp2_with fail
    refine (impl_frame sr w7 HSZ.out (HT.out.on B7.out)).mono ?_
    rintro e w8 ⟨rfl, hb8⟩
    have B8 : Hid (Below w.heap.size w w8) := B7.out.trans (hb8.mono B7.out.size)
    have L8 : Hid (Lib.IsBuilderF 140 5 gb gb _ w8) := bld_on L7.out hb8
    have O8 : Hid (Owns w8 gl 143 1 (.slice (some ⟨g, 0, none⟩) lm lc) (kindR (walRecs x))) := O7.out.on hb8
    have Z8 : Hid (gb ≤ w8.heap.size) := Nat.le_trans Z7.out hb8.size
    clear hb8
    go_wp2_with fail
    refine (bldWrite gb gb _ (frame sr) w8 L8.out HLW.out Z8.out).mono ?_
    rintro e w9 ⟨rfl, hB9, hb9, hk9⟩
    have B9 : Hid (Below w.heap.size w w9) := B8.out.trans (hb9.mono GW.out)
    have L9 : Hid (Lib.IsBuilderF 140 5 gb gb (Lib.strCells (catF ((walRecs x).take (k + 1)))) w9) := by
     unfold Hid
     rw [HC.out, strCells_append]
     exact .inr hB9
    have O9 : Hid (Owns w9 gl 143 1 (.slice (some ⟨g, 0, none⟩) lm lc) (kindR (walRecs x))) := O8.out.others hk9 (NB.out)
    have Z9 : Hid (gb ≤ w9.heap.size) := Nat.le_trans Z8.out hb9.size
    clear hb9 hk9 hB9
    go_wp2_with fail
    go_roundw
    case rel => exact ⟨k + 1, by omega, by go_num, B9.out, L9.out, O9.out, Z9.out⟩
    case measure => simp [intOf]; omega
   ·simp only at hk1 hk2
    subst hk1
    subst hk2
    have hkv : kindV ⟨2, rt, ri, 0, rd⟩ = .iface 168 (.agg #[.int .i64 ri, .int .i64 rt, .string rd]) := rfl
    rw [hkv] at hcell
    have cM := fun wx => entryRec ri rt rd wx
    have cSh : ∀ wx, Calls Tryz.prog 81 #[.agg #[.int .i64 2, .int .i64 rt, .int .i64 ri, .int .i64 0, .string rd]] wx fun e w' => e = .returned (.string (showR ⟨2, rt, ri, 0, rd⟩)) ∧ Below wx.heap.size wx w' := fun wx => implShowRec ⟨2, rt, ri, 0, rd⟩ wx (Nat.le_trans hlog.d (by omega))
    clear hkv hlog
    generalize showR ⟨2, rt, ri, 0, rd⟩ = sr at *
    go_wp2_with fail
    refine (cM _).mono ?_
    rintro e w6 ⟨rfl, hb6⟩
    have B6 : Hid (Below w.heap.size w w6) := BR.out.trans (hb6.mono BR.out.size)
    have L6 : Hid (Lib.IsBuilderF 140 5 gb gb _ w6) := bld_on BL.out hb6
    have O6 : Hid (Owns w6 gl 143 1 (.slice (some ⟨g, 0, none⟩) lm lc) (kindR (walRecs x))) := OL.out.on hb6
    have Z6 : Hid (gb ≤ w6.heap.size) := Nat.le_trans ZR.out hb6.size
    clear hb6
    go_wp2_with fail
    refine (cSh w6).mono ?_
    rintro e w7 ⟨rfl, hb7⟩
    have B7 : Hid (Below w.heap.size w w7) := B6.out.trans (hb7.mono B6.out.size)
    have L7 : Hid (Lib.IsBuilderF 140 5 gb gb _ w7) := bld_on L6.out hb7
    have O7 : Hid (Owns w7 gl 143 1 (.slice (some ⟨g, 0, none⟩) lm lc) (kindR (walRecs x))) := O6.out.on hb7
    have Z7 : Hid (gb ≤ w7.heap.size) := Nat.le_trans Z6.out hb7.size
    clear hb7
    go_wp2_with fail
    refine (impl_frame sr w7 HSZ.out (HT.out.on B7.out)).mono ?_
    rintro e w8 ⟨rfl, hb8⟩
    have B8 : Hid (Below w.heap.size w w8) := B7.out.trans (hb8.mono B7.out.size)
    have L8 : Hid (Lib.IsBuilderF 140 5 gb gb _ w8) := bld_on L7.out hb8
    have O8 : Hid (Owns w8 gl 143 1 (.slice (some ⟨g, 0, none⟩) lm lc) (kindR (walRecs x))) := O7.out.on hb8
    have Z8 : Hid (gb ≤ w8.heap.size) := Nat.le_trans Z7.out hb8.size
    clear hb8
    go_wp2_with fail
    refine (bldWrite gb gb _ (frame sr) w8 L8.out HLW.out Z8.out).mono ?_
    rintro e w9 ⟨rfl, hB9, hb9, hk9⟩
    have B9 : Hid (Below w.heap.size w w9) := B8.out.trans (hb9.mono GW.out)
    have L9 : Hid (Lib.IsBuilderF 140 5 gb gb (Lib.strCells (catF ((walRecs x).take (k + 1)))) w9) := by
     unfold Hid
     rw [HC.out, strCells_append]
     exact .inr hB9
    have O9 : Hid (Owns w9 gl 143 1 (.slice (some ⟨g, 0, none⟩) lm lc) (kindR (walRecs x))) := O8.out.others hk9 (NB.out)
    have Z9 : Hid (gb ≤ w9.heap.size) := Nat.le_trans Z8.out hb9.size
    clear hb9 hk9 hB9
    go_wp2_with fail
    go_roundw
    case rel => exact ⟨k + 1, by omega, by go_num, B9.out, L9.out, O9.out, Z9.out⟩
    case measure => simp [intOf]; omega
  ·obtain rfl : k = lm := by omega
   have HS : Hid (catF ((walRecs x).take k) = catF (walRecs x)) := by unfold Hid; rw [List.take_of_length_le (by omega)]
   rw [HS.out] at BL
   have cT := bldString gb gb (catF (walRecs x)).data.toList wr BL.out ZR.out
   go_wp2_with fail
   refine cT.mono ?_
   rintro e w9 ⟨rfl, _, hb9, _⟩
   go_wp2_with fail
   go_ret
   exact ⟨by rw [HE.out]; rfl, BR.out.trans (hb9.mono GW.out)⟩
end Go.Proofs.YtepffbgelaajnaaGreatDoor
namespace Go.Proofs.YtepffbgelaajnaaGreatDoor
open Go.ChangeShapes Go.WideShapes Go.ChangeAt Go.RowKit Go.PlainAid
set_option linter.unusedVariables false
set_option maxHeartbeats 1000000 in
theorem hasV (w : World) (base p : Nat) (d : Dsk) (bi bd bw : Nat) (gs : List Nat) (u : Value) (name : ByteArray) (h : OpenD w base p d bi bd bw gs u) (hd : Whole d) (hs : name.size ≤ maxLen) :
  Calls Tryz.prog 77 #[.pointer (some ⟨p, 0, none⟩), .string name] w fun e w' => e = .returned (.bool (find d name).isSome) ∧ w = w' := by
 have cF := findI w base p d bi bd bw gs u name h hd hs
 have HD : Hid (Whole d) := hd
 clear h hs hd
 go_enter Tryz.func77, Tryz.ntmps77
 go_wp2_with fail
 refine cF.mono ?_
 rintro e w2 ⟨rfl, h⟩
 clear cF
 rcases h with ⟨hno, rfl⟩ | ⟨hno, hfd, rfl⟩ | ⟨hno, j, hfd, hj, rfl⟩
 ·have HR : Hid ((find d name).isSome = false) := by unfold Hid; rw [find_bad HD.out hno]; rfl
  clear hno
  go_wp2_with fail
  go_ret
  exact ⟨by rw [HR.out]; rfl, rfl⟩
 ·have HR : Hid ((find d name).isSome = false) := by unfold Hid; rw [hfd]; rfl
  clear hno hfd
  go_wp2_with fail
  go_ret
  exact ⟨by rw [HR.out]; rfl, rfl⟩
 ·have HR : Hid ((find d name).isSome = true) := by unfold Hid; rw [hfd]; rfl
  clear hno hfd hj
  go_wp2_with fail
  go_ret
  exact ⟨by rw [HR.out]; rfl, rfl⟩
set_option maxRecDepth 20000 in
set_option maxHeartbeats 4000000 in
theorem replacingV (w : World) (base p : Nat) (d : Dsk) (bi bd bw : Nat) (gs : List Nat) (u : Value) (nm txt : ByteArray) (h : OpenD w base p d bi bd bw gs u) (hd : Whole d) (hs : nm.size ≤ 1048576) :
  Calls Tryz.prog 36 #[.pointer (some ⟨p, 0, none⟩), .string nm, .string txt] w fun e w' => ∃ u, e = .returned u ∧ Owns w' w.heap.size 75 4 u (stpR (anewL d nm txt)) ∧ Below w.heap.size w w' := by
 have hz : (nm ++ dotNew).size ≤ maxLen := by rw [ByteArray.size_append]; show nm.size + 4 ≤ _; unfold maxLen; omega
 have cH := hasV w base p d bi bd bw gs u (nm ++ dotNew) h hd hz
 have g1 : ¬ 9223372036854775807 < nm.size + 4 := by omega
 clear h hs hd hz
 have HY := fun h => @anew_yes d nm txt h
 have HN := fun h => @anew_no d nm txt h
 cases hh : (find d (nm ++ dotNew)).isSome
 ·have HR : Hid (stpR (anewL d nm txt) = stpR (five (nm ++ dotNew) nm txt)) := HN hh
  rw [hh] at cH
  clear HY HN hh
  unfold dotNew at *
  go_enter Tryz.func36, Tryz.ntmps36
  go_wp2_with fail
  generalize nm ++ ⟨#[46, 110, 101, 119]⟩ = f at *
  refine cH.mono ?_
  rintro e w1 ⟨rfl, rfl⟩
  clear cH
  have hL := five_lies w f nm txt
  have bF : Below w.heap.size w (w.alloc (.cells #[.int .i64 1, .string f, .string ⟨#[]⟩, .string ⟨#[]⟩, .int .i64 2, .string f, .string ⟨#[]⟩, .string txt, .int .i64 3, .string f, .string ⟨#[]⟩, .string ⟨#[]⟩, .int .i64 4, .string f, .string nm, .string ⟨#[]⟩, .int .i64 6, .string ⟨#[]⟩, .string ⟨#[]⟩, .string ⟨#[]⟩] 75)) := (Below.refl _ _).alloc (Nat.le_refl _) _
  have hO : Owns w w.heap.size 75 4 (.slice none 0 0) ([] : List (List Value)) := Owns.nil w _ _ _
  have oF := hO.alloc (.cells #[.int .i64 1, .string f, .string ⟨#[]⟩, .string ⟨#[]⟩, .int .i64 2, .string f, .string ⟨#[]⟩, .string txt, .int .i64 3, .string f, .string ⟨#[]⟩, .string ⟨#[]⟩, .int .i64 4, .string f, .string nm, .string ⟨#[]⟩, .int .i64 6, .string ⟨#[]⟩, .string ⟨#[]⟩, .string ⟨#[]⟩] 75)
  have h1 := five_one f nm txt
  have s1 : ([] : List (List Value)).length + (stpR (five f nm txt)).length ≤ 2097152 := by simp [stpR, five]
  have s2 := bF.size
  go_wp2_with (at_builtin; refine Shut.out ?_)
  unfold Shut
  refine wpList_append_all rfl _ _ 32 75 (.agg #[.int .i64 0, .string ⟨#[]⟩, .string ⟨#[]⟩, .string ⟨#[]⟩]) 4 56 rfl Tryz.underlying32 Tryz.infoStp rfl (by omega) w.heap.size (.slice none 0 0) _ [] (stpR (five f nm txt)) _ rfl oF hL h1 rfl s1 (by omega) s2 ?_
  intro v' w2 hO2 hb2 _ _
  go_wp2_with fail
  go_ret
  exact ⟨_, rfl, by rw [HR.out]; exact hO2, bF.trans hb2⟩
 ·have HR : Hid (stpR (anewL d nm txt) = stpR [⟨5, nm ++ dotNew, ⟨#[]⟩, ⟨#[]⟩⟩] ++ stpR (five (nm ++ dotNew) nm txt)) := HY hh
  rw [hh] at cH
  clear HY HN hh
  unfold dotNew at *
  go_enter Tryz.func36, Tryz.ntmps36
  go_wp2_with fail
  generalize nm ++ ⟨#[46, 110, 101, 119]⟩ = f at *
  refine cH.mono ?_
  rintro e w1 ⟨rfl, rfl⟩
  clear cH
  have hO : Owns w w.heap.size 75 4 (.slice none 0 0) ([] : List (List Value)) := Owns.nil w _ _ _
  go_wp2_with (at_builtin; refine Shut.out ?_)
  unfold Shut
  refine wpList_append_row rfl _ _ 32 75 (.agg #[.int .i64 0, .string ⟨#[]⟩, .string ⟨#[]⟩, .string ⟨#[]⟩]) 4 56 rfl Tryz.underlying32 Tryz.infoStp rfl (by omega) w.heap.size (.slice none 0 0) [] rfl hO [.int .i64 5, .string f, .string ⟨#[]⟩, .string ⟨#[]⟩] rfl (by intro y hy; simp at hy; rcases hy with rfl | rfl | rfl | rfl <;> rfl) rfl (by simp) (by omega) (Nat.le_refl _) ?_
  intro v' w2 hO2 hb2 _ _
  obtain ⟨A1, m1, c1, rfl⟩ := hO2.shape
  have hL := five_lies w2 f nm txt
  have bF : Below w.heap.size w2 (w2.alloc (.cells #[.int .i64 1, .string f, .string ⟨#[]⟩, .string ⟨#[]⟩, .int .i64 2, .string f, .string ⟨#[]⟩, .string txt, .int .i64 3, .string f, .string ⟨#[]⟩, .string ⟨#[]⟩, .int .i64 4, .string f, .string nm, .string ⟨#[]⟩, .int .i64 6, .string ⟨#[]⟩, .string ⟨#[]⟩, .string ⟨#[]⟩] 75)) := (Below.refl _ _).alloc hb2.size _
  have oF := hO2.alloc (.cells #[.int .i64 1, .string f, .string ⟨#[]⟩, .string ⟨#[]⟩, .int .i64 2, .string f, .string ⟨#[]⟩, .string txt, .int .i64 3, .string f, .string ⟨#[]⟩, .string ⟨#[]⟩, .int .i64 4, .string f, .string nm, .string ⟨#[]⟩, .int .i64 6, .string ⟨#[]⟩, .string ⟨#[]⟩, .string ⟨#[]⟩] 75)
  have h1 := five_one f nm txt
  have s1 : (([] : List (List Value)) ++ ([[Value.int .i64 5, Value.string f, Value.string ⟨#[]⟩, Value.string ⟨#[]⟩]] : List (List Value))).length + (stpR (five f nm txt)).length ≤ 2097152 := by simp [stpR, five]
  have s2 : w.heap.size ≤ (w2.alloc (.cells #[.int .i64 1, .string f, .string ⟨#[]⟩, .string ⟨#[]⟩, .int .i64 2, .string f, .string ⟨#[]⟩, .string txt, .int .i64 3, .string f, .string ⟨#[]⟩, .string ⟨#[]⟩, .int .i64 4, .string f, .string nm, .string ⟨#[]⟩, .int .i64 6, .string ⟨#[]⟩, .string ⟨#[]⟩, .string ⟨#[]⟩] 75)).heap.size := Nat.le_trans hb2.size bF.size
  clear hO
  go_wp2_with (at_builtin; refine Shut.out ?_)
  unfold Shut
  refine wpList_append_all rfl _ _ 32 75 (.agg #[.int .i64 0, .string ⟨#[]⟩, .string ⟨#[]⟩, .string ⟨#[]⟩]) 4 56 rfl Tryz.underlying32 Tryz.infoStp rfl (by omega) w.heap.size _ _ _ (stpR (five f nm txt)) _ rfl oF hL h1 rfl s1 (by omega) s2 ?_
  intro v' w3 hO3 hb3 _ _
  go_wp2_with fail
  go_ret
  exact ⟨_, rfl, by rw [HR.out]; exact hO3, (hb2.trans bF).trans hb3⟩
end Go.Proofs.YtepffbgelaajnaaGreatDoor
namespace Go.Proofs.YtepffbgelaajnaaGreatDoor
open Go.RowKit Go.PlainAid
structure Pnt where
 t : Int
 v : Int
instance : Inhabited Pnt := ⟨⟨0, 0⟩⟩
theorem Pnt.same {x y : Pnt} (h1 : x.t = y.t) (h2 : x.v = y.v) : x = y := by
 cases x
 cases y
 simp only at h1 h2
 subst h1
 subst h2
 rfl
theorem Lies.behind {w : World} {B sz g off n c : Nat} {rows : List (List Value)} (h : Lies w B sz (.slice (some ⟨g, off, none⟩) n c) rows) (k : Nat) (hk : k ≤ rows.length) : Lies w B sz (.slice (some ⟨g, off + k * sz, none⟩) (n - k) (c - k)) (rows.drop k) := by
 obtain ⟨A', c', e, hz, hs, h⟩ := h
 cases e
 have hl : (rows.drop k).length = rows.length - k := List.length_drop
 refine ⟨_, c - k, by rw [hl], ⟨fun e => (by cases e), by rw [hl]; have := hz.2; omega⟩, fun r hr => hs r (List.mem_of_mem_drop hr), ?_⟩
 rw [hl]
 rcases h with h | ⟨g', off', e, hg, hc⟩
 ·exact .inl (by omega)
 ·cases e
  refine .inr ⟨g, off + k * sz, rfl, hg, fun j x hx => ?_⟩
  have hl2 : (rows.take k).flatten.length = k * sz := by rw [flat_length sz _ (fun r hr => hs r (List.mem_of_mem_take hr)), List.length_take, Nat.min_eq_left hk]
  have := hc (k * sz + j) x (by
   rw [← List.take_append_drop k rows, List.flatten_append, List.getElem?_append_right (by omega), hl2, Nat.add_sub_cancel_left]
   exact hx)
  rw [← Nat.add_assoc] at this
  exact this
end Go.Proofs.YtepffbgelaajnaaGreatDoor
namespace Go.Proofs.YtepffbgelaajnaaGreatDoor
open Go.ChangeShapes Go.WideShapes Go.ChangeAt Go.RowKit Go.PlainAid
set_option linter.unusedVariables false
theorem run_append_all {P : Program} (w : World) (t ty e : TypeId) (z : Value) (sz bytes : Nat)
  (ht : P.underlying t = some (.slice e)) (hinfo : (P.info? e).map (fun i => (i.zero, i.size, i.bytes)) = some (some z, sz, bytes)) (hzs : z.cells.size = sz) (hsz : 0 < sz)
  (base : Nat) (v u : Value) (rows more : List (List Value)) (B : Nat) (hown : Owns w base e sz v rows) (hu : Lies w B sz u more) (h1 : ∀ r ∈ more, ∀ y ∈ r, y.oneCell' = true)
  (hlen : rows.length + more.length ≤ 2097152) (hby : bytes ≤ 1000) (hbase : base ≤ w.heap.size) :
  ∃ A m c w', (Builtin.append_ #[t, t] ty #[v, u]).run P w = .ok (.slice A m c) w' ∧ Owns w' base e sz (.slice A m c) (rows ++ more) ∧ Below base w w' ∧ (∀ g, g < w.heap.size → v.ownBlock ≠ some g → w'.heap[g]? = w.heap[g]?) := by
 obtain ⟨i0, hi, hz0, hz1, hz2⟩ := info_parts hinfo
 have hb1 : (rows.length + more.length) * bytes ≤ 140737488355328 := Nat.le_trans (Nat.mul_le_mul hlen hby) (by omega)
 obtain ⟨A, cap, rfl, hz, hms, hm⟩ := hu
 match A, hz, hm with
 | none, hz, hm =>
  have h0 : more.length = 0 := by
   rcases hm with h0 | ⟨g, off, e, _⟩
   ·exact h0
   ·cases e
  have hc0 := hz.1 rfl
  subst hc0
  have hnil : more = [] := List.eq_nil_of_length_eq_zero h0
  subst hnil
  have hr := run_append_owned_none (P := P) w base t ty e i0 sz ht hi v rows.length rows.flatten hown.2
  obtain ⟨A, m, c, rfl⟩ := hown.shape
  exact ⟨A, m, c, w, hr, by simpa using hown, Below.refl _ _, fun _ _ _ => rfl⟩
 | some ad, hz, hm =>
  have hnews : ∀ j y, more.flatten[j]? = some y → w.cell? (ad.add j) = some y := by
   intro j y hj
   rcases hm with h0 | ⟨g, off, e, hg, hc⟩
   ·rw [List.eq_nil_of_length_eq_zero h0] at hj
    simp at hj
   ·cases e
    have e1 : (⟨g, off, none⟩ : Addr).add j = ⟨g, off + j, none⟩ := by cases j <;> simp [Addr.add]
    rw [e1]
    exact hc j y hj
  have h1' : ∀ y ∈ more.flatten, y.oneCell' = true := by
   intro y hy
   obtain ⟨r, hr, hyr⟩ := List.mem_flatten.1 hy
   exact h1 r hr y hyr
  obtain ⟨v', w', hrun, h2, h3, _⟩ := run_append_own (P := P) w base t ty e i0 z sz bytes ht hi hz0 hz1 hz2 hzs hsz v rows.length rows.flatten hown.2 ad more.length cap more.flatten (flat_length sz more hms) hnews h1' (by unfold maxLen; omega) hb1 hbase
  have hb0 : ∀ k, v.ownBlock = some k → base ≤ k := fun k hk => (hown.lt k hk).1
  have hO : Owns w' base e sz v' (rows ++ more) := by
   refine ⟨?_, ?_⟩
   ·intro y hy
    rcases List.mem_append.1 hy with hy | hy
    ·exact hown.1 y hy
    ·exact hms y hy
   ·rw [List.length_append, List.flatten_append]
    exact h2
  obtain ⟨A, m, c, rfl⟩ := hO.shape
  exact ⟨A, m, c, w', hrun, hO, (Below.refl base w).grown h3 hbase hb0, fun g hg hne => h3.block g hg (fun e => hne e.symm)⟩
end Go.Proofs.YtepffbgelaajnaaGreatDoor
namespace Go.Proofs.YtepffbgelaajnaaGreatDoor
open Go.ChangeShapes Go.WideShapes Go.ChangeAt Go.RowKit Go.PlainAid
set_option linter.unusedVariables false
set_option maxRecDepth 20000 in
set_option maxHeartbeats 4000000 in
theorem implPlanSnap (x : Dsk) (s : Snp) (y : Wl) (v v1 : Value) (w : World) (B : Nat) (hv : DiskV w B v x) (hv1 : WalV w B v1 y) (hf : Fits x) (hi : IntsOk x) (hf1 : FitsW y) (hd : s.data.size ≤ maxLen) (hw : wtD x ≤ 1048576) (hB : B ≤ w.heap.size) (ht : SumTab w) :
  Calls Tryz.prog 21 #[v, vSnp s, v1] w fun e w' => ∃ u, e = .returned u ∧ Owns w' w.heap.size 75 4 u (stpR (psnapR x s y)) ∧ Below w.heap.size w w' := by
 have HV : Hid (DiskV w B v x) := hv
 have HV1 : Hid (WalV w B v1 y) := hv1
 have HB : Hid (B ≤ w.heap.size) := hB
 have HT : Hid (SumTab w) := ht
 have HF1 : Hid (FitsW y) := hf1
 have HD : Hid (s.data.size ≤ maxLen) := hd
 obtain ⟨u, ub, uc, rfl, _, _, _⟩ := hv
 obtain ⟨u1, rfl, _⟩ := hv1
 have cO := fun wx hx hb => openedV x (.agg #[.int .i64 x.room, .int .i64 x.next, u, ub, uc]) wx B hx hf hi hw hb
 have cI := fun wx => isSnapV s wx HD.out
 have cW := fun wx hx hb => implWalOk y (.agg #[.int .i64 y.term, .int .i64 y.vote, .int .i64 y.base, .int .i64 y.bterm, u1]) wx B hx HF1.out hb
 have cT := fun wx hx hb ht => implWalText y (.agg #[.int .i64 y.term, .int .i64 y.vote, .int .i64 y.base, .int .i64 y.bterm, u1]) wx B hx HF1.out hb ht
 have cN := fun wx ht => implShowSnap s wx HD.out ht
 unfold vSnp at *
 clear hB hf hi hw hf1 ht hd
 go_enter Tryz.func21, Tryz.ntmps21
 go_wp2_with fail
 have hb0 : Below w.heap.size w (((w.alloc (.cells #[.int .i64 x.room, .int .i64 x.next, u, ub, uc] 38)).alloc (.cells #[.int .i64 s.index, .int .i64 s.term, .string s.data] 55)).alloc (.cells #[.int .i64 y.term, .int .i64 y.vote, .int .i64 y.base, .int .i64 y.bterm, u1] 42)) := (((Below.refl _ w).alloc (Nat.le_refl _) _).alloc (by simp) _).alloc (by simp; omega) _
 have s0 := (Blk.new (w.alloc (.cells #[.int .i64 x.room, .int .i64 x.next, u, ub, uc] 38)) #[.int .i64 s.index, .int .i64 s.term, .string s.data] 55).alloc (.cells #[.int .i64 y.term, .int .i64 y.vote, .int .i64 y.base, .int .i64 y.bterm, u1] 42)
 have j0 := Blk.new ((w.alloc (.cells #[.int .i64 x.room, .int .i64 x.next, u, ub, uc] 38)).alloc (.cells #[.int .i64 s.index, .int .i64 s.term, .string s.data] 55)) #[.int .i64 y.term, .int .i64 y.vote, .int .i64 y.base, .int .i64 y.bterm, u1] 42
 simp only [World.size_alloc] at j0 s0
 generalize ((w.alloc (.cells #[.int .i64 x.room, .int .i64 x.next, u, ub, uc] 38)).alloc (.cells #[.int .i64 s.index, .int .i64 s.term, .string s.data] 55)).alloc (.cells #[.int .i64 y.term, .int .i64 y.vote, .int .i64 y.base, .int .i64 y.bterm, u1] 42) = W at *
 have B0 : Hid (Below w.heap.size w W) := hb0
 have S0 : Hid (Blk W (w.heap.size + 1) #[.int .i64 s.index, .int .i64 s.term, .string s.data] 55) := s0
 have J0 : Hid (Blk W (w.heap.size + 1 + 1) #[.int .i64 y.term, .int .i64 y.vote, .int .i64 y.base, .int .i64 y.bterm, u1] 42) := j0
 clear hb0 j0 s0
 refine (cO W (HV.out.on (B0.out.mono HB.out)) (Nat.le_trans HB.out B0.out.size)).mono ?_
 rintro e w1 ⟨hb, h⟩
 have B1 : Hid (Below w.heap.size w w1) := B0.out.trans (hb.mono B0.out.size)
 have S1 : Hid (Blk w1 (w.heap.size + 1) #[.int .i64 s.index, .int .i64 s.term, .string s.data] 55) := S0.out.on hb S0.out.lt
 have J1 : Hid (Blk w1 (w.heap.size + 1 + 1) #[.int .i64 y.term, .int .i64 y.vote, .int .i64 y.base, .int .i64 y.bterm, u1] 42) := J0.out.on hb J0.out.lt
 clear hb cO S0 J0
 rcases h with ⟨hn, rfl⟩ | ⟨hy, p, bi, bd, bw, gs, uu, rfl, hO⟩
 ·have HR : Hid (psnapR x s y = []) := by unfold Hid psnapR; rw [if_neg (by rw [hn]; simp)]
  clear hn cW cT cI cN
  go_wp2_with fail
  go_ret
  exact ⟨_, rfl, by rw [HR.out]; exact Owns.nil _ _ _ _, B1.out⟩
 have HO : Hid (OpenD w1 W.heap.size p x bi bd bw gs uu) := hO
 have HY : Hid (diskOk x = true) := hy
 clear hO hy
 have y0 := S1.out.cell 0 _ rfl
 have y1 := S1.out.cell 1 _ rfl
 have y2 := S1.out.cell 2 _ rfl
 go_wp2_with fail
 refine (cI w1).mono ?_
 rintro e w2 ⟨rfl, hb2⟩
 have B2 : Hid (Below w.heap.size w w2) := B1.out.trans (hb2.mono B1.out.size)
 have S2 : Hid (Blk w2 (w.heap.size + 1) #[.int .i64 s.index, .int .i64 s.term, .string s.data] 55) := S1.out.on hb2 S1.out.lt
 have J2 : Hid (Blk w2 (w.heap.size + 1 + 1) #[.int .i64 y.term, .int .i64 y.vote, .int .i64 y.base, .int .i64 y.bterm, u1] 42) := J1.out.on hb2 J1.out.lt
 have HO2 : Hid (OpenD w2 W.heap.size p x bi bd bw gs uu) := HO.out.on hb2
 clear hb2 cI y0 y1 y2 B1 S1 J1 HO
 cases hs : isSn s
 ·have HR : Hid (psnapR x s y = []) := by unfold Hid psnapR; rw [if_neg (by rw [hs]; simp)]
  clear hs cW cT cN
  go_wp2_with fail
  go_ret
  exact ⟨_, rfl, by rw [HR.out]; exact Owns.nil _ _ _ _, B2.out⟩
 have HS : Hid (isSn s = true) := hs
 clear hs
 have y0 := J2.out.cell 0 _ rfl
 have y1 := J2.out.cell 1 _ rfl
 have y2 := J2.out.cell 2 _ rfl
 have y3 := J2.out.cell 3 _ rfl
 have y4 := J2.out.cell 4 _ rfl
 go_wp2_with fail
 refine (cW w2 (HV1.out.on (B2.out.mono HB.out)) (Nat.le_trans HB.out B2.out.size)).mono ?_
 rintro e w3 ⟨rfl, hb3⟩
 have B3 : Hid (Below w.heap.size w w3) := B2.out.trans (hb3.mono B2.out.size)
 have S3 : Hid (Blk w3 (w.heap.size + 1) #[.int .i64 s.index, .int .i64 s.term, .string s.data] 55) := S2.out.on hb3 S2.out.lt
 have J3 : Hid (Blk w3 (w.heap.size + 1 + 1) #[.int .i64 y.term, .int .i64 y.vote, .int .i64 y.base, .int .i64 y.bterm, u1] 42) := J2.out.on hb3 J2.out.lt
 have HO3 : Hid (OpenD w3 W.heap.size p x bi bd bw gs uu) := HO2.out.on hb3
 clear hb3 cW y0 y1 y2 y3 y4 B2 S2 J2 HO2
 cases hk : walOk y
 ·have HR : Hid (psnapR x s y = []) := by unfold Hid psnapR; rw [if_neg (by rw [hk]; simp)]
  clear hk cT cN
  go_wp2_with fail
  go_ret
  exact ⟨_, rfl, by rw [HR.out]; exact Owns.nil _ _ _ _, B3.out⟩
 have HR : Hid (psnapR x s y = anewL x snapN (showSn s) ++ anewL x logN (walT y)) := by unfold Hid psnapR; rw [if_pos ⟨HY.out, HS.out, hk⟩]
 clear hk
 have Q0 : Hid (w3.drew.cell? ⟨w.heap.size + 1, 0, none⟩ = some (.int .i64 s.index) ∧ w3.drew.cell? ⟨w.heap.size + 1, 1, none⟩ = some (.int .i64 s.term) ∧ w3.drew.cell? ⟨w.heap.size + 1, 2, none⟩ = some (.string s.data) ∧ w3.drew.cell? ⟨w.heap.size + 1 + 1, 0, none⟩ = some (.int .i64 y.term) ∧ w3.drew.cell? ⟨w.heap.size + 1 + 1, 1, none⟩ = some (.int .i64 y.vote) ∧ w3.drew.cell? ⟨w.heap.size + 1 + 1, 2, none⟩ = some (.int .i64 y.base) ∧ w3.drew.cell? ⟨w.heap.size + 1 + 1, 3, none⟩ = some (.int .i64 y.bterm) ∧ w3.drew.cell? ⟨w.heap.size + 1 + 1, 4, none⟩ = some (u1)) := ⟨S3.out.cell 0 _ rfl, S3.out.cell 1 _ rfl, S3.out.cell 2 _ rfl, J3.out.cell 0 _ rfl, J3.out.cell 1 _ rfl, J3.out.cell 2 _ rfl, J3.out.cell 3 _ rfl, J3.out.cell 4 _ rfl⟩
 go_wp2_with fail
 refine wp_region_until (fun w' => w'.cell? ⟨w.heap.size + 1, 0, none⟩ = some (.int .i64 s.index) ∧ w'.cell? ⟨w.heap.size + 1, 1, none⟩ = some (.int .i64 s.term) ∧ w'.cell? ⟨w.heap.size + 1, 2, none⟩ = some (.string s.data) ∧ w'.cell? ⟨w.heap.size + 1 + 1, 0, none⟩ = some (.int .i64 y.term) ∧ w'.cell? ⟨w.heap.size + 1 + 1, 1, none⟩ = some (.int .i64 y.vote) ∧ w'.cell? ⟨w.heap.size + 1 + 1, 2, none⟩ = some (.int .i64 y.base) ∧ w'.cell? ⟨w.heap.size + 1 + 1, 3, none⟩ = some (.int .i64 y.bterm) ∧ w'.cell? ⟨w.heap.size + 1 + 1, 4, none⟩ = some (u1)) (fun i => false) 10 (by rfl) (by kernel_rfl) ?_
 have BX : Hid (Below w.heap.size w w3.drew) := B3.out.drew
 have SX : Hid (Blk w3.drew (w.heap.size + 1) #[.int .i64 s.index, .int .i64 s.term, .string s.data] 55) := S3.out
 have JX : Hid (Blk w3.drew (w.heap.size + 1 + 1) #[.int .i64 y.term, .int .i64 y.vote, .int .i64 y.base, .int .i64 y.bterm, u1] 42) := J3.out
 have HOX : Hid (OpenD w3.drew W.heap.size p x bi bd bw gs uu) := HO3.out.on (Below.refl _ w3).drew
 clear B3 S3 J3 HO3
 generalize w3.drew = wX at *
 refine until_pure 0 (v := ?_) (by rfl) (by kernel_rfl) (by exact fun _ _ _ h => h) (by rfl) ?_ ?_
 rotate_left
 ·intro w
  go_simp
  try with_reducible rfl
 try simp only [Act.put, setIfInBounds_toArray, set_cons_zero, set_cons_succ]
 refine until_take 1 (v := ?_) (by rfl) (by kernel_rfl) (by exact fun _ _ _ h => h) (by rfl) ?_ Q0.out ?_
 rotate_left
 ·intro w hSw
  try dsimp only at hSw
  go_simp
  try with_reducible rfl
 try simp only [Act.put, setIfInBounds_toArray, set_cons_zero, set_cons_succ]
 refine until_pure 4 (v := ?_) (by rfl) (by kernel_rfl) (by exact fun _ _ _ h => h) (by rfl) ?_ ?_
 rotate_left
 ·intro w
  go_simp
  try with_reducible rfl
 try simp only [Act.put, setIfInBounds_toArray, set_cons_zero, set_cons_succ]
 refine until_take 5 (v := ?_) (by rfl) (by kernel_rfl) (by exact fun _ _ _ h => h) (by rfl) ?_ Q0.out ?_
 rotate_left
 ·intro w hSw
  try dsimp only at hSw
  go_simp
  try with_reducible rfl
 try simp only [Act.put, setIfInBounds_toArray, set_cons_zero, set_cons_succ]
 refine until_one 2 (by rfl) (by kernel_rfl) (fun K hK => ?_)
 go_simp
 refine (cN wX (HT.out.on BX.out)).mono ?_
 rintro e w4 ⟨rfl, hb4⟩
 have B4 : Hid (Below w.heap.size w w4) := BX.out.trans (hb4.mono BX.out.size)
 have S4 : Hid (Blk w4 (w.heap.size + 1) #[.int .i64 s.index, .int .i64 s.term, .string s.data] 55) := SX.out.on hb4 SX.out.lt
 have J4 : Hid (Blk w4 (w.heap.size + 1 + 1) #[.int .i64 y.term, .int .i64 y.vote, .int .i64 y.base, .int .i64 y.bterm, u1] 42) := JX.out.on hb4 JX.out.lt
 have HO4 : Hid (OpenD w4 W.heap.size p x bi bd bw gs uu) := HOX.out.on hb4
 have P4 : Hid (w.heap.size + 1 < w4.heap.size) := S4.out.lt
 have P5 : Hid (w.heap.size + 1 + 1 < w4.heap.size) := J4.out.lt
 clear hb4 cN BX SX JX HOX
 go_wp2_with fail
 refine hK.out _ _ (fun _ _ => ⟨S4.out.cell 0 _ rfl, S4.out.cell 1 _ rfl, S4.out.cell 2 _ rfl, J4.out.cell 0 _ rfl, J4.out.cell 1 _ rfl, J4.out.cell 2 _ rfl, J4.out.cell 3 _ rfl, J4.out.cell 4 _ rfl⟩) ?_
 clear hK K
 try simp only [Act.put, setIfInBounds_toArray, set_cons_zero, set_cons_succ]
 refine until_one 3 (by rfl) (by kernel_rfl) (fun K hK => ?_)
 go_simp
 have cR := replacingV w4 W.heap.size p x bi bd bw gs uu snapN (showSn s) HO4.out ((whole_iff x).1 HY.out) (by unfold snapN; decide)
 unfold snapN at cR
 refine cR.mono ?_
 rintro e w5 ⟨v5, rfl, hO5, hb5⟩
 have B5 : Hid (Below w.heap.size w w5) := B4.out.trans (hb5.mono B4.out.size)
 have S5 : Hid (Blk w5 (w.heap.size + 1) #[.int .i64 s.index, .int .i64 s.term, .string s.data] 55) := S4.out.on hb5 S4.out.lt
 have J5 : Hid (Blk w5 (w.heap.size + 1 + 1) #[.int .i64 y.term, .int .i64 y.vote, .int .i64 y.base, .int .i64 y.bterm, u1] 42) := J4.out.on hb5 J4.out.lt
 have HO5 : Hid (OpenD w5 W.heap.size p x bi bd bw gs uu) := HO4.out.on hb5
 have O5 : Hid (Owns w5 w4.heap.size 75 4 v5 (stpR (anewL x snapN (showSn s)))) := hO5
 have C5 : Hid (Below w4.heap.size w4 w5) := hb5
 clear hb5 hO5 cR S4 J4 HO4
 go_wp2_with fail
 refine hK.out _ _ (fun _ _ => ⟨S5.out.cell 0 _ rfl, S5.out.cell 1 _ rfl, S5.out.cell 2 _ rfl, J5.out.cell 0 _ rfl, J5.out.cell 1 _ rfl, J5.out.cell 2 _ rfl, J5.out.cell 3 _ rfl, J5.out.cell 4 _ rfl⟩) ?_
 clear hK K
 try simp only [Act.put, setIfInBounds_toArray, set_cons_zero, set_cons_succ]
 refine until_one 6 (by rfl) (by kernel_rfl) (fun K hK => ?_)
 go_simp
 refine (cT w5 (HV1.out.on (B5.out.mono HB.out)) (Nat.le_trans HB.out B5.out.size) (HT.out.on B5.out)).mono ?_
 rintro e w6 ⟨rfl, hb6⟩
 have B6 : Hid (Below w.heap.size w w6) := B5.out.trans (hb6.mono B5.out.size)
 have S6 : Hid (Blk w6 (w.heap.size + 1) #[.int .i64 s.index, .int .i64 s.term, .string s.data] 55) := S5.out.on hb6 S5.out.lt
 have J6 : Hid (Blk w6 (w.heap.size + 1 + 1) #[.int .i64 y.term, .int .i64 y.vote, .int .i64 y.base, .int .i64 y.bterm, u1] 42) := J5.out.on hb6 J5.out.lt
 have HO6 : Hid (OpenD w6 W.heap.size p x bi bd bw gs uu) := HO5.out.on hb6
 have O6 : Hid (Owns w6 w4.heap.size 75 4 v5 (stpR (anewL x snapN (showSn s)))) := O5.out.on hb6
 have C6 : Hid (Below w4.heap.size w4 w6) := C5.out.trans (hb6.mono C5.out.size)
 clear hb6 cT B5 S5 J5 HO5 O5 C5
 go_wp2_with fail
 refine hK.out _ _ (fun _ _ => ⟨S6.out.cell 0 _ rfl, S6.out.cell 1 _ rfl, S6.out.cell 2 _ rfl, J6.out.cell 0 _ rfl, J6.out.cell 1 _ rfl, J6.out.cell 2 _ rfl, J6.out.cell 3 _ rfl, J6.out.cell 4 _ rfl⟩) ?_
 clear hK K
 try simp only [Act.put, setIfInBounds_toArray, set_cons_zero, set_cons_succ]
 refine until_one 7 (by rfl) (by kernel_rfl) (fun K hK => ?_)
 go_simp
 have cR := replacingV w6 W.heap.size p x bi bd bw gs uu logN (walT y) HO6.out ((whole_iff x).1 HY.out) (by unfold logN; decide)
 unfold logN at cR
 refine cR.mono ?_
 rintro e w7 ⟨v7, rfl, hO7, hb7⟩
 have B7 : Hid (Below w.heap.size w w7) := B6.out.trans (hb7.mono B6.out.size)
 have S7 : Hid (Blk w7 (w.heap.size + 1) #[.int .i64 s.index, .int .i64 s.term, .string s.data] 55) := S6.out.on hb7 S6.out.lt
 have J7 : Hid (Blk w7 (w.heap.size + 1 + 1) #[.int .i64 y.term, .int .i64 y.vote, .int .i64 y.base, .int .i64 y.bterm, u1] 42) := J6.out.on hb7 J6.out.lt
 have HO7 : Hid (OpenD w7 W.heap.size p x bi bd bw gs uu) := HO6.out.on hb7
 have O7 : Hid (Owns w7 w4.heap.size 75 4 v5 (stpR (anewL x snapN (showSn s)))) := O6.out.on hb7
 have L7 : Hid (Lies w7 w7.heap.size 4 v7 (stpR (anewL x logN (walT y)))) := hO7.lies
 have C7 : Hid (Below w4.heap.size w4 w7) := C6.out.trans (hb7.mono C6.out.size)
 clear hb7 hO7 cR B6 S6 J6 HO6 O6 C6
 go_wp2_with fail
 refine hK.out _ _ (fun _ _ => ⟨S7.out.cell 0 _ rfl, S7.out.cell 1 _ rfl, S7.out.cell 2 _ rfl, J7.out.cell 0 _ rfl, J7.out.cell 1 _ rfl, J7.out.cell 2 _ rfl, J7.out.cell 3 _ rfl, J7.out.cell 4 _ rfl⟩) ?_
 clear hK K
 try simp only [Act.put, setIfInBounds_toArray, set_cons_zero, set_cons_succ]
 refine until_one 8 (by rfl) (by kernel_rfl) (fun K hK => ?_)
 have n1 : (stpR (anewL x snapN (showSn s))).length + (stpR (anewL x logN (walT y))).length ≤ 2097152 := by rw [stpR_length, stpR_length]; have := anewL_length x snapN (showSn s); have := anewL_length x logN (walT y); omega
 obtain ⟨Ap, mp, cp, w8, hr, hOp, hbp, hkp⟩ := run_append_all (P := Tryz.prog) w7 32 32 75 (.agg #[.int .i64 0, .string ⟨#[]⟩, .string ⟨#[]⟩, .string ⟨#[]⟩]) 4 56 Tryz.underlying32 Tryz.infoStp rfl (by omega) w4.heap.size _ _ _ _ w7.heap.size O7.out L7.out (stp_one _) n1 (by omega) C7.out.size
 refine step_append_run (by rfl) (.tmp 25) (.tmp 29) 32 (by rfl) _ _ _ _ (by rfl) (by rfl) hr ?_
 have O8 : Hid (Owns w8 w4.heap.size 75 4 (.slice Ap mp cp) (stpR (anewL x snapN (showSn s)) ++ stpR (anewL x logN (walT y)))) := hOp
 have B8 : Hid (Below w.heap.size w w8) := B7.out.trans (hbp.mono B4.out.size)
 have S8 : Hid (Blk w8 (w.heap.size + 1) #[.int .i64 s.index, .int .i64 s.term, .string s.data] 55) := S7.out.on hbp P4.out
 have J8 : Hid (Blk w8 (w.heap.size + 1 + 1) #[.int .i64 y.term, .int .i64 y.vote, .int .i64 y.base, .int .i64 y.bterm, u1] 42) := J7.out.on hbp P5.out
 clear hr hOp hbp hkp n1
 refine hK.out _ _ (fun _ _ => ⟨S8.out.cell 0 _ rfl, S8.out.cell 1 _ rfl, S8.out.cell 2 _ rfl, J8.out.cell 0 _ rfl, J8.out.cell 1 _ rfl, J8.out.cell 2 _ rfl, J8.out.cell 3 _ rfl, J8.out.cell 4 _ rfl⟩) ?_
 clear hK K
 try simp only [Act.put, setIfInBounds_toArray, set_cons_zero, set_cons_succ]
 refine until_pure 9 (v := ?_) (by rfl) (by kernel_rfl) (by exact fun _ _ _ h => h) (by rfl) ?_ ?_
 rotate_left
 ·intro w
  go_simp
  try with_reducible rfl
 try simp only [Act.put, setIfInBounds_toArray, set_cons_zero, set_cons_succ]
 clear Q0
 refine until_done (by kernel_rfl) ?_ _
 go_wp2_with fail
 go_ret
 exact ⟨_, rfl, by rw [HR.out, stpR_append]; exact O8.out.mono B4.out.size, B8.out⟩
end Go.Proofs.YtepffbgelaajnaaGreatDoor
namespace Go.Proofs.YtepffbgelaajnaaGreatDoor
open Go.ChangeShapes Go.WideShapes Go.ChangeAt Go.RowKit Go.PlainAid
set_option linter.unusedVariables false
set_option maxRecDepth 20000 in
set_option maxHeartbeats 4000000 in
theorem okHead (d : Dsk) (v : Value) (w : World) (B : Nat) (hv : DiskV w B v d) (l1 : d.nods.length ≤ 1048576) (l2 : d.dir.length ≤ 1048576) (l3 : d.movs.length ≤ 1048576) (hs : bytesOf d.nods ≤ 4194304) (hB : B ≤ w.heap.size) (hR : ¬ Right d) :
  Calls Tryz.prog 26 #[v] w fun e w' => e = .returned (.bool (diskOk d)) ∧ Below w.heap.size w w' := by
 have HY : Hid (diskOk d = false) := diskOk_size (sizeOk_no hR)
 have HV : Hid (DiskV w B v d) := hv
 have HR : Hid (¬ Right d) := hR
 have HB : Hid (B ≤ w.heap.size) := hB
 obtain ⟨v1, v2, v3, rfl, h1, h2, h3⟩ := hv
 obtain ⟨A1, c1, rfl, _⟩ := nod_look h1
 obtain ⟨A2, c2, rfl, _⟩ := lnk_look h2
 obtain ⟨A3, c3, rfl, _⟩ := mov_look h3
 have cR := fun wx => inB d.room 0 1048576 wx
 have cX := fun wx => inB d.next 1 1000000 wx
 have cB := fun wx hx hb => bytesV d (.agg #[.int .i64 d.room, .int .i64 d.next, .slice A1 d.nods.length c1, .slice A2 d.dir.length c2, .slice A3 d.movs.length c3]) wx B hx (by omega) hs hb
 have q1 : (d.nods.length : Int) ≤ 1048576 := by omega
 have q2 : (d.dir.length : Int) ≤ 1048576 := by omega
 have q3 : (d.movs.length : Int) ≤ 1048576 := by omega
 have q0 : (bytesOf d.nods : Int) ≤ 4194304 := by omega
 rename_i z1 z2 z3
 clear h1 h2 h3 hB hR l1 l2 l3 hs z1 z2 z3
 rw [HY.out]
 have Rr : Hid (¬ (0 ≤ d.room ∧ d.room ≤ 1048576) → (decide (0 ≤ d.room) && decide (d.room ≤ 1048576)) = false) := fun h => by
  by_cases h1 : 0 ≤ d.room
  ·rw [decide_eq_false (fun h2 => h ⟨h1, h2⟩), Bool.and_false]
  ·rw [decide_eq_false h1]; rfl
 have Rx : Hid (¬ (1 ≤ d.next ∧ d.next ≤ 1000000) → (decide (1 ≤ d.next) && decide (d.next ≤ 1000000)) = false) := fun h => by
  by_cases h1 : 1 ≤ d.next
  ·rw [decide_eq_false (fun h2 => h ⟨h1, h2⟩), Bool.and_false]
  ·rw [decide_eq_false h1]; rfl
 by_cases r : 0 ≤ d.room ∧ d.room ≤ 1048576
 ·rw [decide_eq_true r.1, decide_eq_true r.2] at cR
  by_cases x : 1 ≤ d.next ∧ d.next ≤ 1000000
  ·rw [decide_eq_true x.1, decide_eq_true x.2] at cX
   by_cases n1 : (10 : Int) < (d.nods.length : Int)
   ·clear cB
    go_enter Tryz.func26, Tryz.ntmps26
    go_wp2_with (first
     | (go_at_call_of 56 (Value.int .i64 d.room); refine (cR _).mono ?_; rintro e w1 ⟨rfl, rfl⟩)
     | (go_at_call_of 56 (Value.int .i64 d.next); refine (cX _).mono ?_; rintro e w1 ⟨rfl, rfl⟩))
    go_ret
    exact ⟨rfl, (Below.refl _ _).alloc (Nat.le_refl _) _⟩
   ·have n1' : decide ((10 : Int) < (d.nods.length : Int)) = false := decide_eq_false n1
    by_cases n2 : (20 : Int) < (d.movs.length : Int)
    ·clear cB
     go_enter Tryz.func26, Tryz.ntmps26
     go_wp2_with (first
      | (go_at_call_of 56 (Value.int .i64 d.room); refine (cR _).mono ?_; rintro e w1 ⟨rfl, rfl⟩)
      | (go_at_call_of 56 (Value.int .i64 d.next); refine (cX _).mono ?_; rintro e w1 ⟨rfl, rfl⟩))
     go_ret
     exact ⟨rfl, (Below.refl _ _).alloc (Nat.le_refl _) _⟩
    ·have n2' : decide ((20 : Int) < (d.movs.length : Int)) = false := decide_eq_false n2
     by_cases n3 : (10 : Int) < (d.dir.length : Int)
     ·clear cB
      go_enter Tryz.func26, Tryz.ntmps26
      go_wp2_with (first
       | (go_at_call_of 56 (Value.int .i64 d.room); refine (cR _).mono ?_; rintro e w1 ⟨rfl, rfl⟩)
       | (go_at_call_of 56 (Value.int .i64 d.next); refine (cX _).mono ?_; rintro e w1 ⟨rfl, rfl⟩))
      go_ret
      exact ⟨rfl, (Below.refl _ _).alloc (Nat.le_refl _) _⟩
     ·have n3' : decide ((10 : Int) < (d.dir.length : Int)) = false := decide_eq_false n3
      have n4 : d.room < (bytesOf d.nods : Int) := by
       rcases Int.lt_or_le d.room (bytesOf d.nods : Int) with h | h
       ·exact h
       ·exact absurd ⟨r.1, r.2, x.1, x.2, by omega, by omega, by omega, h⟩ HR.out
      go_enter Tryz.func26, Tryz.ntmps26
      go_wp2_with (first
       | (go_at_call_of 56 (Value.int .i64 d.room); refine (cR _).mono ?_; rintro e w1 ⟨rfl, rfl⟩)
       | (go_at_call_of 56 (Value.int .i64 d.next); refine (cX _).mono ?_; rintro e w1 ⟨rfl, rfl⟩))
      have hb0 : Below w.heap.size w (w.alloc (.cells #[.int .i64 d.room, .int .i64 d.next, .slice A1 d.nods.length c1, .slice A2 d.dir.length c2, .slice A3 d.movs.length c3] 38)) := (Below.refl _ _).alloc (Nat.le_refl _) _
      have kA := Blk.new w #[.int .i64 d.room, .int .i64 d.next, .slice A1 d.nods.length c1, .slice A2 d.dir.length c2, .slice A3 d.movs.length c3] 38
      generalize w.alloc (.cells #[.int .i64 d.room, .int .i64 d.next, .slice A1 d.nods.length c1, .slice A2 d.dir.length c2, .slice A3 d.movs.length c3] 38) = W at *
      have B0 : Hid (Below w.heap.size w W) := hb0
      have K0 : Hid (Blk W w.heap.size #[.int .i64 d.room, .int .i64 d.next, .slice A1 d.nods.length c1, .slice A2 d.dir.length c2, .slice A3 d.movs.length c3] 38) := kA
      have S0 : Hid (W.drew.cell? ⟨w.heap.size, 0, none⟩ = some (.int .i64 d.room) ∧ W.drew.cell? ⟨w.heap.size, 1, none⟩ = some (.int .i64 d.next) ∧ W.drew.cell? ⟨w.heap.size, 2, none⟩ = some (.slice A1 d.nods.length c1) ∧ W.drew.cell? ⟨w.heap.size, 3, none⟩ = some (.slice A2 d.dir.length c2) ∧ W.drew.cell? ⟨w.heap.size, 4, none⟩ = some (.slice A3 d.movs.length c3)) := ⟨kA.cell 0 _ rfl, kA.cell 1 _ rfl, kA.cell 2 _ rfl, kA.cell 3 _ rfl, kA.cell 4 _ rfl⟩
      have BD : Below w.heap.size w W.drew := hb0.trans ((below_drewN' W 1).mono hb0.size)
      have HW : Hid (w.heap.size < W.heap.size) := kA.lt
      have HZ : Hid (w.heap.size ≤ W.heap.size) := hb0.size
      have cI := cB W.drew (HV.out.on (BD.mono HB.out)) (Nat.le_trans HB.out BD.size)
      clear hb0 kA BD cB cR cX
      go_region_held3 (fun w' => w'.cell? ⟨w.heap.size, 0, none⟩ = some (.int .i64 d.room) ∧ w'.cell? ⟨w.heap.size, 1, none⟩ = some (.int .i64 d.next) ∧ w'.cell? ⟨w.heap.size, 2, none⟩ = some (.slice A1 d.nods.length c1) ∧ w'.cell? ⟨w.heap.size, 3, none⟩ = some (.slice A2 d.dir.length c2) ∧ w'.cell? ⟨w.heap.size, 4, none⟩ = some (.slice A3 d.movs.length c3)) (first | exact S2.out | exact S0.out)
       ((go_at_call 57; refine cI.mono ?_; rintro e w3 ⟨rfl, hb⟩; have S2 : Hid (w3.cell? ⟨w.heap.size, 0, none⟩ = some (.int .i64 d.room) ∧ w3.cell? ⟨w.heap.size, 1, none⟩ = some (.int .i64 d.next) ∧ w3.cell? ⟨w.heap.size, 2, none⟩ = some (.slice A1 d.nods.length c1) ∧ w3.cell? ⟨w.heap.size, 3, none⟩ = some (.slice A2 d.dir.length c2) ∧ w3.cell? ⟨w.heap.size, 4, none⟩ = some (.slice A3 d.movs.length c3)) := ⟨(hb.cell (p := ⟨w.heap.size, 0, none⟩) HW.out).trans S0.out.1, (hb.cell (p := ⟨w.heap.size, 1, none⟩) HW.out).trans S0.out.2.1, (hb.cell (p := ⟨w.heap.size, 2, none⟩) HW.out).trans S0.out.2.2.1, (hb.cell (p := ⟨w.heap.size, 3, none⟩) HW.out).trans S0.out.2.2.2.1, (hb.cell (p := ⟨w.heap.size, 4, none⟩) HW.out).trans S0.out.2.2.2.2⟩))
      all_goals go_wp2_with fail
      all_goals go_ret
      all_goals exact ⟨rfl, B0.out.trans (((below_drewN' W 1).mono HZ.out).trans (hb.mono HZ.out))⟩
  ·rw [Rx.out x] at cX
   clear cB
   go_enter Tryz.func26, Tryz.ntmps26
   go_wp2_with (first
    | (go_at_call_of 56 (Value.int .i64 d.room); refine (cR _).mono ?_; rintro e w1 ⟨rfl, rfl⟩)
    | (go_at_call_of 56 (Value.int .i64 d.next); refine (cX _).mono ?_; rintro e w1 ⟨rfl, rfl⟩))
   go_ret
   exact ⟨rfl, (Below.refl _ _).alloc (Nat.le_refl _) _⟩
 ·rw [Rr.out r] at cR
  clear cB cX
  go_enter Tryz.func26, Tryz.ntmps26
  go_wp2_with (go_at_call_of 56 (Value.int .i64 d.room); refine (cR _).mono ?_; rintro e w1 ⟨rfl, rfl⟩)
  go_ret
  exact ⟨rfl, (Below.refl _ _).alloc (Nat.le_refl _) _⟩
end Go.Proofs.YtepffbgelaajnaaGreatDoor
