/-
  Contract of impl.WalText.
-/
import Derived.Test.YtajodeahigmcoaaDoorRows
import Derived.Test.YtajodeahigmcoaaDoorWtDef
namespace Go.Proofs.YtajodeahigmcoaaDoor
open Go.ChangeShapes Go.WideShapes Go.ChangeAt Go.RowKit Go.PlainAid
set_option linter.unusedVariables false

theorem Owns.apartB {w : World} {base g : Nat} {v : Value} {rows : List (List Value)} {cs : Array Value} {t : TypeId} (h : Owns w base 55 1 v rows) (hb : Blk w g cs t) (hne : 55 ≠ t) : v.ownBlock ≠ some g := by
  intro hg
  obtain ⟨c, fz, e1⟩ := Lib.ownsRow_kind h.2 g hg
  unfold Blk at hb
  rw [e1] at hb
  cases hb
  exact hne rfl
theorem take_snoc (l : List Rcd) (k : Nat) (hk : k < l.length) : l.take (k + 1) = l.take k ++ [l.getD k ⟨0, 0, 0, 0, ByteArray.empty⟩] := by
  rw [List.getD_eq_getElem?_getD, List.getElem?_eq_getElem hk]
  exact List.take_succ_eq_append_getElem hk

set_option maxRecDepth 20000 in
set_option maxHeartbeats 8000000 in
theorem implWalText (x : Wl) (v : Value) (w : World) (B : Nat) (hv : WalV w B v x) (hf : FitsW x) (hB : B ≤ w.heap.size) (ht : SumTab w) : Calls Tryd.prog 8 #[v] w fun e w' => e = .returned (.string (walT x)) ∧ Below w.heap.size w w' := by
  have HV : Hid (WalV w B v x) := hv
  have HB : Hid (B ≤ w.heap.size) := hB
  have HT : Hid (SumTab w) := ht
  have cO := fun wx hx hb => implWalOk x v wx B hx hf hb
  have HE : Hid (walT x = if walOk x = true then catF (walRecs x) else ⟨#[]⟩) := rfl
  obtain ⟨u, rfl, _⟩ := hv
  clear ht hB hf
  have b0 : Below w.heap.size w (w.alloc (.cells #[.int .i64 x.term, .int .i64 x.vote, .int .i64 x.base, .int .i64 x.bterm, u] 26)) := (Below.refl _ _).alloc (Nat.le_refl _) _
  have k0 := Blk.new w #[.int .i64 x.term, .int .i64 x.vote, .int .i64 x.base, .int .i64 x.bterm, u] 26
  cases ho : walOk x
  · rw [ho] at cO HE
    clear ho
    go_enter Tryd.func8, Tryd.ntmps8
    go_wp2_with fail
    generalize w.alloc (.cells #[.int .i64 x.term, .int .i64 x.vote, .int .i64 x.base, .int .i64 x.bterm, u] 26) = W at *
    refine (cO W (HV.out.on (b0.mono HB.out)) (Nat.le_trans HB.out b0.size)).mono ?_
    rintro e w1 ⟨rfl, hb1⟩
    have B1 : Hid (Below w.heap.size w w1) := b0.trans (hb1.mono b0.size)
    clear hb1 cO k0 b0
    go_wp2_with fail
    go_ret
    exact ⟨by rw [HE.out]; rfl, B1.out⟩
  obtain ⟨n60, ⟨base0, base1⟩, hdd⟩ := ok_in x ho
  have HLR : Hid (∀ r ∈ walRecs x, LogRec r) := walRecs_log x hdd
  have HWL : Hid ((walRecs x).length ≤ 62) := by unfold Hid; rw [walRecs_length]; omega
  have HE : Hid (walT x = catF (walRecs x)) := by unfold Hid; rw [HE.out, ho]; rfl
  have cE := fun wx hx hb => entriesV x (.agg #[.int .i64 x.term, .int .i64 x.vote, .int .i64 x.base, .int .i64 x.bterm, u]) wx B hx n60 base0 base1 hb
  have HM : Hid (kindR (walRecs x) = [[.iface 46 (.agg #[.int .i64 x.base, .int .i64 x.bterm])], [.iface 48 (.agg #[.int .i64 x.term, .int .i64 x.vote])]] ++ kindR (entRecs x x.ents.length)) := by
    unfold Hid walRecs
    rw [kindR_append]
    rfl
  have HME : Hid ((kindR (entRecs x x.ents.length)).length ≤ 60) := by unfold Hid; rw [kindR_length, entRecs_length]; exact n60
  have HONE : Hid (∀ r ∈ kindR (entRecs x x.ents.length), ∀ y ∈ r, y.oneCell' = true) := by
    intro r hr y hy
    obtain ⟨q, hq, rfl⟩ := List.mem_map.1 hr
    obtain ⟨i, _, rfl⟩ := List.mem_map.1 hq
    simp only [List.mem_cons, List.not_mem_nil, or_false] at hy
    subst hy
    rw [kindV_at]
    rfl
  rw [ho] at cO
  clear ho hdd n60 base0 base1
  go_enter Tryd.func8, Tryd.ntmps8
  go_wp2_with fail
  generalize w.alloc (.cells #[.int .i64 x.term, .int .i64 x.vote, .int .i64 x.base, .int .i64 x.bterm, u] 26) = W at *
  refine (cO W (HV.out.on (b0.mono HB.out)) (Nat.le_trans HB.out b0.size)).mono ?_
  rintro e w1 ⟨rfl, hb1⟩
  have B1 : Hid (Below w.heap.size w w1) := b0.trans (hb1.mono b0.size)
  have K1 : Hid (Blk w1 w.heap.size #[.int .i64 x.term, .int .i64 x.vote, .int .i64 x.base, .int .i64 x.bterm, u] 26) := k0.on hb1 k0.lt
  clear hb1 cO k0 b0
  have e0 := K1.out.cell 0 (.int .i64 x.term) rfl
  have e1 := K1.out.cell 1 (.int .i64 x.vote) rfl
  have e2 := K1.out.cell 2 (.int .i64 x.base) rfl
  have e3 := K1.out.cell 3 (.int .i64 x.bterm) rfl
  have K2 : Hid (Blk (w1.alloc (.cells #[.iface 46 (.agg #[.int .i64 x.base, .int .i64 x.bterm]), .iface 48 (.agg #[.int .i64 x.term, .int .i64 x.vote])] 55)) w.heap.size #[.int .i64 x.term, .int .i64 x.vote, .int .i64 x.base, .int .i64 x.bterm, u] 26) := K1.out.alloc _
  have K3 : Hid (Blk ((w1.alloc (.cells #[.iface 46 (.agg #[.int .i64 x.base, .int .i64 x.bterm]), .iface 48 (.agg #[.int .i64 x.term, .int .i64 x.vote])] 55)).alloc (.cells #[.pointer none, .slice none 0 0] 52)) w.heap.size #[.int .i64 x.term, .int .i64 x.vote, .int .i64 x.base, .int .i64 x.bterm, u] 26) := K2.out.alloc _
  have f0 := K3.out.cell 0 (.int .i64 x.term) rfl
  have f1 := K3.out.cell 1 (.int .i64 x.vote) rfl
  have f2 := K3.out.cell 2 (.int .i64 x.base) rfl
  have f3 := K3.out.cell 3 (.int .i64 x.bterm) rfl
  have f4 := K3.out.cell 4 u rfl
  go_wp2_with fail
  have O2 := Owns.two w1 (.iface 46 (.agg #[.int .i64 x.base, .int .i64 x.bterm])) (.iface 48 (.agg #[.int .i64 x.term, .int .i64 x.vote]))
  have P3 := Blk.new (w1.alloc (.cells #[.iface 46 (.agg #[.int .i64 x.base, .int .i64 x.bterm]), .iface 48 (.agg #[.int .i64 x.term, .int .i64 x.vote])] 55)) #[.pointer none, .slice none 0 0] 52
  have B3 : Hid (Below w.heap.size w ((w1.alloc (.cells #[.iface 46 (.agg #[.int .i64 x.base, .int .i64 x.bterm]), .iface 48 (.agg #[.int .i64 x.term, .int .i64 x.vote])] 55)).alloc (.cells #[.pointer none, .slice none 0 0] 52))) := (B1.out.alloc B1.out.size _).alloc (Nat.le_trans B1.out.size (by simp)) _
  have O3 : Hid (Owns ((w1.alloc (.cells #[.iface 46 (.agg #[.int .i64 x.base, .int .i64 x.bterm]), .iface 48 (.agg #[.int .i64 x.term, .int .i64 x.vote])] 55)).alloc (.cells #[.pointer none, .slice none 0 0] 52)) w1.heap.size 55 1 _ _) := O2.alloc _
  have GG : Hid (w1.heap.size < w1.heap.size + 1) := Nat.lt_succ_self _
  have GW1 : Hid (w.heap.size < w1.heap.size) := K1.out.lt
  simp only [World.size_alloc] at P3
  clear e0 e1 e2 e3 f0 f1 f2 f3 f4 K2 K1 O2 B1
  generalize (w1.alloc (.cells #[.iface 46 (.agg #[.int .i64 x.base, .int .i64 x.bterm]), .iface 48 (.agg #[.int .i64 x.term, .int .i64 x.vote])] 55)).alloc (.cells #[.pointer none, .slice none 0 0] 52) = w3 at *
  generalize hgb : w1.heap.size + 1 = gb at *
  generalize w1.heap.size = gl at *
  have BK3 : Hid (Blk w3 gb #[.pointer none, .slice none 0 0] 52) := P3
  clear P3
  refine (cE w3 (HV.out.on (B3.out.mono HB.out)) (Nat.le_trans HB.out B3.out.size)).mono ?_
  rintro e w4 ⟨ue, rfl, hOe, hb4⟩
  have B4 : Hid (Below w.heap.size w w4) := B3.out.trans (hb4.mono B3.out.size)
  have BK4 : Hid (Blk w4 gb #[.pointer none, .slice none 0 0] 52) := BK3.out.on hb4 BK3.out.lt
  have O4 : Hid (Owns w4 gl 55 1 (.slice (some ⟨gl, 0, none⟩) 2 2) [[.iface 46 (.agg #[.int .i64 x.base, .int .i64 x.bterm])], [.iface 48 (.agg #[.int .i64 x.term, .int .i64 x.vote])]]) := O3.out.on hb4
  have LE : Hid (Lies w4 w4.heap.size 1 ue (kindR (entRecs x x.ents.length))) := hOe.lies
  have G4 : Hid (gl ≤ w4.heap.size) := by have := BK4.out.lt; unfold Hid; omega
  clear hb4 hOe B3 K3 BK3 O3 cE
  have qn0 : ((walRecs x).length : Int) ≤ 62 := by have := HWL.out; omega
  go_wp2_with (at_builtin; refine wpList_append_all rfl (.tmp 23) (.tmp 25) 49 55 .nilIface 1 16 rfl Tryd.underlying49 Tryd.infoRec rfl (by omega) gl _ ue [[.iface 46 (.agg #[.int .i64 x.base, .int .i64 x.bterm])], [.iface 48 (.agg #[.int .i64 x.term, .int .i64 x.vote])]] (kindR (entRecs x x.ents.length)) w4.heap.size rfl O4.out LE.out HONE.out rfl (by have := HME.out; simp only [List.length_cons, List.length_nil]; omega) (by omega) G4.out ?_; intro lv w5 hO5 hb5 hk5 hw5; rw [← HM.out] at hO5; obtain ⟨lA, lc, rfl, hlook⟩ := kind_look hO5)
  have OL5 : Hid (Owns w5 gl 55 1 (.slice lA (walRecs x).length lc) (kindR (walRecs x))) := hO5
  have BK5 : Hid (Blk w5 gb #[.pointer none, .slice none 0 0] 52) := by
    unfold Hid Blk
    rw [hk5 gb BK4.out.lt (O4.out.apartB BK4.out (by decide))]
    exact BK4.out
  have B5 : Hid (Below w.heap.size w w5) := B4.out.trans (hb5.mono (Nat.le_of_lt GW1.out))
  have GW : Hid (w.heap.size ≤ gb) := by have := GW1.out; unfold Hid; omega
  clear hO5 hb5 hk5 hw5 B4 BK4 O4 LE G4
  clear hlook
  have HNB : Hid ((Value.slice lA (walRecs x).length lc).ownBlock ≠ some gb) := OL5.out.apartB BK5.out (by decide)
  have st : Below w.heap.size w w5 ∧ Lib.IsBuilderF 52 5 gb gb (Lib.strCells (catF ((walRecs x).take 0))) w5 ∧ Owns w5 gl 55 1 (.slice lA (walRecs x).length lc) (kindR (walRecs x)) ∧ gb ≤ w5.heap.size := ⟨B5.out, bld_new BK5.out, OL5.out, Nat.le_of_lt BK5.out.lt⟩
  clear B5 OL5 BK5 GG
  generalize hN : (walRecs x).length = n at *
  have qn : (n : Int) ≤ 62 := by have := HWL.out; omega
  have NB : Hid ((Value.slice lA n lc).ownBlock ≠ some gb) := HNB.out
  clear HNB
  generalize hlm : n = lm at *
  go_loopw [28] (fun v28 wr => ∃ k : Nat, k ≤ lm ∧ v28 = .int .i64 (k : Int) ∧ Below w.heap.size w wr ∧ Lib.IsBuilderF 52 5 gb gb (Lib.strCells (catF ((walRecs x).take k))) wr ∧ Owns wr gl 55 1 (.slice lA lm lc) (kindR (walRecs x)) ∧ gb ≤ wr.heap.size) (fun i _ => lm - (intOf i).toNat)
  case atStart => exact ⟨0, by omega, rfl, st⟩
  case round =>
    obtain ⟨k, hk, rfl, hBR, hBL, hOL, hZR⟩ := hrel
    have BR : Hid (Below w.heap.size w wr) := hBR
    have BL : Hid (Lib.IsBuilderF 52 5 gb gb (Lib.strCells (catF ((walRecs x).take k))) wr) := hBL
    have OL : Hid (Owns wr gl 55 1 (.slice lA lm lc) (kindR (walRecs x))) := hOL
    have ZR : Hid (gb ≤ wr.heap.size) := hZR
    clear hBR hBL hOL hZR st
    by_cases hlt : k < lm
    · have q4 : (k : Int) < (lm : Int) := by omega
      obtain ⟨A', cap', e', hlook⟩ := kind_look OL.out
      injection e' with ea eb ec
      subst ea
      subst ec
      obtain ⟨g, rfl, hcell⟩ := hlook k (by omega)
      have hlog := HLR.out ((walRecs x).getD k ⟨0, 0, 0, 0, ByteArray.empty⟩) (by rw [List.getD_eq_getElem?_getD, List.getElem?_eq_getElem (show k < (walRecs x).length by omega)]; exact List.getElem_mem _)
      have HC : Hid (catF ((walRecs x).take (k + 1)) = catF ((walRecs x).take k) ++ frame (showR ((walRecs x).getD k ⟨0, 0, 0, 0, ByteArray.empty⟩))) := by
        unfold Hid
        rw [take_snoc _ _ (by omega), catF_snoc]
      have hcs := catF_size ((walRecs x).take k)
      have htl : ((walRecs x).take k).length ≤ 62 := by rw [List.length_take]; have := HWL.out; omega
      generalize (walRecs x).getD k ⟨0, 0, 0, 0, ByteArray.empty⟩ = r at *
      have HSZ : Hid ((showR r).size ≤ 1048576) := by have := showR_size r hlog.d; unfold Hid; omega
      have HLW : Hid ((Lib.strCells (catF ((walRecs x).take k))).length + (frame (showR r)).size ≤ 140737488355328) := by
        unfold Hid
        rw [Lib.strCells_length]
        have := frame_size (showR r)
        omega
      clear htl hcs hlook eb
      obtain ⟨rk, rt, ri, rv, rd⟩ := r
      rcases hlog.k with ⟨hk1, hk2, hk3⟩ | ⟨hk1, hk2, hk3⟩ | ⟨hk1, hk2⟩
      · simp only at hk1 hk2 hk3
        subst hk1
        subst hk2
        subst hk3
        have hkv : kindV ⟨4, rt, ri, 0, ⟨#[]⟩⟩ = .iface 46 (.agg #[.int .i64 ri, .int .i64 rt]) := rfl
        rw [hkv] at hcell
        have cM := fun wx => baseRec ri rt wx
        have cSh : ∀ wx, Calls Tryd.prog 26 #[.agg #[.int .i64 4, .int .i64 rt, .int .i64 ri, .int .i64 0, .string ⟨#[]⟩]] wx fun e w' => e = .returned (.string (showR ⟨4, rt, ri, 0, ⟨#[]⟩⟩)) ∧ Below wx.heap.size wx w' := fun wx => implShowRec ⟨4, rt, ri, 0, ⟨#[]⟩⟩ wx (Nat.zero_le _)
        clear hkv hlog
        generalize showR ⟨4, rt, ri, 0, ⟨#[]⟩⟩ = sr at *
        go_wp2_with fail
        refine (cM _).mono ?_
        rintro e w6 ⟨rfl, hb6⟩
        have B6 : Hid (Below w.heap.size w w6) := BR.out.trans (hb6.mono BR.out.size)
        have L6 : Hid (Lib.IsBuilderF 52 5 gb gb _ w6) := bld_on BL.out hb6
        have O6 : Hid (Owns w6 gl 55 1 (.slice (some ⟨g, 0, none⟩) lm lc) (kindR (walRecs x))) := OL.out.on hb6
        have Z6 : Hid (gb ≤ w6.heap.size) := Nat.le_trans ZR.out hb6.size
        clear hb6
        go_wp2_with fail
        refine (cSh w6).mono ?_
        rintro e w7 ⟨rfl, hb7⟩
        have B7 : Hid (Below w.heap.size w w7) := B6.out.trans (hb7.mono B6.out.size)
        have L7 : Hid (Lib.IsBuilderF 52 5 gb gb _ w7) := bld_on L6.out hb7
        have O7 : Hid (Owns w7 gl 55 1 (.slice (some ⟨g, 0, none⟩) lm lc) (kindR (walRecs x))) := O6.out.on hb7
        have Z7 : Hid (gb ≤ w7.heap.size) := Nat.le_trans Z6.out hb7.size
        clear hb7
        go_wp2_with fail
        refine (impl_frame sr w7 HSZ.out (HT.out.on B7.out)).mono ?_
        rintro e w8 ⟨rfl, hb8⟩
        have B8 : Hid (Below w.heap.size w w8) := B7.out.trans (hb8.mono B7.out.size)
        have L8 : Hid (Lib.IsBuilderF 52 5 gb gb _ w8) := bld_on L7.out hb8
        have O8 : Hid (Owns w8 gl 55 1 (.slice (some ⟨g, 0, none⟩) lm lc) (kindR (walRecs x))) := O7.out.on hb8
        have Z8 : Hid (gb ≤ w8.heap.size) := Nat.le_trans Z7.out hb8.size
        clear hb8
        go_wp2_with fail
        refine (bldWrite gb gb _ (frame sr) w8 L8.out HLW.out Z8.out).mono ?_
        rintro e w9 ⟨rfl, hB9, hb9, hk9⟩
        have B9 : Hid (Below w.heap.size w w9) := B8.out.trans (hb9.mono GW.out)
        have L9 : Hid (Lib.IsBuilderF 52 5 gb gb (Lib.strCells (catF ((walRecs x).take (k + 1)))) w9) := by
          unfold Hid
          rw [HC.out, strCells_append]
          exact .inr hB9
        have O9 : Hid (Owns w9 gl 55 1 (.slice (some ⟨g, 0, none⟩) lm lc) (kindR (walRecs x))) := O8.out.others hk9 (NB.out)
        have Z9 : Hid (gb ≤ w9.heap.size) := Nat.le_trans Z8.out hb9.size
        clear hb9 hk9 hB9
        go_wp2_with fail
        go_roundw
        case rel => exact ⟨k + 1, by omega, by go_num, B9.out, L9.out, O9.out, Z9.out⟩
        case measure => simp [intOf]; omega
      · simp only at hk1 hk2 hk3
        subst hk1
        subst hk2
        subst hk3
        have hkv : kindV ⟨1, rt, 0, rv, ⟨#[]⟩⟩ = .iface 48 (.agg #[.int .i64 rt, .int .i64 rv]) := rfl
        rw [hkv] at hcell
        have cM := fun wx => hardRec rt rv wx
        have cSh : ∀ wx, Calls Tryd.prog 26 #[.agg #[.int .i64 1, .int .i64 rt, .int .i64 0, .int .i64 rv, .string ⟨#[]⟩]] wx fun e w' => e = .returned (.string (showR ⟨1, rt, 0, rv, ⟨#[]⟩⟩)) ∧ Below wx.heap.size wx w' := fun wx => implShowRec ⟨1, rt, 0, rv, ⟨#[]⟩⟩ wx (Nat.zero_le _)
        clear hkv hlog
        generalize showR ⟨1, rt, 0, rv, ⟨#[]⟩⟩ = sr at *
        go_wp2_with fail
        refine (cM _).mono ?_
        rintro e w6 ⟨rfl, hb6⟩
        have B6 : Hid (Below w.heap.size w w6) := BR.out.trans (hb6.mono BR.out.size)
        have L6 : Hid (Lib.IsBuilderF 52 5 gb gb _ w6) := bld_on BL.out hb6
        have O6 : Hid (Owns w6 gl 55 1 (.slice (some ⟨g, 0, none⟩) lm lc) (kindR (walRecs x))) := OL.out.on hb6
        have Z6 : Hid (gb ≤ w6.heap.size) := Nat.le_trans ZR.out hb6.size
        clear hb6
        go_wp2_with fail
        refine (cSh w6).mono ?_
        rintro e w7 ⟨rfl, hb7⟩
        have B7 : Hid (Below w.heap.size w w7) := B6.out.trans (hb7.mono B6.out.size)
        have L7 : Hid (Lib.IsBuilderF 52 5 gb gb _ w7) := bld_on L6.out hb7
        have O7 : Hid (Owns w7 gl 55 1 (.slice (some ⟨g, 0, none⟩) lm lc) (kindR (walRecs x))) := O6.out.on hb7
        have Z7 : Hid (gb ≤ w7.heap.size) := Nat.le_trans Z6.out hb7.size
        clear hb7
        go_wp2_with fail
        refine (impl_frame sr w7 HSZ.out (HT.out.on B7.out)).mono ?_
        rintro e w8 ⟨rfl, hb8⟩
        have B8 : Hid (Below w.heap.size w w8) := B7.out.trans (hb8.mono B7.out.size)
        have L8 : Hid (Lib.IsBuilderF 52 5 gb gb _ w8) := bld_on L7.out hb8
        have O8 : Hid (Owns w8 gl 55 1 (.slice (some ⟨g, 0, none⟩) lm lc) (kindR (walRecs x))) := O7.out.on hb8
        have Z8 : Hid (gb ≤ w8.heap.size) := Nat.le_trans Z7.out hb8.size
        clear hb8
        go_wp2_with fail
        refine (bldWrite gb gb _ (frame sr) w8 L8.out HLW.out Z8.out).mono ?_
        rintro e w9 ⟨rfl, hB9, hb9, hk9⟩
        have B9 : Hid (Below w.heap.size w w9) := B8.out.trans (hb9.mono GW.out)
        have L9 : Hid (Lib.IsBuilderF 52 5 gb gb (Lib.strCells (catF ((walRecs x).take (k + 1)))) w9) := by
          unfold Hid
          rw [HC.out, strCells_append]
          exact .inr hB9
        have O9 : Hid (Owns w9 gl 55 1 (.slice (some ⟨g, 0, none⟩) lm lc) (kindR (walRecs x))) := O8.out.others hk9 (NB.out)
        have Z9 : Hid (gb ≤ w9.heap.size) := Nat.le_trans Z8.out hb9.size
        clear hb9 hk9 hB9
        go_wp2_with fail
        go_roundw
        case rel => exact ⟨k + 1, by omega, by go_num, B9.out, L9.out, O9.out, Z9.out⟩
        case measure => simp [intOf]; omega
      · simp only at hk1 hk2
        subst hk1
        subst hk2
        have hkv : kindV ⟨2, rt, ri, 0, rd⟩ = .iface 91 (.agg #[.int .i64 ri, .int .i64 rt, .string rd]) := rfl
        rw [hkv] at hcell
        have cM := fun wx => entryRec ri rt rd wx
        have cSh : ∀ wx, Calls Tryd.prog 26 #[.agg #[.int .i64 2, .int .i64 rt, .int .i64 ri, .int .i64 0, .string rd]] wx fun e w' => e = .returned (.string (showR ⟨2, rt, ri, 0, rd⟩)) ∧ Below wx.heap.size wx w' := fun wx => implShowRec ⟨2, rt, ri, 0, rd⟩ wx (Nat.le_trans hlog.d (by omega))
        clear hkv hlog
        generalize showR ⟨2, rt, ri, 0, rd⟩ = sr at *
        go_wp2_with fail
        refine (cM _).mono ?_
        rintro e w6 ⟨rfl, hb6⟩
        have B6 : Hid (Below w.heap.size w w6) := BR.out.trans (hb6.mono BR.out.size)
        have L6 : Hid (Lib.IsBuilderF 52 5 gb gb _ w6) := bld_on BL.out hb6
        have O6 : Hid (Owns w6 gl 55 1 (.slice (some ⟨g, 0, none⟩) lm lc) (kindR (walRecs x))) := OL.out.on hb6
        have Z6 : Hid (gb ≤ w6.heap.size) := Nat.le_trans ZR.out hb6.size
        clear hb6
        go_wp2_with fail
        refine (cSh w6).mono ?_
        rintro e w7 ⟨rfl, hb7⟩
        have B7 : Hid (Below w.heap.size w w7) := B6.out.trans (hb7.mono B6.out.size)
        have L7 : Hid (Lib.IsBuilderF 52 5 gb gb _ w7) := bld_on L6.out hb7
        have O7 : Hid (Owns w7 gl 55 1 (.slice (some ⟨g, 0, none⟩) lm lc) (kindR (walRecs x))) := O6.out.on hb7
        have Z7 : Hid (gb ≤ w7.heap.size) := Nat.le_trans Z6.out hb7.size
        clear hb7
        go_wp2_with fail
        refine (impl_frame sr w7 HSZ.out (HT.out.on B7.out)).mono ?_
        rintro e w8 ⟨rfl, hb8⟩
        have B8 : Hid (Below w.heap.size w w8) := B7.out.trans (hb8.mono B7.out.size)
        have L8 : Hid (Lib.IsBuilderF 52 5 gb gb _ w8) := bld_on L7.out hb8
        have O8 : Hid (Owns w8 gl 55 1 (.slice (some ⟨g, 0, none⟩) lm lc) (kindR (walRecs x))) := O7.out.on hb8
        have Z8 : Hid (gb ≤ w8.heap.size) := Nat.le_trans Z7.out hb8.size
        clear hb8
        go_wp2_with fail
        refine (bldWrite gb gb _ (frame sr) w8 L8.out HLW.out Z8.out).mono ?_
        rintro e w9 ⟨rfl, hB9, hb9, hk9⟩
        have B9 : Hid (Below w.heap.size w w9) := B8.out.trans (hb9.mono GW.out)
        have L9 : Hid (Lib.IsBuilderF 52 5 gb gb (Lib.strCells (catF ((walRecs x).take (k + 1)))) w9) := by
          unfold Hid
          rw [HC.out, strCells_append]
          exact .inr hB9
        have O9 : Hid (Owns w9 gl 55 1 (.slice (some ⟨g, 0, none⟩) lm lc) (kindR (walRecs x))) := O8.out.others hk9 (NB.out)
        have Z9 : Hid (gb ≤ w9.heap.size) := Nat.le_trans Z8.out hb9.size
        clear hb9 hk9 hB9
        go_wp2_with fail
        go_roundw
        case rel => exact ⟨k + 1, by omega, by go_num, B9.out, L9.out, O9.out, Z9.out⟩
        case measure => simp [intOf]; omega
    · obtain rfl : k = lm := by omega
      have HS : Hid (catF ((walRecs x).take k) = catF (walRecs x)) := by unfold Hid; rw [List.take_of_length_le (by omega)]
      rw [HS.out] at BL
      have cT := bldString gb gb (catF (walRecs x)).data.toList wr BL.out ZR.out
      go_wp2_with fail
      refine cT.mono ?_
      rintro e w9 ⟨rfl, _, hb9, _⟩
      go_wp2_with fail
      go_ret
      exact ⟨by rw [HE.out]; rfl, BR.out.trans (hb9.mono GW.out)⟩
end Go.Proofs.YtajodeahigmcoaaDoor
