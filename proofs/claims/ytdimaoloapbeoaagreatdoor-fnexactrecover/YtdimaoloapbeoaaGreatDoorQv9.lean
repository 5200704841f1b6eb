/- ImTakeM ImOpenA ImFindA -/
import Derived.Test.YtdimaoloapbeoaaGreatDoorRows
import Derived.Test.YtdimaoloapbeoaaGreatDoorQv8
import Derived.Test.YtdimaoloapbeoaaGreatDoorQv4
import Derived.Deep.RegionLaw
import Derived.Test.YtdimaoloapbeoaaGreatDoorQv5
namespace Go.Proofs.YtdimaoloapbeoaaGreatDoor
open Go.ChangeShapes Go.WideShapes Go.ChangeAt Go.RowKit Go.PlainAid Go.Maps
set_option linter.unusedVariables false
theorem run_append_row {P : Program} (w : World) (t ty e : TypeId) (z : Value) (sz bytes : Nat)
  (ht : P.underlying t = some (.slice e)) (hinfo : (P.info? e).map (fun i => (i.zero, i.size, i.bytes)) = some (some z, sz, bytes)) (hzs : z.cells.size = sz) (hsz : 0 < sz)
  (base : Nat) (v : Value) (rows : List (List Value)) (hown : Owns w base e sz v rows) (r : List Value) (hr : r.length = sz) (h1 : ∀ u ∈ r, u.oneCell' = true)
  (hlen : rows.length ≤ 2097152) (hby : bytes ≤ 1000) (hbase : base ≤ w.heap.size) :
  ∃ A m c w', (Builtin.append_ #[t, t] ty #[v, .slice (some ⟨w.heap.size, 0, none⟩) 1 1]).run P (w.alloc (.cells r.toArray e)) = .ok (.slice A m c) w' ∧ Owns w' base e sz (.slice A m c) (rows ++ [r]) ∧ Below base w w' ∧ (∀ g, g < w.heap.size → v.ownBlock ≠ some g → w'.heap[g]? = w.heap[g]?) ∧ ((Value.slice A m c).ownBlock = v.ownBlock ∨ ∀ g, (Value.slice A m c).ownBlock = some g → w.heap.size ≤ g) := by
 obtain ⟨i0, hi, hz0, hz1, hz2⟩ := info_parts hinfo
 have hb1 : (rows.length + 1) * bytes ≤ 140737488355328 := Nat.le_trans (Nat.mul_le_mul (show rows.length + 1 ≤ 2097153 by omega) hby) (by omega)
 have hnews : ∀ j u, r[j]? = some u → (w.alloc (.cells r.toArray e)).cell? ((⟨w.heap.size, 0, none⟩ : Addr).add j) = some u := by
  intro j u hj
  have e1 : (⟨w.heap.size, 0, none⟩ : Addr).add j = ⟨w.heap.size, j, none⟩ := by cases j <;> simp [Addr.add]
  rw [e1, World.cell?_alloc_mark]
  simpa using hj
 obtain ⟨v', w', hrun, h2, h3, _⟩ := run_append_own (P := P) (w.alloc (.cells r.toArray e)) base t ty e i0 z sz bytes ht hi hz0 hz1 hz2 hzs hsz v rows.length rows.flatten (World.ownsRow.alloc hown.2 _) ⟨w.heap.size, 0, none⟩ 1 1 r (by rw [hr]; omega) hnews h1 (by unfold maxLen; omega) hb1 (by simp; omega)
 have h5 := run_append_where (P := P) (w.alloc (.cells r.toArray e)) base t ty e i0 z sz bytes ht hi hz0 hz1 hz2 v rows.length rows.flatten (World.ownsRow.alloc hown.2 _) ⟨w.heap.size, 0, none⟩ 1 1 r (by rw [hr]; omega) hnews h1 (by unfold maxLen; omega) hb1 v' w' hrun
 have hb0 : ∀ k, v.ownBlock = some k → base ≤ k := fun k hk => (hown.lt k hk).1
 have hO : Owns w' base e sz v' (rows ++ [r]) := by
  refine ⟨?_, ?_⟩
  ·intro y hy
   rcases List.mem_append.1 hy with hy | hy
   ·exact hown.1 y hy
   ·rw [List.mem_singleton.1 hy]; exact hr
  ·rw [List.length_append, List.flatten_append]
   simpa using h2
 obtain ⟨A, m, c, rfl⟩ := hO.shape
 refine ⟨A, m, c, w', hrun, hO, ((Below.refl base w).alloc hbase _).grown h3 (by simp; omega) hb0, ?_, h5.imp id fun e g hg => by rw [e] at hg; cases hg; simp⟩
 intro g hg hne
 rw [h3.block g (by simp; omega) (fun e => hne e.symm)]
 exact Below.heap_alloc w _ g hg
theorem step_append_run {P : Program} {ops : Array Oper} {o : Oper} {a : Act} {w : World} {K : Act → World → Prop} {Q : Exit → Act → World → Prop} {E : Prop}
  (hg : o.guard = none) (s x : Operand) (t : TypeId) (hop : o.op = Op.call { callee := Callee.builtin Builtin.append, args := #[s, x], argTypes := #[t, t] })
  (v y r : Value) (w' : World) (hs : a.eval s = v) (hx : a.eval x = y) (hrun : (Builtin.append_ #[t, t] o.type #[v, y]).run P w = .ok r w') (hK : K (a.put o.dst r) w') :
  if Region.wanted o (yielded ops a.tmps) = true then Oper.wp P o a w K Q else E := by
 have hw : Region.wanted o (yielded ops a.tmps) = true := by simp [Region.wanted, hg]
 rw [if_pos hw]
 unfold Oper.wp
 simp [execOp, hop, resolve, invoke, builtin, hs, hx, hrun, Result.andThen]
 exact hK
def delMade (l : List (Int × Nat)) (ml : List Mov) : List (Int × Nat) := ml.foldl (fun l m => if m.kind = 1 then ptrDel l m.id else l) l
theorem delMade_snoc (l : List (Int × Nat)) (ml : List Mov) (m : Mov) : delMade l (ml ++ [m]) = if m.kind = 1 then ptrDel (delMade l ml) m.id else delMade l ml := by
 unfold delMade
 rw [List.foldl_append]
 rfl
def mvGood (l : List Lnk) (l1 : List (Int × Nat)) (ml : List Mov) (k : Nat) : Bool :=
 !(decide ((ml.getD k default).kind = 1) && (ptrAt (delMade l1 (ml.take k)) (ml.getD k default).id).isNone) && (apply (names l (ml.take k)) (ml.getD k default)).isSome
def mvOk (l : List Lnk) (l1 : List (Int × Nat)) (ml : List Mov) : Bool := decide (ml.length ≤ 20) && (List.range ml.length).all (mvGood l l1 ml)
theorem mvOk_long {l : List Lnk} {l1 : List (Int × Nat)} {ml : List Mov} (h : ¬ ml.length ≤ 20) : mvOk l l1 ml = false := by
 unfold mvOk
 rw [decide_eq_false h]
 rfl
theorem mvOk_no {l : List Lnk} {l1 : List (Int × Nat)} {ml : List Mov} {k : Nat} (hk : k < ml.length) (h : mvGood l l1 ml k = false) : mvOk l l1 ml = false := by
 unfold mvOk
 rw [all_no hk h, Bool.and_false]
theorem mvOk_yes {l : List Lnk} {l1 : List (Int × Nat)} {ml : List Mov} (hl : ml.length ≤ 20) (h : ∀ j, j < ml.length → mvGood l l1 ml j = true) : mvOk l l1 ml = true := by
 unfold mvOk
 rw [all_yes h, decide_eq_true hl]
 rfl
theorem NamesOk.names {l : List Lnk} (h : NamesOk l) : ∀ ms : List Mov, NamesOk (names l ms)
 | [] => h
 | m :: r => by
  unfold Go.Proofs.YtdimaoloapbeoaaGreatDoor.names
  refine NamesOk.names ?_ r
  cases e : Go.Proofs.YtdimaoloapbeoaaGreatDoor.apply l m with
  | none => exact h
  | some x => exact h.apply e
set_option maxRecDepth 20000 in
set_option maxHeartbeats 4000000 in
theorem takeMovesV (room next : Int) (vm v3 v4 : Value) (p bw bn B : Nat) (l : List Lnk) (l1 : List (Int × Nat)) (ml : List Mov) (w : World) (hp : Blk w p #[.int .i64 room, .int .i64 next, v3, v4, .slice none 0 0, .map (some bw)] 119) (hD : NT w bw l) (hI : IT w bn l1) (hv : Lies w B 4 vm (movR ml)) (hB : B ≤ w.heap.size) (hbw : B ≤ bw) (hbn : B ≤ bn) (hbp : B ≤ p) (hpw : p ≠ bw) (hpn : p ≠ bn) (hwn : bw ≠ bn)
  (hln : ml.length ≤ 1048576) (hll : l.length ≤ 100) (hok : NamesOk l) (hid : ∀ x ∈ ml, IntOk x.id) (hnm : ∀ x ∈ ml, x.name.size ≤ maxLen ∧ x.to.size ≤ maxLen) :
  Calls Tryz.prog 63 #[.pointer (some ⟨p, 0, none⟩), vm, .map (some bn)] w fun e w' => e = .returned (.bool (mvOk l l1 ml)) ∧ But (fun i => i = bw ∨ i = bn ∨ i = p) w w' ∧
   (mvOk l l1 ml = true → ∃ u, Blk w' p #[.int .i64 room, .int .i64 next, v3, v4, u, .map (some bw)] 119 ∧ Owns w' w.heap.size 94 4 u (movR ml) ∧ NT w' bw (names l ml) ∧ IT w' bn (delMade l1 ml)) := by
 obtain ⟨A, cap, rfl, hl⟩ := mov_look hv
 have HL : Hid (∀ j, j < ml.length → ∃ g off, A = some ⟨g, off, none⟩ ∧ g < B ∧ _) := hl
 have HB : Hid (B ≤ w.heap.size) := hB
 have HBW : Hid (B ≤ bw) := hbw
 have HBN : Hid (B ≤ bn) := hbn
 have HBP : Hid (B ≤ p) := hbp
 have HP : Hid (Blk w p #[.int .i64 room, .int .i64 next, v3, v4, .slice none 0 0, .map (some bw)] 119) := hp
 have HPW : Hid (p ≠ bw) := hpw
 have HPN : Hid (p ≠ bn) := hpn
 have HWN : Hid (bw ≠ bn) := hwn
 have HD : Hid (NT w bw l) := hD
 have HI : Hid (IT w bn l1) := hI
 have HOK : Hid (NamesOk l) := hok
 have HID : Hid (∀ x ∈ ml, IntOk x.id) := hid
 have HNM : Hid (∀ x ∈ ml, x.name.size ≤ maxLen ∧ x.to.size ≤ maxLen) := hnm
 have HLL : Hid (l.length ≤ 100) := hll
 clear hl hv hB hbw hbn hbp hp hpw hpn hwn hD hI hok hid hnm hll
 by_cases hlen : ml.length ≤ 20
 ·have q1 : (ml.length : Int) ≤ 20 := by omega
  have n1' : decide ((20 : Int) < (ml.length : Int)) = false := decide_eq_false (by omega)
  have HE : Hid ((∀ j, j < ml.length → mvGood l l1 ml j = true) → mvOk l l1 ml = true) := mvOk_yes hlen
  have HNO : Hid (∀ k, k < ml.length → mvGood l l1 ml k = false → mvOk l l1 ml = false) := fun k hk h => mvOk_no hk h
  clear hlen hln
  generalize hN : ml.length = N at *
  go_enter Tryz.func63, Tryz.ntmps63
  go_wp2_with fail
  go_loopw [14] (fun v14 wr => ∃ (k : Nat) (u : Value), k ≤ N ∧ v14 = .int .i64 (k : Int) ∧ (∀ j, j < k → mvGood l l1 ml j = true) ∧ Blk wr p #[.int .i64 room, .int .i64 next, v3, v4, u, .map (some bw)] 119 ∧ Owns wr w.heap.size 94 4 u (movR (ml.take k)) ∧ NT wr bw (names l (ml.take k)) ∧ IT wr bn (delMade l1 (ml.take k)) ∧ But (fun i => i = bw ∨ i = bn ∨ i = p) w wr) (fun i _ => N - (intOf i).toNat)
  case atStart => exact ⟨0, _, by omega, rfl, fun j hj => by omega, HP.out, by rw [List.take_zero]; exact Owns.nil _ _ _ _, by rw [List.take_zero]; exact HD.out, by rw [List.take_zero]; exact HI.out, But.refl _ _⟩
  case round =>
   obtain ⟨k, u, hk, rfl, hgd, hpr, hO, hNT, hIT, hbt⟩ := hrel
   obtain ⟨uA, um, uc, rfl⟩ := hO.shape
   have HG : Hid (∀ j, j < k → mvGood l l1 ml j = true) := hgd
   have HPR : Hid (Blk wr p #[.int .i64 room, .int .i64 next, v3, v4, .slice uA um uc, .map (some bw)] 119) := hpr
   have HO : Hid (Owns wr w.heap.size 94 4 (.slice uA um uc) (movR (ml.take k))) := hO
   have HNT : Hid (NT wr bw (names l (ml.take k))) := hNT
   have HIT : Hid (IT wr bn (delMade l1 (ml.take k))) := hIT
   have HBT : Hid (But (fun i => i = bw ∨ i = bn ∨ i = p) w wr) := hbt
   clear hgd hNT hIT hbt hO hpr
   by_cases hlt : k < N
   ·have q4 : (k : Int) < (N : Int) := by omega
    obtain ⟨g, off, rfl, hg, hc0, hc1, hc2, hc3⟩ := HL.out k hlt
    have hgw : g < w.heap.size := Nat.lt_of_lt_of_le hg HB.out
    have hgb : wr.heap[g]? = w.heap[g]? := HBT.out.block g hgw (fun e => by have := HBW.out; have := HBN.out; have := HBP.out; omega)
    have hcc : ∀ o, wr.cell? ⟨g, o, none⟩ = w.cell? ⟨g, o, none⟩ := fun o => World.cell?_of_block (w := w) hgb
    rw [← hcc] at hc0 hc1 hc2 hc3
    have hmem := getD_mem ml k (by omega)
    have HIO : Hid (IntOk (ml.getD k default).id) := HID.out _ hmem
    have HNS : Hid ((ml.getD k default).name.size ≤ maxLen ∧ (ml.getD k default).to.size ≤ maxLen) := HNM.out _ hmem
    have HGE : Hid (mvGood l l1 ml k = (!(decide ((ml.getD k default).kind = 1) && (ptrAt (delMade l1 (ml.take k)) (ml.getD k default).id).isNone) && (apply (names l (ml.take k)) (ml.getD k default)).isSome)) := rfl
    have HBAD : Hid (mvGood l l1 ml k = false → mvOk l l1 ml = false) := fun h => HNO.out k (by omega) h
    have HGD : Hid (mvGood l l1 ml k = true → ∀ j, j < k + 1 → mvGood l l1 ml j = true) := fun h => less_succ HG.out h
    have HNA : Hid (names l (ml.take (k + 1)) = (apply (names l (ml.take k)) (ml.getD k default)).getD (names l (ml.take k))) := names_take l ml k (by omega)
    have HDA : Hid (delMade l1 (ml.take (k + 1)) = if (ml.getD k default).kind = 1 then ptrDel (delMade l1 (ml.take k)) (ml.getD k default).id else delMade l1 (ml.take k)) := by unfold Hid; rw [take_getD ml k (by omega), delMade_snoc]
    have HMR : Hid (movR (ml.take (k + 1)) = movR (ml.take k) ++ [movC (ml.getD k default)]) := movR_snoc ml k (by omega)
    have HNL : Hid ((names l (ml.take k)).length ≤ 1000) := by
     unfold Hid
     have h1 := names_len l (ml.take k)
     rw [List.length_take] at h1
     have := HLL.out
     omega
    have HNK : Hid (NamesOk (names l (ml.take k))) := HOK.out.names _
    have HLR : Hid ((movR (ml.take k)).length ≤ 2097152) := by unfold Hid; rw [movR_length, List.length_take]; omega
    have hpl : p < wr.heap.size := HPR.out.lt
    have hbl : bw < wr.heap.size := HNT.out.lt
    have hbl2 : bn < wr.heap.size := HIT.out.lt
    clear hgb hgw hcc hg hmem
    generalize hxx : ml.getD k default = xx at *
    obtain ⟨mk, mn, mt, mi⟩ := xx
    simp only at *
    generalize hLk : names l (ml.take k) = Lk at *
    generalize hQk : delMade l1 (ml.take k) = Qk at *
    generalize hRk : movR (ml.take k) = Rk at *
    have KP : Blk (wr.alloc (.cells #[.int .i64 mk, .string mn, .string mt, .int .i64 mi] 94)) p #[.int .i64 room, .int .i64 next, v3, v4, .slice uA um uc, .map (some bw)] 119 := HPR.out.alloc _
    have KZ := Blk.new wr #[.int .i64 mk, .string mn, .string mt, .int .i64 mi] 94
    have BY : Hid (But (fun i => i = bw ∨ i = bn ∨ i = p) w (wr.alloc (.cells #[.int .i64 mk, .string mn, .string mt, .int .i64 mi] 94))) := HBT.out.alloc _
    have NY : Hid (NT (wr.alloc (.cells #[.int .i64 mk, .string mn, .string mt, .int .i64 mi] 94)) bw Lk) := HNT.out.on ((Below.refl _ wr).alloc (Nat.le_refl _) _) hbl
    have IY : Hid (IT (wr.alloc (.cells #[.int .i64 mk, .string mn, .string mt, .int .i64 mi] 94)) bn Qk) := HIT.out.on ((Below.refl _ wr).alloc (Nat.le_refl _) _) hbl2
    have OY : Hid (Owns (wr.alloc (.cells #[.int .i64 mk, .string mn, .string mt, .int .i64 mi] 94)) w.heap.size 94 4 (.slice uA um uc) Rk) := HO.out.alloc _
    have HNZ : Hid ((Value.slice uA um uc).ownBlock ≠ some wr.heap.size) := fun e => by
     have := (HO.out.lt _ e).2
     omega
    have HKP : Hid (Blk (wr.alloc (.cells #[.int .i64 mk, .string mn, .string mt, .int .i64 mi] 94)) p #[.int .i64 room, .int .i64 next, v3, v4, .slice uA um uc, .map (some bw)] 119) := KP
    have HKZ : Hid (Blk (wr.alloc (.cells #[.int .i64 mk, .string mn, .string mt, .int .i64 mi] 94)) wr.heap.size #[.int .i64 mk, .string mn, .string mt, .int .i64 mi] 94) := KZ
    have HZP : Hid (p < wr.heap.size) := hpl
    have HZW : Hid (bw < wr.heap.size) := hbl
    have HZN : Hid (bn < wr.heap.size) := hbl2
    have HWW : Hid (w.heap.size ≤ wr.heap.size) := HBT.out.size
    clear KP KZ hpl hbl hbl2
    by_cases hk1 : mk = 1
    ·have e1 : (mk == 1) = true := by simp only [beq_iff_eq]; exact hk1
     rcases hat : ptrAt Qk mi with _ | gq
     ·have gf : Hid (mvGood l l1 ml k = false) := by unfold Hid; rw [HGE.out, hat, decide_eq_true hk1]; rfl
      have r1 := (IY.out.val mi HIO.out).1 hat
      clear hat hk1
      go_wp2_with fail
      go_ret
      exact ⟨by rw [HBAD.out gf.out]; rfl, BY.out, fun h => by rw [HBAD.out gf.out] at h; cases h⟩
     ·have r1 := (IY.out.val mi HIO.out).2 gq hat
      obtain ⟨w2, r2, hI2, hB2, hS2⟩ := IY.out.del mi HIO.out 0
      have HK1 : Hid (mk = 1) := hk1
      have HAT : Hid (ptrAt Qk mi = some gq) := hat
      have KPW : Hid (Blk w2 p #[.int .i64 room, .int .i64 next, v3, v4, .slice uA um uc, .map (some bw)] 119) := hB2.blk HKP.out HPN.out
      have KZW : Hid (Blk w2 wr.heap.size #[.int .i64 mk, .string mn, .string mt, .int .i64 mi] 94) := hB2.blk HKZ.out (fun e => by have := HZN.out; omega)
      have NW : Hid (NT w2 bw Lk) := NY.out.but hB2 HWN.out
      have IW : Hid (IT w2 bn (ptrDel Qk mi)) := hI2
      have OW : Hid (Owns w2 w.heap.size 94 4 (.slice uA um uc) Rk) := OY.out.kept fun gg hgg hgo => by
       have h1 := (OY.out.lt gg hgo).1
       exact hB2.block gg hgg (fun e => by subst e; have := HI.out.lt; omega)
      have BW : Hid (But (fun i => i = bw ∨ i = bn ∨ i = p) w w2) := BY.out.trans hB2 (fun _ _ e => .inr (.inl e))
      have y3 := HKZ.out.cell 3 _ rfl
      clear hat hk1 hI2 hB2 hS2
      go_wp2_with fail
      clear r1 r2 hc0 hc1 hc2 hc3 BY NY IY OY HKP HKZ y3
      generalize wr.heap.size = pz at *
      have S0 : Hid (w2.drew.cell? ⟨p, 5, none⟩ = some (.map (some bw)) ∧ w2.drew.cell? ⟨pz, 0, none⟩ = some (.int .i64 mk) ∧ w2.drew.cell? ⟨pz, 1, none⟩ = some (.string mn) ∧ w2.drew.cell? ⟨pz, 2, none⟩ = some (.string mt) ∧ w2.drew.cell? ⟨pz, 3, none⟩ = some (.int .i64 mi)) := ⟨KPW.out.cell 5 _ rfl, KZW.out.cell 0 _ rfl, KZW.out.cell 1 _ rfl, KZW.out.cell 2 _ rfl, KZW.out.cell 3 _ rfl⟩
      have cA := applyI Lk bw ⟨mk, mn, mt, mi⟩ w2.drew (NW.out.kept rfl) HNL.out HNK.out HNS.out.1 HNS.out.2
      unfold movV at cA
      simp only at cA
      have HPZ : Hid (pz ≠ bw) := by unfold Hid; have := HZW.out; omega
      rcases hap : apply Lk ⟨mk, mn, mt, mi⟩ with _ | Ln
      ·rw [hap] at cA
       have gf : Hid (mvGood l l1 ml k = false) := by unfold Hid; rw [HGE.out, hap]; simp
       go_region_held3 (fun w' => (w'.cell? ⟨p, 5, none⟩ = some (.map (some bw)) ∧ w'.cell? ⟨pz, 0, none⟩ = some (.int .i64 mk) ∧ w'.cell? ⟨pz, 1, none⟩ = some (.string mn) ∧ w'.cell? ⟨pz, 2, none⟩ = some (.string mt) ∧ w'.cell? ⟨pz, 3, none⟩ = some (.int .i64 mi))) (first | exact S0.out | exact S2.out)
        ((go_at_call 95; refine cA.mono ?_; rintro e w4 ⟨rfl, hN4, hB4⟩; have S2 : Hid (w4.cell? ⟨p, 5, none⟩ = some (.map (some bw)) ∧ w4.cell? ⟨pz, 0, none⟩ = some (.int .i64 mk) ∧ w4.cell? ⟨pz, 1, none⟩ = some (.string mn) ∧ w4.cell? ⟨pz, 2, none⟩ = some (.string mt) ∧ w4.cell? ⟨pz, 3, none⟩ = some (.int .i64 mi)) := ⟨(hB4.blk (KPW.out) HPW.out).cell 5 _ rfl, (hB4.blk (KZW.out) HPZ.out).cell 0 _ rfl, (hB4.blk (KZW.out) HPZ.out).cell 1 _ rfl, (hB4.blk (KZW.out) HPZ.out).cell 2 _ rfl, (hB4.blk (KZW.out) HPZ.out).cell 3 _ rfl⟩))
       have B4 : Hid (But (fun i => i = bw ∨ i = bn ∨ i = p) w w4) := BW.out.drew.trans hB4 (fun _ _ e => .inl e)
       clear hN4 hB4
       go_wp2_with fail
       go_ret
       exact ⟨by rw [HBAD.out gf.out]; rfl, B4.out, fun h => by rw [HBAD.out gf.out] at h; cases h⟩
      ·rw [hap] at cA
       have gf : Hid (mvGood l l1 ml k = true) := by unfold Hid; rw [HGE.out, hap]; simp; exact .inr (by rw [HAT.out]; rfl)
       go_region_held3 (fun w' => (w'.cell? ⟨p, 5, none⟩ = some (.map (some bw)) ∧ w'.cell? ⟨pz, 0, none⟩ = some (.int .i64 mk) ∧ w'.cell? ⟨pz, 1, none⟩ = some (.string mn) ∧ w'.cell? ⟨pz, 2, none⟩ = some (.string mt) ∧ w'.cell? ⟨pz, 3, none⟩ = some (.int .i64 mi))) (first | exact S0.out | exact S2.out)
        ((go_at_call 95; refine cA.mono ?_; rintro e w4 ⟨rfl, hN4, hB4⟩; have S2 : Hid (w4.cell? ⟨p, 5, none⟩ = some (.map (some bw)) ∧ w4.cell? ⟨pz, 0, none⟩ = some (.int .i64 mk) ∧ w4.cell? ⟨pz, 1, none⟩ = some (.string mn) ∧ w4.cell? ⟨pz, 2, none⟩ = some (.string mt) ∧ w4.cell? ⟨pz, 3, none⟩ = some (.int .i64 mi)) := ⟨(hB4.blk (KPW.out) HPW.out).cell 5 _ rfl, (hB4.blk (KZW.out) HPZ.out).cell 0 _ rfl, (hB4.blk (KZW.out) HPZ.out).cell 1 _ rfl, (hB4.blk (KZW.out) HPZ.out).cell 2 _ rfl, (hB4.blk (KZW.out) HPZ.out).cell 3 _ rfl⟩))
       have B4 : Hid (But (fun i => i = bw ∨ i = bn ∨ i = p) w w4) := BW.out.drew.trans hB4 (fun _ _ e => .inl e)
       have N4 : Hid (NT w4 bw Ln) := hN4
       have I4 : Hid (IT w4 bn (ptrDel Qk mi)) := (IW.out.kept (w' := w2.drew) rfl).but hB4 HWN.out.symm
       have O4 : Owns w4 w.heap.size 94 4 (.slice uA um uc) Rk := OW.out.kept fun gg hgg hgo => by
        have h1 := (OW.out.lt gg hgo).1
        exact hB4.block gg hgg (fun e => by subst e; have := HD.out.lt; omega)
       have P4 : Hid (Blk w4 p #[.int .i64 room, .int .i64 next, v3, v4, .slice uA um uc, .map (some bw)] 119) := hB4.blk KPW.out HPW.out
       have Z4 : Hid (Blk w4 pz #[.int .i64 mk, .string mn, .string mt, .int .i64 mi] 94) := hB4.blk KZW.out HPZ.out
       have sz4 : w.heap.size ≤ w4.heap.size := B4.out.size
       have O4d : Owns w4.drew w.heap.size 94 4 (.slice uA um uc) Rk := O4.kept fun _ _ _ => rfl
       obtain ⟨nA, nm, nc, w5, r5, hO5, hb5, hk5, hw5⟩ := run_append_row (P := Tryz.prog) w4.drew 39 39 94 (.agg #[.int .i64 0, .string ⟨#[]⟩, .string ⟨#[]⟩, .int .i64 0]) 4 48 Tryz.underlying39 Tryz.infoMov rfl (by omega) w.heap.size (.slice uA um uc) Rk O4d [.int .i64 mk, .string mn, .string mt, .int .i64 mi] rfl (by intro y hy; simp at hy; rcases hy with rfl | rfl | rfl | rfl <;> rfl) HLR.out (by omega) sz4
       have hPo : (Value.slice uA um uc).ownBlock ≠ some p := fun e => by
        have := (O4.lt _ e).1
        have := HP.out.lt
        omega
       have P5 : Hid (Blk w5 p #[.int .i64 room, .int .i64 next, v3, v4, .slice uA um uc, .map (some bw)] 119) := by
        unfold Hid Blk
        rw [hk5 p P4.out.lt hPo]
        exact P4.out
       have Z5 : Hid (Blk w5 pz #[.int .i64 mk, .string mn, .string mt, .int .i64 mi] 94) := by
        unfold Hid Blk
        rw [hk5 pz Z4.out.lt HNZ.out]
        exact Z4.out
       have hbo : ∀ bb, bb < w.heap.size → bb < w4.heap.size → w5.heap[bb]? = w4.heap[bb]? := fun bb h1 h2 => hk5 bb h2 (fun e => by
        have := (O4.lt _ e).1
        omega)
       have N5 : Hid (NT w5 bw Ln) := N4.out.kept (hbo bw HD.out.lt N4.out.lt)
       have I5 : Hid (IT w5 bn (ptrDel Qk mi)) := I4.out.kept (hbo bn HI.out.lt I4.out.lt)
       have B5 : Hid (But (fun i => i = bw ∨ i = bn ∨ i = p) w w5) := B4.out.drew.trans (⟨hb5.os, hb5.tape, hb5.output, hb5.size, fun i hi hn => hk5 i hi (fun e => hn ((O4.lt _ e).1))⟩ : But (fun i => w.heap.size ≤ i) w4.drew w5) (fun i hi h => absurd hi (by omega))
       have O5 : Hid (Owns w5 w.heap.size 94 4 (.slice nA nm nc) (Rk ++ [[.int .i64 mk, .string mn, .string mt, .int .i64 mi]])) := hO5
       have HPo : Hid ((Value.slice nA nm nc).ownBlock ≠ some p) := fun e => by
        have := (hO5.lt _ e).1
        have := HP.out.lt
        omega
       have T0 : Hid (w4.drew.cell? ⟨p, 4, none⟩ = some (.slice uA um uc) ∧ w4.drew.cell? ⟨pz, 0, none⟩ = some (.int .i64 mk) ∧ w4.drew.cell? ⟨pz, 1, none⟩ = some (.string mn) ∧ w4.drew.cell? ⟨pz, 2, none⟩ = some (.string mt) ∧ w4.drew.cell? ⟨pz, 3, none⟩ = some (.int .i64 mi)) := ⟨P4.out.cell 4 _ rfl, Z4.out.cell 0 _ rfl, Z4.out.cell 1 _ rfl, Z4.out.cell 2 _ rfl, Z4.out.cell 3 _ rfl⟩
       have PA : Blk (w4.drew.alloc (.cells #[.int .i64 mk, .string mn, .string mt, .int .i64 mi] 94)) p #[.int .i64 room, .int .i64 next, v3, v4, .slice uA um uc, .map (some bw)] 119 := Blk.alloc (w := w4.drew) P4.out _
       have ZA : Blk (w4.drew.alloc (.cells #[.int .i64 mk, .string mn, .string mt, .int .i64 mi] 94)) pz #[.int .i64 mk, .string mn, .string mt, .int .i64 mi] 94 := Blk.alloc (w := w4.drew) Z4.out _
       have T1 : Hid ((w4.drew.alloc (.cells #[.int .i64 mk, .string mn, .string mt, .int .i64 mi] 94)).cell? ⟨p, 4, none⟩ = some (.slice uA um uc) ∧ (w4.drew.alloc (.cells #[.int .i64 mk, .string mn, .string mt, .int .i64 mi] 94)).cell? ⟨pz, 0, none⟩ = some (.int .i64 mk) ∧ (w4.drew.alloc (.cells #[.int .i64 mk, .string mn, .string mt, .int .i64 mi] 94)).cell? ⟨pz, 1, none⟩ = some (.string mn) ∧ (w4.drew.alloc (.cells #[.int .i64 mk, .string mn, .string mt, .int .i64 mi] 94)).cell? ⟨pz, 2, none⟩ = some (.string mt) ∧ (w4.drew.alloc (.cells #[.int .i64 mk, .string mn, .string mt, .int .i64 mi] 94)).cell? ⟨pz, 3, none⟩ = some (.int .i64 mi)) := ⟨PA.cell 4 _ rfl, ZA.cell 0 _ rfl, ZA.cell 1 _ rfl, ZA.cell 2 _ rfl, ZA.cell 3 _ rfl⟩
       have T2 : Hid (w5.cell? ⟨p, 4, none⟩ = some (.slice uA um uc) ∧ w5.cell? ⟨pz, 0, none⟩ = some (.int .i64 mk) ∧ w5.cell? ⟨pz, 1, none⟩ = some (.string mn) ∧ w5.cell? ⟨pz, 2, none⟩ = some (.string mt) ∧ w5.cell? ⟨pz, 3, none⟩ = some (.int .i64 mi)) := ⟨P5.out.cell 4 _ rfl, Z5.out.cell 0 _ rfl, Z5.out.cell 1 _ rfl, Z5.out.cell 2 _ rfl, Z5.out.cell 3 _ rfl⟩
       have f4 := P5.out.free 4
       have x4 := P5.out.cell 4 _ rfl
       clear hN4 hB4 O4 O4d hO5 hb5 hk5 hw5 hPo hbo PA ZA cA S0 S2
       go_wp2_with fail
       have lp4 : p < w4.heap.size := P4.out.lt
       have lz4 : pz < w4.heap.size := Z4.out.lt
       have g4 := P4.out.cell 4 _ rfl
       have g0 := Z4.out.cell 0 _ rfl
       have g1 := Z4.out.cell 1 _ rfl
       have g2 := Z4.out.cell 2 _ rfl
       have g3 := Z4.out.cell 3 _ rfl
       clear T0 T1 T2
       go_region_law ((refine step_append_run (by rfl) (.tmp 40) (.tmp 42) 39 (by rfl) _ _ _ _ (by rfl) (by rfl) r5 ?_))
       all_goals
        go_wp2_with fail
        go_roundw
        case rel => exact ⟨k + 1, .slice nA nm nc, by omega, by go_num, HGD.out gf.out, P5.out.set 4 _, by rw [HMR.out]; exact O5.out.other HPo.out _ _, by rw [HNA.out, hap]; exact N5.out.kept (Below.heap_setCell _ ⟨p, 4, none⟩ _ _ HPW.out.symm), by rw [HDA.out, if_pos HK1.out]; exact I5.out.kept (Below.heap_setCell _ ⟨p, 4, none⟩ _ _ HPN.out.symm), B5.out.setCell (fun _ => .inr (.inr rfl)) _⟩
        case measure => simp [intOf]; omega
    ·have e1 : (mk == 1) = false := by simp only [beq_eq_false_iff_ne, ne_eq]; exact hk1
     have HK1 : Hid (¬ mk = 1) := hk1
     clear hk1
     go_wp2_with fail
     clear hc0 hc1 hc2 hc3
     generalize wr.alloc (.cells #[.int .i64 mk, .string mn, .string mt, .int .i64 mi] 94) = Y at *
     generalize wr.heap.size = pz at *
     have KPW : Hid (Blk Y p #[.int .i64 room, .int .i64 next, v3, v4, .slice uA um uc, .map (some bw)] 119) := HKP.out
     have KZW : Hid (Blk Y pz #[.int .i64 mk, .string mn, .string mt, .int .i64 mi] 94) := HKZ.out
     have NW : Hid (NT Y bw Lk) := NY.out
     have IW : Hid (IT Y bn Qk) := IY.out
     have OW : Hid (Owns Y w.heap.size 94 4 (.slice uA um uc) Rk) := OY.out
     have BW : Hid (But (fun i => i = bw ∨ i = bn ∨ i = p) w Y) := BY.out
     have S0 : Hid (Y.drew.cell? ⟨p, 5, none⟩ = some (.map (some bw)) ∧ Y.drew.cell? ⟨pz, 0, none⟩ = some (.int .i64 mk) ∧ Y.drew.cell? ⟨pz, 1, none⟩ = some (.string mn) ∧ Y.drew.cell? ⟨pz, 2, none⟩ = some (.string mt) ∧ Y.drew.cell? ⟨pz, 3, none⟩ = some (.int .i64 mi)) := ⟨KPW.out.cell 5 _ rfl, KZW.out.cell 0 _ rfl, KZW.out.cell 1 _ rfl, KZW.out.cell 2 _ rfl, KZW.out.cell 3 _ rfl⟩
     have cA := applyI Lk bw ⟨mk, mn, mt, mi⟩ Y.drew (NW.out.kept rfl) HNL.out HNK.out HNS.out.1 HNS.out.2
     unfold movV at cA
     simp only at cA
     have HPZ : Hid (pz ≠ bw) := by unfold Hid; have := HZW.out; omega
     rcases hap : apply Lk ⟨mk, mn, mt, mi⟩ with _ | Ln
     ·rw [hap] at cA
      have gf : Hid (mvGood l l1 ml k = false) := by unfold Hid; rw [HGE.out, hap]; simp
      go_region_held3 (fun w' => (w'.cell? ⟨p, 5, none⟩ = some (.map (some bw)) ∧ w'.cell? ⟨pz, 0, none⟩ = some (.int .i64 mk) ∧ w'.cell? ⟨pz, 1, none⟩ = some (.string mn) ∧ w'.cell? ⟨pz, 2, none⟩ = some (.string mt) ∧ w'.cell? ⟨pz, 3, none⟩ = some (.int .i64 mi))) (first | exact S0.out | exact S2.out)
       ((go_at_call 95; refine cA.mono ?_; rintro e w4 ⟨rfl, hN4, hB4⟩; have S2 : Hid (w4.cell? ⟨p, 5, none⟩ = some (.map (some bw)) ∧ w4.cell? ⟨pz, 0, none⟩ = some (.int .i64 mk) ∧ w4.cell? ⟨pz, 1, none⟩ = some (.string mn) ∧ w4.cell? ⟨pz, 2, none⟩ = some (.string mt) ∧ w4.cell? ⟨pz, 3, none⟩ = some (.int .i64 mi)) := ⟨(hB4.blk (KPW.out) HPW.out).cell 5 _ rfl, (hB4.blk (KZW.out) HPZ.out).cell 0 _ rfl, (hB4.blk (KZW.out) HPZ.out).cell 1 _ rfl, (hB4.blk (KZW.out) HPZ.out).cell 2 _ rfl, (hB4.blk (KZW.out) HPZ.out).cell 3 _ rfl⟩))
      have B4 : Hid (But (fun i => i = bw ∨ i = bn ∨ i = p) w w4) := BW.out.drew.trans hB4 (fun _ _ e => .inl e)
      clear hN4 hB4
      go_wp2_with fail
      go_ret
      exact ⟨by rw [HBAD.out gf.out]; rfl, B4.out, fun h => by rw [HBAD.out gf.out] at h; cases h⟩
     ·rw [hap] at cA
      have gf : Hid (mvGood l l1 ml k = true) := by unfold Hid; rw [HGE.out, hap]; simp; exact .inl HK1.out
      go_region_held3 (fun w' => (w'.cell? ⟨p, 5, none⟩ = some (.map (some bw)) ∧ w'.cell? ⟨pz, 0, none⟩ = some (.int .i64 mk) ∧ w'.cell? ⟨pz, 1, none⟩ = some (.string mn) ∧ w'.cell? ⟨pz, 2, none⟩ = some (.string mt) ∧ w'.cell? ⟨pz, 3, none⟩ = some (.int .i64 mi))) (first | exact S0.out | exact S2.out)
       ((go_at_call 95; refine cA.mono ?_; rintro e w4 ⟨rfl, hN4, hB4⟩; have S2 : Hid (w4.cell? ⟨p, 5, none⟩ = some (.map (some bw)) ∧ w4.cell? ⟨pz, 0, none⟩ = some (.int .i64 mk) ∧ w4.cell? ⟨pz, 1, none⟩ = some (.string mn) ∧ w4.cell? ⟨pz, 2, none⟩ = some (.string mt) ∧ w4.cell? ⟨pz, 3, none⟩ = some (.int .i64 mi)) := ⟨(hB4.blk (KPW.out) HPW.out).cell 5 _ rfl, (hB4.blk (KZW.out) HPZ.out).cell 0 _ rfl, (hB4.blk (KZW.out) HPZ.out).cell 1 _ rfl, (hB4.blk (KZW.out) HPZ.out).cell 2 _ rfl, (hB4.blk (KZW.out) HPZ.out).cell 3 _ rfl⟩))
      have B4 : Hid (But (fun i => i = bw ∨ i = bn ∨ i = p) w w4) := BW.out.drew.trans hB4 (fun _ _ e => .inl e)
      have N4 : Hid (NT w4 bw Ln) := hN4
      have I4 : Hid (IT w4 bn Qk) := (IW.out.kept (w' := Y.drew) rfl).but hB4 HWN.out.symm
      have O4 : Owns w4 w.heap.size 94 4 (.slice uA um uc) Rk := OW.out.kept fun gg hgg hgo => by
       have h1 := (OW.out.lt gg hgo).1
       exact hB4.block gg hgg (fun e => by subst e; have := HD.out.lt; omega)
      have P4 : Hid (Blk w4 p #[.int .i64 room, .int .i64 next, v3, v4, .slice uA um uc, .map (some bw)] 119) := hB4.blk KPW.out HPW.out
      have Z4 : Hid (Blk w4 pz #[.int .i64 mk, .string mn, .string mt, .int .i64 mi] 94) := hB4.blk KZW.out HPZ.out
      have sz4 : w.heap.size ≤ w4.heap.size := B4.out.size
      have O4d : Owns w4.drew w.heap.size 94 4 (.slice uA um uc) Rk := O4.kept fun _ _ _ => rfl
      obtain ⟨nA, nm, nc, w5, r5, hO5, hb5, hk5, hw5⟩ := run_append_row (P := Tryz.prog) w4.drew 39 39 94 (.agg #[.int .i64 0, .string ⟨#[]⟩, .string ⟨#[]⟩, .int .i64 0]) 4 48 Tryz.underlying39 Tryz.infoMov rfl (by omega) w.heap.size (.slice uA um uc) Rk O4d [.int .i64 mk, .string mn, .string mt, .int .i64 mi] rfl (by intro y hy; simp at hy; rcases hy with rfl | rfl | rfl | rfl <;> rfl) HLR.out (by omega) sz4
      have hPo : (Value.slice uA um uc).ownBlock ≠ some p := fun e => by
       have := (O4.lt _ e).1
       have := HP.out.lt
       omega
      have P5 : Hid (Blk w5 p #[.int .i64 room, .int .i64 next, v3, v4, .slice uA um uc, .map (some bw)] 119) := by
       unfold Hid Blk
       rw [hk5 p P4.out.lt hPo]
       exact P4.out
      have Z5 : Hid (Blk w5 pz #[.int .i64 mk, .string mn, .string mt, .int .i64 mi] 94) := by
       unfold Hid Blk
       rw [hk5 pz Z4.out.lt HNZ.out]
       exact Z4.out
      have hbo : ∀ bb, bb < w.heap.size → bb < w4.heap.size → w5.heap[bb]? = w4.heap[bb]? := fun bb h1 h2 => hk5 bb h2 (fun e => by
       have := (O4.lt _ e).1
       omega)
      have N5 : Hid (NT w5 bw Ln) := N4.out.kept (hbo bw HD.out.lt N4.out.lt)
      have I5 : Hid (IT w5 bn Qk) := I4.out.kept (hbo bn HI.out.lt I4.out.lt)
      have B5 : Hid (But (fun i => i = bw ∨ i = bn ∨ i = p) w w5) := B4.out.drew.trans (⟨hb5.os, hb5.tape, hb5.output, hb5.size, fun i hi hn => hk5 i hi (fun e => hn ((O4.lt _ e).1))⟩ : But (fun i => w.heap.size ≤ i) w4.drew w5) (fun i hi h => absurd hi (by omega))
      have O5 : Hid (Owns w5 w.heap.size 94 4 (.slice nA nm nc) (Rk ++ [[.int .i64 mk, .string mn, .string mt, .int .i64 mi]])) := hO5
      have HPo : Hid ((Value.slice nA nm nc).ownBlock ≠ some p) := fun e => by
       have := (hO5.lt _ e).1
       have := HP.out.lt
       omega
      have T0 : Hid (w4.drew.cell? ⟨p, 4, none⟩ = some (.slice uA um uc) ∧ w4.drew.cell? ⟨pz, 0, none⟩ = some (.int .i64 mk) ∧ w4.drew.cell? ⟨pz, 1, none⟩ = some (.string mn) ∧ w4.drew.cell? ⟨pz, 2, none⟩ = some (.string mt) ∧ w4.drew.cell? ⟨pz, 3, none⟩ = some (.int .i64 mi)) := ⟨P4.out.cell 4 _ rfl, Z4.out.cell 0 _ rfl, Z4.out.cell 1 _ rfl, Z4.out.cell 2 _ rfl, Z4.out.cell 3 _ rfl⟩
      have PA : Blk (w4.drew.alloc (.cells #[.int .i64 mk, .string mn, .string mt, .int .i64 mi] 94)) p #[.int .i64 room, .int .i64 next, v3, v4, .slice uA um uc, .map (some bw)] 119 := Blk.alloc (w := w4.drew) P4.out _
      have ZA : Blk (w4.drew.alloc (.cells #[.int .i64 mk, .string mn, .string mt, .int .i64 mi] 94)) pz #[.int .i64 mk, .string mn, .string mt, .int .i64 mi] 94 := Blk.alloc (w := w4.drew) Z4.out _
      have T1 : Hid ((w4.drew.alloc (.cells #[.int .i64 mk, .string mn, .string mt, .int .i64 mi] 94)).cell? ⟨p, 4, none⟩ = some (.slice uA um uc) ∧ (w4.drew.alloc (.cells #[.int .i64 mk, .string mn, .string mt, .int .i64 mi] 94)).cell? ⟨pz, 0, none⟩ = some (.int .i64 mk) ∧ (w4.drew.alloc (.cells #[.int .i64 mk, .string mn, .string mt, .int .i64 mi] 94)).cell? ⟨pz, 1, none⟩ = some (.string mn) ∧ (w4.drew.alloc (.cells #[.int .i64 mk, .string mn, .string mt, .int .i64 mi] 94)).cell? ⟨pz, 2, none⟩ = some (.string mt) ∧ (w4.drew.alloc (.cells #[.int .i64 mk, .string mn, .string mt, .int .i64 mi] 94)).cell? ⟨pz, 3, none⟩ = some (.int .i64 mi)) := ⟨PA.cell 4 _ rfl, ZA.cell 0 _ rfl, ZA.cell 1 _ rfl, ZA.cell 2 _ rfl, ZA.cell 3 _ rfl⟩
      have T2 : Hid (w5.cell? ⟨p, 4, none⟩ = some (.slice uA um uc) ∧ w5.cell? ⟨pz, 0, none⟩ = some (.int .i64 mk) ∧ w5.cell? ⟨pz, 1, none⟩ = some (.string mn) ∧ w5.cell? ⟨pz, 2, none⟩ = some (.string mt) ∧ w5.cell? ⟨pz, 3, none⟩ = some (.int .i64 mi)) := ⟨P5.out.cell 4 _ rfl, Z5.out.cell 0 _ rfl, Z5.out.cell 1 _ rfl, Z5.out.cell 2 _ rfl, Z5.out.cell 3 _ rfl⟩
      have f4 := P5.out.free 4
      have x4 := P5.out.cell 4 _ rfl
      clear hN4 hB4 O4 O4d hO5 hb5 hk5 hw5 hPo hbo PA ZA cA S0 S2
      go_wp2_with fail
      have lp4 : p < w4.heap.size := P4.out.lt
      have lz4 : pz < w4.heap.size := Z4.out.lt
      have g4 := P4.out.cell 4 _ rfl
      have g0 := Z4.out.cell 0 _ rfl
      have g1 := Z4.out.cell 1 _ rfl
      have g2 := Z4.out.cell 2 _ rfl
      have g3 := Z4.out.cell 3 _ rfl
      clear T0 T1 T2
      go_region_law ((refine step_append_run (by rfl) (.tmp 40) (.tmp 42) 39 (by rfl) _ _ _ _ (by rfl) (by rfl) r5 ?_))
      all_goals
       go_wp2_with fail
       go_roundw
       case rel => exact ⟨k + 1, .slice nA nm nc, by omega, by go_num, HGD.out gf.out, P5.out.set 4 _, by rw [HMR.out]; exact O5.out.other HPo.out _ _, by rw [HNA.out, hap]; exact N5.out.kept (Below.heap_setCell _ ⟨p, 4, none⟩ _ _ HPW.out.symm), by rw [HDA.out, if_neg HK1.out]; exact I5.out.kept (Below.heap_setCell _ ⟨p, 4, none⟩ _ _ HPN.out.symm), B5.out.setCell (fun _ => .inr (.inr rfl)) _⟩
       case measure => simp [intOf]; omega
   ·obtain rfl : k = N := by omega
    have HF : Hid (mvOk l l1 ml = true) := HE.out HG.out
    have HTK : Hid (ml.take k = ml) := by unfold Hid; rw [← hN, List.take_length]
    go_wp2_with fail
    go_ret
    exact ⟨by rw [HF.out]; rfl, HBT.out, fun _ => ⟨_, HPR.out, by have := HO.out; rw [HTK.out] at this; exact this, by have := HNT.out; rw [HTK.out] at this; exact this, by have := HIT.out; rw [HTK.out] at this; exact this⟩⟩
 ·have q1 : (ml.length : Int) ≤ 1048576 := by omega
  have n1 : (20 : Int) < (ml.length : Int) := by omega
  have n1' : decide ((20 : Int) < (ml.length : Int)) = true := decide_eq_true n1
  have HF : Hid (mvOk l l1 ml = false) := mvOk_long hlen
  clear hlen hln
  generalize ml.length = N at *
  go_enter Tryz.func63, Tryz.ntmps63
  go_wp2_with fail
  go_ret
  exact ⟨by rw [HF.out]; rfl, But.refl _ _, fun h => by rw [HF.out] at h; cases h⟩
end Go.Proofs.YtdimaoloapbeoaaGreatDoor
namespace Go.Proofs.YtdimaoloapbeoaaGreatDoor
open Go.RowKit Go.PlainAid
theorem ptrAt_some (l : List (Int × Nat)) (id : Int) : (ptrAt l id).isSome = true ↔ ∃ p ∈ l, p.1 = id := by
 unfold ptrAt
 rw [Option.isSome_map, List.find?_isSome]
 simp only [decide_eq_true_eq]
theorem ptrDel_mem (l : List (Int × Nat)) (id : Int) (p : Int × Nat) : p ∈ ptrDel l id ↔ p ∈ l ∧ p.1 ≠ id := by
 unfold ptrDel
 rw [List.mem_filter]
 simp only [decide_eq_true_eq]
theorem ptrDel_len {l : List (Int × Nat)} {id : Int} (h : ∃ p ∈ l, p.1 = id) : (ptrDel l id).length + 1 ≤ l.length := by
 induction l with
 | nil =>
  obtain ⟨p, hp, _⟩ := h
  cases hp
 | cons q r ih =>
  unfold ptrDel
  rw [List.filter_cons]
  by_cases e : q.1 = id
  ·rw [if_neg (by simp [e])]
   have := List.length_filter_le (fun p : Int × Nat => decide (p.1 ≠ id)) r
   simp only [List.length_cons]
   omega
  ·rw [if_pos (by simp [e])]
   obtain ⟨p, hp, hi⟩ := h
   rcases List.mem_cons.1 hp with rfl | hp
   ·exact absurd hi e
   ·have := ih ⟨p, hp, hi⟩
    unfold ptrDel at this
    simp only [List.length_cons]
    omega
theorem delAll_mem (l : List (Int × Nat)) (dl : List Lnk) (p : Int × Nat) : p ∈ delAll l dl ↔ p ∈ l ∧ ∀ x ∈ dl, x.id ≠ p.1 := by
 unfold delAll
 induction dl generalizing l with
 | nil => simp
 | cons x r ih =>
  rw [List.foldl_cons, ih, ptrDel_mem]
  constructor
  ·rintro ⟨⟨h1, h2⟩, h3⟩
   exact ⟨h1, fun y hy => by
    rcases List.mem_cons.1 hy with rfl | hy
    ·exact fun e => h2 e.symm
    ·exact h3 y hy⟩
  ·rintro ⟨h1, h2⟩
   exact ⟨⟨h1, fun e => h2 x (by simp) e.symm⟩, fun y hy => h2 y (by simp [hy])⟩
theorem delMade_mem (l : List (Int × Nat)) (ml : List Mov) (p : Int × Nat) : p ∈ delMade l ml ↔ p ∈ l ∧ ∀ m ∈ ml, m.kind = 1 → m.id ≠ p.1 := by
 unfold delMade
 induction ml generalizing l with
 | nil => simp
 | cons x r ih =>
  rw [List.foldl_cons, ih]
  by_cases hk : x.kind = 1
  ·rw [if_pos hk, ptrDel_mem]
   constructor
   ·rintro ⟨⟨h1, h2⟩, h3⟩
    exact ⟨h1, fun y hy => by
     rcases List.mem_cons.1 hy with rfl | hy
     ·exact fun _ e => h2 e.symm
     ·exact h3 y hy⟩
   ·rintro ⟨h1, h2⟩
    exact ⟨⟨h1, fun e => h2 x (by simp) hk e.symm⟩, fun y hy => h2 y (by simp [hy])⟩
  ·rw [if_neg hk]
   constructor
   ·rintro ⟨h1, h3⟩
    exact ⟨h1, fun y hy => by
     rcases List.mem_cons.1 hy with rfl | hy
     ·exact fun e => absurd e hk
     ·exact h3 y hy⟩
   ·rintro ⟨h1, h2⟩
    exact ⟨h1, fun y hy => h2 y (by simp [hy])⟩
theorem prs_keys {ns : List Nod} {gs : List Nat} (hl : gs.length = ns.length) (id : Int) : (∃ p ∈ prs ns gs, p.1 = id) ↔ ∃ x ∈ ns, x.id = id := by
 constructor
 ·rintro ⟨p, hp, rfl⟩
  exact prs_mem hp
 ·rintro ⟨x, hx, rfl⟩
  obtain ⟨j, hj, rfl⟩ := List.getElem_of_mem hx
  refine ⟨(ns[j].id, gs[j]'(by omega)), ?_, rfl⟩
  unfold prs
  rw [List.mem_iff_getElem]
  exact ⟨j, by rw [List.length_zip, List.length_map]; omega, by rw [List.getElem_zip, List.getElem_map]⟩
theorem nodAt_some (ns : List Nod) (id : Int) : (nodAt ns id).isSome = true ↔ ∃ x ∈ ns, x.id = id := by
 unfold nodAt
 rw [List.findIdx?_isSome, List.any_eq_true]
 simp only [decide_eq_true_eq]
theorem linked_iff (l : List Lnk) (id : Int) : linked l id = true ↔ ∃ x ∈ l, x.id = id := by
 unfold linked
 rw [List.any_eq_true]
 simp only [decide_eq_true_eq]
theorem made_iff (l : List Mov) (id : Int) : made l id = true ↔ ∃ m ∈ l, m.kind = 1 ∧ m.id = id := by
 unfold made
 rw [List.any_eq_true]
 simp only [Bool.and_eq_true, decide_eq_true_eq]
theorem left_dir {ns : List Nod} {gs : List Nat} (hl : gs.length = ns.length) (dl : List Lnk) (id : Int) : (ptrAt (delAll (prs ns gs) dl) id).isSome = ((nodAt ns id).isSome && !linked dl id) := by
 rw [Bool.eq_iff_iff, ptrAt_some, Bool.and_eq_true, nodAt_some, Bool.not_eq_true', ← prs_keys hl id]
 constructor
 ·rintro ⟨p, hp, rfl⟩
  rw [delAll_mem] at hp
  refine ⟨⟨p, hp.1, rfl⟩, ?_⟩
  cases e : linked dl p.1 with
  | false => rfl
  | true =>
   obtain ⟨x, hx, h⟩ := (linked_iff _ _).1 e
   exact absurd h (hp.2 x hx)
 ·rintro ⟨⟨p, hp, rfl⟩, h⟩
  refine ⟨p, (delAll_mem _ _ _).2 ⟨hp, fun x hx e => ?_⟩, rfl⟩
  rw [(linked_iff _ _).2 ⟨x, hx, e⟩] at h
  cases h
theorem left_mov {ns : List Nod} {gs : List Nat} (hl : gs.length = ns.length) (dl : List Lnk) (ml : List Mov) (id : Int) : (ptrAt (delMade (delAll (prs ns gs) dl) ml) id).isSome = ((nodAt ns id).isSome && !linked dl id && !made ml id) := by
 rw [← left_dir hl, Bool.eq_iff_iff, ptrAt_some, Bool.and_eq_true, ptrAt_some, Bool.not_eq_true']
 constructor
 ·rintro ⟨p, hp, rfl⟩
  rw [delMade_mem] at hp
  refine ⟨⟨p, hp.1, rfl⟩, ?_⟩
  cases e : made ml p.1 with
  | false => rfl
  | true =>
   obtain ⟨x, hx, hk, h⟩ := (made_iff _ _).1 e
   exact absurd h (hp.2 x hx hk)
 ·rintro ⟨⟨p, hp, rfl⟩, h⟩
  refine ⟨p, (delMade_mem _ _ _).2 ⟨hp, fun x hx hk e => ?_⟩, rfl⟩
  rw [(made_iff _ _).2 ⟨x, hx, hk, e⟩] at h
  cases h
theorem left_none {ns : List Nod} {gs : List Nat} (hl : gs.length = ns.length) (dl : List Lnk) (ml : List Mov) : (delMade (delAll (prs ns gs) dl) ml).length = 0 ↔ ∀ x ∈ ns, linked dl x.id = true ∨ made ml x.id = true := by
 constructor
 ·intro h x hx
  have hn := List.eq_nil_of_length_eq_zero h
  have h1 := left_mov hl dl ml x.id
  rw [hn, show (ptrAt [] x.id).isSome = false from rfl, (nodAt_some ns x.id).2 ⟨x, hx, rfl⟩] at h1
  cases e1 : linked dl x.id <;> cases e2 : made ml x.id <;> simp_all
 ·intro h
  rcases e : delMade (delAll (prs ns gs) dl) ml with _ | ⟨p, r⟩
  ·rfl
  ·have hp : p ∈ delMade (delAll (prs ns gs) dl) ml := by rw [e]; simp
   rw [delMade_mem, delAll_mem] at hp
   obtain ⟨x, hx, hi⟩ := prs_mem hp.1.1
   rcases h x hx with k | k
   ·obtain ⟨y, hy, e⟩ := (linked_iff _ _).1 k
    exact absurd (e.trans hi) (hp.1.2 y hy)
   ·obtain ⟨y, hy, hk, e⟩ := (made_iff _ _).1 k
    exact absurd (e.trans hi) (hp.2 y hy hk)
theorem dir_few {l0 : List (Int × Nat)} {dl : List Lnk} {k : Nat} (hk : k ≤ dl.length) (h : ∀ j, j < k → dirGood l0 dl j = true) : (delAll l0 (dl.take k)).length + k ≤ l0.length := by
 induction k with
 | zero =>
  rw [List.take_zero]
  exact Nat.le_refl _
 | succ k ih =>
  have h1 := ih (by omega) fun j hj => h j (by omega)
  have h2 := h k (by omega)
  unfold dirGood at h2
  rw [Bool.and_eq_true] at h2
  have h3 := ptrDel_len ((ptrAt_some _ _).1 h2.2)
  rw [take_getD dl k (by omega), delAll_snoc]
  omega
theorem all_of {n : Nat} {p : Nat → Bool} (h : (List.range n).all p = true) : ∀ j, j < n → p j = true := fun j hj => List.all_eq_true.1 h j (List.mem_range.2 hj)
structure Whole (d : Dsk) : Prop where
 size : sizeOk d = true
 nod : ∀ j, j < d.nods.length → nodGood d j = true
 lnk : ∀ j, j < d.dir.length → lnkGood d j = true
 mov : ∀ j, j < d.movs.length → movGood d j = true
theorem whole_iff (d : Dsk) : diskOk d = true ↔ Whole d := by
 unfold diskOk
 simp only [Bool.and_eq_true]
 constructor
 ·rintro ⟨⟨⟨a, b⟩, c⟩, e⟩
  exact ⟨a, all_of b, all_of c, all_of e⟩
 ·rintro ⟨a, b, c, e⟩
  exact ⟨⟨⟨a, range_yes b⟩, range_yes c⟩, range_yes e⟩
theorem take_of_whole {d : Dsk} (h : Whole d) : takeOk d.room d.next d.nods = true := by
 have hR := (sizeOk_iff d).1 h.size
 unfold takeOk
 rw [decide_eq_true hR.n, decide_eq_true hR.b, all_yes]
 ·rfl
 ·intro k hk
  have hg := h.nod k hk
  unfold nodGood at hg
  simp only [Bool.and_eq_true, decide_eq_true_eq, Bool.not_eq_true', Bool.and_eq_false_iff, decide_eq_false_iff_not] at hg
  obtain ⟨⟨⟨⟨a, b⟩, c, e⟩, f⟩, _⟩ := hg
  unfold goodAt
  simp only [Bool.and_eq_true, Bool.not_eq_true', decide_eq_false_iff_not]
  refine ⟨⟨⟨?_, by omega⟩, by omega⟩, by omega⟩
  cases k with
  | zero => show ¬ _ ≤ (0 : Int); omega
  | succ k =>
   show ¬ _ ≤ (d.nods.getD k default).id
   rcases f with f | f
   ·omega
   ·simpa using f
theorem dir_of_whole {d : Dsk} {gs : List Nat} (hl : gs.length = d.nods.length) (h : Whole d) : dirOk (prs d.nods gs) d.dir = true := by
 unfold dirOk
 refine all_yes fun k hk => ?_
 have hg := h.lnk k hk
 unfold lnkGood at hg
 simp only [Bool.and_eq_true, Bool.not_eq_true', Bool.and_eq_false_iff, decide_eq_false_iff_not] at hg
 obtain ⟨⟨⟨a, b⟩, c⟩, e⟩ := hg
 unfold dirGood
 rw [left_dir hl, a, c, e]
 have hah : ahead (lastName d.dir k) (d.dir.getD k default).name = true := by
  cases k with
  | zero =>
   cases e : ahead (lastName d.dir 0) (d.dir.getD 0 default).name with
   | true => rfl
   | false =>
    have := ahead_empty e
    unfold nameOk at a
    simp only [Bool.and_eq_true, decide_eq_true_eq] at a
    omega
  | succ k =>
   rcases b with b | b
   ·omega
   ·show ahead (d.dir.getD k default).name (d.dir.getD (k + 1) default).name = true
    simpa using b
 rw [ahead_asymm hah, decide_eq_false (fun e => ahead_ne hah e.symm)]
 rfl
theorem mov_of_whole {d : Dsk} {gs : List Nat} (hl : gs.length = d.nods.length) (h : Whole d) : mvOk d.dir (delAll (prs d.nods gs) d.dir) d.movs = true := by
 have hR := (sizeOk_iff d).1 h.size
 refine mvOk_yes hR.m fun k hk => ?_
 have hg := h.mov k hk
 unfold movGood at hg
 unfold mvGood
 rw [Bool.and_eq_true] at hg ⊢
 refine ⟨?_, hg.2⟩
 rw [← hg.1]
 congr 2
 have := left_mov hl d.dir (d.movs.take k) (d.movs.getD k default).id
 rw [← Option.not_isSome, this, ← Option.not_isSome]
 cases (nodAt d.nods (d.movs.getD k default).id).isSome <;> cases linked d.dir (d.movs.getD k default).id <;> cases made (d.movs.take k) (d.movs.getD k default).id <;> rfl
theorem left_of_whole {d : Dsk} {gs : List Nat} (hl : gs.length = d.nods.length) (h : Whole d) : (delMade (delAll (prs d.nods gs) d.dir) d.movs).length = 0 := by
 rw [left_none hl]
 intro x hx
 obtain ⟨k, hk, rfl⟩ := List.getElem_of_mem hx
 have hg := h.nod k hk
 unfold nodGood at hg
 rw [Bool.and_eq_true, Bool.or_eq_true] at hg
 rw [getD_at d.nods k hk]
 exact hg.2
theorem whole_of {d : Dsk} {gs : List Nat} (hl : gs.length = d.nods.length) (r0 : 0 ≤ d.room) (r1 : d.room ≤ 1048576) (x0 : 1 ≤ d.next) (x1 : d.next ≤ 1000000) (h1 : takeOk d.room d.next d.nods = true) (h2 : dirOk (prs d.nods gs) d.dir = true)
  (h3 : mvOk d.dir (delAll (prs d.nods gs) d.dir) d.movs = true) (h4 : (delMade (delAll (prs d.nods gs) d.dir) d.movs).length = 0) : Whole d := by
 unfold takeOk at h1
 simp only [Bool.and_eq_true, decide_eq_true_eq] at h1
 obtain ⟨⟨n10, hall⟩, hby⟩ := h1
 have hn := all_of hall
 have hd := all_of h2
 unfold mvOk at h3
 simp only [Bool.and_eq_true, decide_eq_true_eq] at h3
 obtain ⟨m20, hm⟩ := h3
 have hm := all_of hm
 have hfew := dir_few (Nat.le_refl _) hd
 rw [prs_length hl] at hfew
 have hR : Right d := ⟨r0, r1, x0, x1, n10, m20, by omega, hby⟩
 refine ⟨(sizeOk_iff d).2 hR, fun k hk => ?_, fun k hk => ?_, fun k hk => ?_⟩
 ·have hg := hn k hk
  have hlast := lastId_nonneg (ns := d.nods) (next := d.next) (k := k) fun j hj => hn j (by omega)
  unfold goodAt at hg
  simp only [Bool.and_eq_true, Bool.not_eq_true', decide_eq_false_iff_not] at hg
  obtain ⟨⟨⟨a, b⟩, c⟩, e⟩ := hg
  have hlm := (left_none hl d.dir d.movs).1 h4 _ (getD_mem d.nods k hk)
  unfold nodGood
  simp only [Bool.and_eq_true, decide_eq_true_eq, Bool.not_eq_true', Bool.and_eq_false_iff, decide_eq_false_iff_not, Bool.or_eq_true]
  refine ⟨⟨⟨⟨by omega, by omega⟩, by omega, by omega⟩, ?_⟩, hlm⟩
  cases k with
  | zero => exact .inl (by omega)
  | succ k =>
   refine .inr ?_
   have a' : ¬ (d.nods.getD (k + 1) default).id ≤ (d.nods.getD k default).id := a
   simpa using a'
 ·have hg := hd k hk
  have hah := dirGood_gt hg
  unfold dirGood at hg
  rw [Bool.and_eq_true, Bool.and_eq_true, left_dir hl, Bool.and_eq_true] at hg
  unfold lnkGood
  rw [hg.1.1, hg.2.1, hg.2.2]
  cases k with
  | zero => rfl
  | succ k =>
   have : ahead (d.dir.getD k default).name (d.dir.getD (k + 1) default).name = true := hah
   simp only [Nat.add_sub_cancel]
   rw [this]
   simp
 ·have hg := hm k hk
  unfold mvGood at hg
  rw [Bool.and_eq_true] at hg
  unfold movGood
  rw [Bool.and_eq_true]
  refine ⟨?_, hg.2⟩
  rw [← hg.1]
  congr 2
  have := left_mov hl d.dir (d.movs.take k) (d.movs.getD k default).id
  rw [← Option.not_isSome, ← Option.not_isSome, this]
  cases (nodAt d.nods (d.movs.getD k default).id).isSome <;> cases linked d.dir (d.movs.getD k default).id <;> cases made (d.movs.take k) (d.movs.getD k default).id <;> rfl
theorem diskOk_not {d : Dsk} (h : ¬ Whole d) : diskOk d = false := by
 cases e : diskOk d with
 | false => rfl
 | true => exact absurd ((whole_iff d).1 e) h
theorem NamesOk.of_dir {l0 : List (Int × Nat)} {dl : List Lnk} (h : dirOk l0 dl = true) : NamesOk dl := fun x hx => by
 obtain ⟨k, hk, rfl⟩ := List.getElem_of_mem hx
 have hg := all_of h k hk
 unfold dirGood at hg
 simp only [Bool.and_eq_true] at hg
 rw [getD_at dl k hk]
 exact hg.1.1
theorem dir_len {l0 : List (Int × Nat)} {dl : List Lnk} (h : dirOk l0 dl = true) : dl.length ≤ l0.length := by
 have := dir_few (Nat.le_refl _) (all_of h)
 omega
end Go.Proofs.YtdimaoloapbeoaaGreatDoor
namespace Go.Proofs.YtdimaoloapbeoaaGreatDoor
open Go.RowKit Go.PlainAid
theorem apply_ids {l : List Lnk} {m : Mov} {r : List Lnk} (he : apply l m = some r) : ∀ x ∈ r, (∃ y ∈ l, y.id = x.id) ∨ (m.kind = 1 ∧ x.id = m.id) := by
 by_cases hn : nameOk m.name = false
 ·rw [apply_bad hn] at he; cases he
 ·have hn' : nameOk m.name = true := by simpa using hn
  rcases hat : linkAt l m.name with _ | j
  ·by_cases h1 : m.kind = 1 ∧ m.to.size = 0
   ·obtain ⟨k, n, t, i⟩ := m
    simp only at h1 hn' hat
    obtain ⟨rfl, h1⟩ := h1
    rw [apply_make hn' h1 hat] at he
    cases he
    intro x hx
    rcases ins_mem hx with rfl | hx
    ·exact .inr ⟨rfl, rfl⟩
    ·exact .inl ⟨x, (List.mem_filter.1 hx).1, rfl⟩
   ·rw [apply_none hat h1] at he; cases he
  ·by_cases h2 : m.kind = 2 ∧ m.id = 0 ∧ nameOk m.to = true ∧ m.to ≠ m.name
   ·obtain ⟨k, n, t, i⟩ := m
    simp only at h2 hn' hat
    obtain ⟨rfl, rfl, h2, h3⟩ := h2
    rw [apply_name hn' hat h2 h3] at he
    cases he
    intro x hx
    rcases ins_mem hx with rfl | hx
    ·exact .inl ⟨_, (linkAt_name hat).2, rfl⟩
    ·exact .inl ⟨x, (List.mem_filter.1 (List.mem_filter.1 hx).1).1, rfl⟩
   ·by_cases h3 : m.kind = 3 ∧ m.id = 0 ∧ m.to.size = 0
    ·obtain ⟨k, n, t, i⟩ := m
     simp only at h3 hn' hat
     obtain ⟨rfl, rfl, h3⟩ := h3
     rw [apply_drop hn' hat h3] at he
     cases he
     intro x hx
     exact .inl ⟨x, (List.mem_filter.1 hx).1, rfl⟩
    ·rw [apply_some hat h2 h3] at he; cases he
theorem apply_sorted {l : List Lnk} (h : Sorted l) {m : Mov} {r : List Lnk} (he : apply l m = some r) : Sorted r := by
 by_cases hn : nameOk m.name = false
 ·rw [apply_bad hn] at he; cases he
 ·have hn' : nameOk m.name = true := by simpa using hn
  rcases hat : linkAt l m.name with _ | j
  ·by_cases h1 : m.kind = 1 ∧ m.to.size = 0
   ·obtain ⟨k, n, t, i⟩ := m
    simp only at h1 hn' hat
    obtain ⟨rfl, h1⟩ := h1
    rw [apply_make hn' h1 hat] at he
    cases he
    exact h.withL _
   ·rw [apply_none hat h1] at he; cases he
  ·by_cases h2 : m.kind = 2 ∧ m.id = 0 ∧ nameOk m.to = true ∧ m.to ≠ m.name
   ·obtain ⟨k, n, t, i⟩ := m
    simp only at h2 hn' hat
    obtain ⟨rfl, rfl, h2, h3⟩ := h2
    rw [apply_name hn' hat h2 h3] at he
    cases he
    exact (h.without _).withL _
   ·by_cases h3 : m.kind = 3 ∧ m.id = 0 ∧ m.to.size = 0
    ·obtain ⟨k, n, t, i⟩ := m
     simp only at h3 hn' hat
     obtain ⟨rfl, rfl, h3⟩ := h3
     rw [apply_drop hn' hat h3] at he
     cases he
     exact h.without _
    ·rw [apply_some hat h2 h3] at he; cases he
structure Linked (d : Dsk) (l : List Lnk) : Prop where
 ok : NamesOk l
 sorted : Sorted l
 ids : ∀ x ∈ l, (nodAt d.nods x.id).isSome = true
theorem dir_linked {d : Dsk} (h : Whole d) : Linked d d.dir := by
 have hd := dir_of_whole (gs := d.nods.map fun _ => 0) (by simp) h
 refine ⟨NamesOk.of_dir hd, ?_, fun x hx => ?_⟩
 ·have := (dir_rising (Nat.le_refl _) (all_of hd)).1
  rw [List.take_length] at this
  exact this
 ·obtain ⟨k, hk, rfl⟩ := List.getElem_of_mem hx
  have hg := h.lnk k hk
  unfold lnkGood at hg
  simp only [Bool.and_eq_true] at hg
  rw [getD_at d.dir k hk]
  exact hg.1.2
theorem Linked.apply {d : Dsk} {l : List Lnk} (h : Linked d l) {m : Mov} {r : List Lnk} (he : apply l m = some r) (hm : m.kind = 1 → (nodAt d.nods m.id).isSome = true) : Linked d r :=
 ⟨h.ok.apply he, apply_sorted h.sorted he, fun x hx => by
  rcases apply_ids he x hx with ⟨y, hy, e⟩ | ⟨hk, e⟩
  ·rw [← e]; exact h.ids y hy
  ·rw [e]; exact hm hk⟩
theorem names_linked {d : Dsk} (hd : Whole d) (k : Nat) (hk : k ≤ d.movs.length) : Linked d (names d.dir (d.movs.take k)) := by
 induction k with
 | zero =>
  rw [List.take_zero]
  exact dir_linked hd
 | succ k ih =>
  have h1 := ih (by omega)
  rw [names_take d.dir d.movs k (by omega)]
  have hg := hd.mov k (by omega)
  unfold movGood at hg
  rw [Bool.and_eq_true] at hg
  cases e : apply (names d.dir (d.movs.take k)) (d.movs.getD k default) with
  | none =>
   rw [e] at hg
   cases hg.2
  | some r =>
   refine h1.apply e fun hk1 => ?_
   have := hg.1
   rw [decide_eq_true hk1] at this
   cases e2 : nodAt d.nods (d.movs.getD k default).id with
   | none => rw [e2] at this; cases this
   | some j => rfl
theorem now_linked {d : Dsk} (hd : Whole d) : Linked d (names d.dir d.movs) := by
 have := names_linked hd d.movs.length (Nat.le_refl _)
 rw [List.take_length] at this
 exact this
theorem nod_ids {d : Dsk} (hd : Whole d) : ∀ x ∈ d.nods, 1 ≤ x.id ∧ x.id ≤ 1000000 := fun x hx => by
 obtain ⟨k, hk, rfl⟩ := List.getElem_of_mem hx
 have hg := hd.nod k hk
 have hR := (sizeOk_iff d).1 hd.size
 unfold nodGood at hg
 simp only [Bool.and_eq_true, decide_eq_true_eq] at hg
 rw [getD_at d.nods k hk]
 have h1 := hg.1.1.1
 have h2 := hR.x1
 omega
theorem nodAt_at {ns : List Nod} {id : Int} {j : Nat} (h : nodAt ns id = some j) : j < ns.length ∧ (ns.getD j default).id = id := by
 unfold nodAt at h
 rw [List.findIdx?_eq_some_iff_getElem] at h
 obtain ⟨hi, hp, _⟩ := h
 rw [← getD_at ns j hi]
 exact ⟨hi, of_decide_eq_true hp⟩
theorem ptr_nod {ns : List Nod} {gs : List Nat} (hl : gs.length = ns.length) {id : Int} {j : Nat} (h : nodAt ns id = some j) : ptrAt (prs ns gs) id = some (gs.getD j 0) := by
 unfold nodAt at h
 rw [List.findIdx?_eq_some_iff_getElem] at h
 obtain ⟨hi, hp, hn⟩ := h
 have hf : (prs ns gs).find? (fun p => decide (p.1 = id)) = some (ns[j].id, gs[j]'(by omega)) := by
  unfold prs
  rw [List.find?_eq_some_iff_getElem]
  refine ⟨hp, j, by rw [List.length_zip, List.length_map]; omega, by rw [List.getElem_zip, List.getElem_map], fun i hij => ?_⟩
  rw [List.getElem_zip, List.getElem_map]
  simpa using hn i hij
 unfold ptrAt
 rw [hf, List.getD_eq_getElem?_getD, List.getElem?_eq_getElem (by omega)]
 rfl
end Go.Proofs.YtdimaoloapbeoaaGreatDoor
