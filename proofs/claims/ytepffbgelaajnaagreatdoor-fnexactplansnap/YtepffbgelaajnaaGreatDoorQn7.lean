/- ImTakeM DkFind DkOkA -/
import Derived.Test.YtepffbgelaajnaaGreatDoorRows
import Derived.Test.YtepffbgelaajnaaGreatDoorQn4
import Derived.Test.YtepffbgelaajnaaGreatDoorQn6
import Derived.Test.YtepffbgelaajnaaGreatDoorQn5
import Derived.Deep.RegionLaw
namespace Go.Proofs.YtepffbgelaajnaaGreatDoor
open Go.ChangeShapes Go.WideShapes Go.ChangeAt Go.RowKit Go.PlainAid Go.Maps
set_option linter.unusedVariables false
theorem run_append_row {P : Program} (w : World) (t ty e : TypeId) (z : Value) (sz bytes : Nat)
  (ht : P.underlying t = some (.slice e)) (hinfo : (P.info? e).map (fun i => (i.zero, i.size, i.bytes)) = some (some z, sz, bytes)) (hzs : z.cells.size = sz) (hsz : 0 < sz)
  (base : Nat) (v : Value) (rows : List (List Value)) (hown : Owns w base e sz v rows) (r : List Value) (hr : r.length = sz) (h1 : ∀ u ∈ r, u.oneCell' = true)
  (hlen : rows.length ≤ 2097152) (hby : bytes ≤ 1000) (hbase : base ≤ w.heap.size) :
  ∃ A m c w', (Builtin.append_ #[t, t] ty #[v, .slice (some ⟨w.heap.size, 0, none⟩) 1 1]).run P (w.alloc (.cells r.toArray e)) = .ok (.slice A m c) w' ∧ Owns w' base e sz (.slice A m c) (rows ++ [r]) ∧ Below base w w' ∧ (∀ g, g < w.heap.size → v.ownBlock ≠ some g → w'.heap[g]? = w.heap[g]?) ∧ ((Value.slice A m c).ownBlock = v.ownBlock ∨ ∀ g, (Value.slice A m c).ownBlock = some g → w.heap.size ≤ g) := by
 obtain ⟨i0, hi, hz0, hz1, hz2⟩ := info_parts hinfo
 have hb1 : (rows.length + 1) * bytes ≤ 140737488355328 := Nat.le_trans (Nat.mul_le_mul (show rows.length + 1 ≤ 2097153 by omega) hby) (by omega)
 have hnews : ∀ j u, r[j]? = some u → (w.alloc (.cells r.toArray e)).cell? ((⟨w.heap.size, 0, none⟩ : Addr).add j) = some u := by
  intro j u hj
  have e1 : (⟨w.heap.size, 0, none⟩ : Addr).add j = ⟨w.heap.size, j, none⟩ := by cases j <;> simp [Addr.add]
  rw [e1, World.cell?_alloc_mark]
  simpa using hj
 obtain ⟨v', w', hrun, h2, h3, _⟩ := run_append_own (P := P) (w.alloc (.cells r.toArray e)) base t ty e i0 z sz bytes ht hi hz0 hz1 hz2 hzs hsz v rows.length rows.flatten (World.ownsRow.alloc hown.2 _) ⟨w.heap.size, 0, none⟩ 1 1 r (by rw [hr]; omega) hnews h1 (by unfold maxLen; omega) hb1 (by simp; omega)
 have h5 := run_append_where (P := P) (w.alloc (.cells r.toArray e)) base t ty e i0 z sz bytes ht hi hz0 hz1 hz2 v rows.length rows.flatten (World.ownsRow.alloc hown.2 _) ⟨w.heap.size, 0, none⟩ 1 1 r (by rw [hr]; omega) hnews h1 (by unfold maxLen; omega) hb1 v' w' hrun
 have hb0 : ∀ k, v.ownBlock = some k → base ≤ k := fun k hk => (hown.lt k hk).1
 have hO : Owns w' base e sz v' (rows ++ [r]) := by
  refine ⟨?_, ?_⟩
  ·intro y hy
   rcases List.mem_append.1 hy with hy | hy
   ·exact hown.1 y hy
   ·rw [List.mem_singleton.1 hy]; exact hr
  ·rw [List.length_append, List.flatten_append]
   simpa using h2
 obtain ⟨A, m, c, rfl⟩ := hO.shape
 refine ⟨A, m, c, w', hrun, hO, ((Below.refl base w).alloc hbase _).grown h3 (by simp; omega) hb0, ?_, h5.imp id fun e g hg => by rw [e] at hg; cases hg; simp⟩
 intro g hg hne
 rw [h3.block g (by simp; omega) (fun e => hne e.symm)]
 exact Below.heap_alloc w _ g hg
theorem step_append_run {P : Program} {ops : Array Oper} {o : Oper} {a : Act} {w : World} {K : Act → World → Prop} {Q : Exit → Act → World → Prop} {E : Prop}
  (hg : o.guard = none) (s x : Operand) (t : TypeId) (hop : o.op = Op.call { callee := Callee.builtin Builtin.append, args := #[s, x], argTypes := #[t, t] })
  (v y r : Value) (w' : World) (hs : a.eval s = v) (hx : a.eval x = y) (hrun : (Builtin.append_ #[t, t] o.type #[v, y]).run P w = .ok r w') (hK : K (a.put o.dst r) w') :
  if Region.wanted o (yielded ops a.tmps) = true then Oper.wp P o a w K Q else E := by
 have hw : Region.wanted o (yielded ops a.tmps) = true := by simp [Region.wanted, hg]
 rw [if_pos hw]
 unfold Oper.wp
 simp [execOp, hop, resolve, invoke, builtin, hs, hx, hrun, Result.andThen]
 exact hK
def delMade (l : List (Int × Nat)) (ml : List Mov) : List (Int × Nat) := ml.foldl (fun l m => if m.kind = 1 then ptrDel l m.id else l) l
theorem delMade_snoc (l : List (Int × Nat)) (ml : List Mov) (m : Mov) : delMade l (ml ++ [m]) = if m.kind = 1 then ptrDel (delMade l ml) m.id else delMade l ml := by
 unfold delMade
 rw [List.foldl_append]
 rfl
def mvGood (l : List Lnk) (l1 : List (Int × Nat)) (ml : List Mov) (k : Nat) : Bool :=
 !(decide ((ml.getD k default).kind = 1) && (ptrAt (delMade l1 (ml.take k)) (ml.getD k default).id).isNone) && (apply (names l (ml.take k)) (ml.getD k default)).isSome
def mvOk (l : List Lnk) (l1 : List (Int × Nat)) (ml : List Mov) : Bool := decide (ml.length ≤ 20) && (List.range ml.length).all (mvGood l l1 ml)
theorem mvOk_long {l : List Lnk} {l1 : List (Int × Nat)} {ml : List Mov} (h : ¬ ml.length ≤ 20) : mvOk l l1 ml = false := by
 unfold mvOk
 rw [decide_eq_false h]
 rfl
theorem mvOk_no {l : List Lnk} {l1 : List (Int × Nat)} {ml : List Mov} {k : Nat} (hk : k < ml.length) (h : mvGood l l1 ml k = false) : mvOk l l1 ml = false := by
 unfold mvOk
 rw [all_no hk h, Bool.and_false]
theorem mvOk_yes {l : List Lnk} {l1 : List (Int × Nat)} {ml : List Mov} (hl : ml.length ≤ 20) (h : ∀ j, j < ml.length → mvGood l l1 ml j = true) : mvOk l l1 ml = true := by
 unfold mvOk
 rw [all_yes h, decide_eq_true hl]
 rfl
theorem NamesOk.names {l : List Lnk} (h : NamesOk l) : ∀ ms : List Mov, NamesOk (names l ms)
 | [] => h
 | m :: r => by
  unfold Go.Proofs.YtepffbgelaajnaaGreatDoor.names
  refine NamesOk.names ?_ r
  cases e : Go.Proofs.YtepffbgelaajnaaGreatDoor.apply l m with
  | none => exact h
  | some x => exact h.apply e
set_option maxRecDepth 20000 in
set_option maxHeartbeats 4000000 in
theorem takeMovesV (room next : Int) (vm v3 v4 : Value) (p bw bn B : Nat) (l : List Lnk) (l1 : List (Int × Nat)) (ml : List Mov) (w : World) (hp : Blk w p #[.int .i64 room, .int .i64 next, v3, v4, .slice none 0 0, .map (some bw)] 125) (hD : NT w bw l) (hI : IT w bn l1) (hv : Lies w B 4 vm (movR ml)) (hB : B ≤ w.heap.size) (hbw : B ≤ bw) (hbn : B ≤ bn) (hbp : B ≤ p) (hpw : p ≠ bw) (hpn : p ≠ bn) (hwn : bw ≠ bn)
  (hln : ml.length ≤ 1048576) (hll : l.length ≤ 100) (hok : NamesOk l) (hid : ∀ x ∈ ml, IntOk x.id) (hnm : ∀ x ∈ ml, x.name.size ≤ maxLen ∧ x.to.size ≤ maxLen) :
  Calls Tryz.prog 74 #[.pointer (some ⟨p, 0, none⟩), vm, .map (some bn)] w fun e w' => e = .returned (.bool (mvOk l l1 ml)) ∧ But (fun i => i = bw ∨ i = bn ∨ i = p) w w' ∧
   (mvOk l l1 ml = true → ∃ u, Blk w' p #[.int .i64 room, .int .i64 next, v3, v4, u, .map (some bw)] 125 ∧ Owns w' w.heap.size 106 4 u (movR ml) ∧ NT w' bw (names l ml) ∧ IT w' bn (delMade l1 ml)) := by
 obtain ⟨A, cap, rfl, hl⟩ := mov_look hv
 have HL : Hid (∀ j, j < ml.length → ∃ g off, A = some ⟨g, off, none⟩ ∧ g < B ∧ _) := hl
 have HB : Hid (B ≤ w.heap.size) := hB
 have HBW : Hid (B ≤ bw) := hbw
 have HBN : Hid (B ≤ bn) := hbn
 have HBP : Hid (B ≤ p) := hbp
 have HP : Hid (Blk w p #[.int .i64 room, .int .i64 next, v3, v4, .slice none 0 0, .map (some bw)] 125) := hp
 have HPW : Hid (p ≠ bw) := hpw
 have HPN : Hid (p ≠ bn) := hpn
 have HWN : Hid (bw ≠ bn) := hwn
 have HD : Hid (NT w bw l) := hD
 have HI : Hid (IT w bn l1) := hI
 have HOK : Hid (NamesOk l) := hok
 have HID : Hid (∀ x ∈ ml, IntOk x.id) := hid
 have HNM : Hid (∀ x ∈ ml, x.name.size ≤ maxLen ∧ x.to.size ≤ maxLen) := hnm
 have HLL : Hid (l.length ≤ 100) := hll
 clear hl hv hB hbw hbn hbp hp hpw hpn hwn hD hI hok hid hnm hll
 by_cases hlen : ml.length ≤ 20
 ·have q1 : (ml.length : Int) ≤ 20 := by omega
  have n1' : decide ((20 : Int) < (ml.length : Int)) = false := decide_eq_false (by omega)
  have HE : Hid ((∀ j, j < ml.length → mvGood l l1 ml j = true) → mvOk l l1 ml = true) := mvOk_yes hlen
  have HNO : Hid (∀ k, k < ml.length → mvGood l l1 ml k = false → mvOk l l1 ml = false) := fun k hk h => mvOk_no hk h
  clear hlen hln
  generalize hN : ml.length = N at *
  go_enter Tryz.func74, Tryz.ntmps74
  go_wp2_with fail
  go_loopw [14] (fun v14 wr => ∃ (k : Nat) (u : Value), k ≤ N ∧ v14 = .int .i64 (k : Int) ∧ (∀ j, j < k → mvGood l l1 ml j = true) ∧ Blk wr p #[.int .i64 room, .int .i64 next, v3, v4, u, .map (some bw)] 125 ∧ Owns wr w.heap.size 106 4 u (movR (ml.take k)) ∧ NT wr bw (names l (ml.take k)) ∧ IT wr bn (delMade l1 (ml.take k)) ∧ But (fun i => i = bw ∨ i = bn ∨ i = p) w wr) (fun i _ => N - (intOf i).toNat)
  case atStart => exact ⟨0, _, by omega, rfl, fun j hj => by omega, HP.out, by rw [List.take_zero]; exact Owns.nil _ _ _ _, by rw [List.take_zero]; exact HD.out, by rw [List.take_zero]; exact HI.out, But.refl _ _⟩
  case round =>
   obtain ⟨k, u, hk, rfl, hgd, hpr, hO, hNT, hIT, hbt⟩ := hrel
   obtain ⟨uA, um, uc, rfl⟩ := hO.shape
   have HG : Hid (∀ j, j < k → mvGood l l1 ml j = true) := hgd
   have HPR : Hid (Blk wr p #[.int .i64 room, .int .i64 next, v3, v4, .slice uA um uc, .map (some bw)] 125) := hpr
   have HO : Hid (Owns wr w.heap.size 106 4 (.slice uA um uc) (movR (ml.take k))) := hO
   have HNT : Hid (NT wr bw (names l (ml.take k))) := hNT
   have HIT : Hid (IT wr bn (delMade l1 (ml.take k))) := hIT
   have HBT : Hid (But (fun i => i = bw ∨ i = bn ∨ i = p) w wr) := hbt
   clear hgd hNT hIT hbt hO hpr
   by_cases hlt : k < N
   ·have q4 : (k : Int) < (N : Int) := by omega
    obtain ⟨g, off, rfl, hg, hc0, hc1, hc2, hc3⟩ := HL.out k hlt
    have hgw : g < w.heap.size := Nat.lt_of_lt_of_le hg HB.out
    have hgb : wr.heap[g]? = w.heap[g]? := HBT.out.block g hgw (fun e => by have := HBW.out; have := HBN.out; have := HBP.out; omega)
    have hcc : ∀ o, wr.cell? ⟨g, o, none⟩ = w.cell? ⟨g, o, none⟩ := fun o => World.cell?_of_block (w := w) hgb
    rw [← hcc] at hc0 hc1 hc2 hc3
    have hmem := getD_mem ml k (by omega)
    have HIO : Hid (IntOk (ml.getD k default).id) := HID.out _ hmem
    have HNS : Hid ((ml.getD k default).name.size ≤ maxLen ∧ (ml.getD k default).to.size ≤ maxLen) := HNM.out _ hmem
    have HGE : Hid (mvGood l l1 ml k = (!(decide ((ml.getD k default).kind = 1) && (ptrAt (delMade l1 (ml.take k)) (ml.getD k default).id).isNone) && (apply (names l (ml.take k)) (ml.getD k default)).isSome)) := rfl
    have HBAD : Hid (mvGood l l1 ml k = false → mvOk l l1 ml = false) := fun h => HNO.out k (by omega) h
    have HGD : Hid (mvGood l l1 ml k = true → ∀ j, j < k + 1 → mvGood l l1 ml j = true) := fun h => less_succ HG.out h
    have HNA : Hid (names l (ml.take (k + 1)) = (apply (names l (ml.take k)) (ml.getD k default)).getD (names l (ml.take k))) := names_take l ml k (by omega)
    have HDA : Hid (delMade l1 (ml.take (k + 1)) = if (ml.getD k default).kind = 1 then ptrDel (delMade l1 (ml.take k)) (ml.getD k default).id else delMade l1 (ml.take k)) := by unfold Hid; rw [take_getD ml k (by omega), delMade_snoc]
    have HMR : Hid (movR (ml.take (k + 1)) = movR (ml.take k) ++ [movC (ml.getD k default)]) := movR_snoc ml k (by omega)
    have HNL : Hid ((names l (ml.take k)).length ≤ 1000) := by
     unfold Hid
     have h1 := names_len l (ml.take k)
     rw [List.length_take] at h1
     have := HLL.out
     omega
    have HNK : Hid (NamesOk (names l (ml.take k))) := HOK.out.names _
    have HLR : Hid ((movR (ml.take k)).length ≤ 2097152) := by unfold Hid; rw [movR_length, List.length_take]; omega
    have hpl : p < wr.heap.size := HPR.out.lt
    have hbl : bw < wr.heap.size := HNT.out.lt
    have hbl2 : bn < wr.heap.size := HIT.out.lt
    clear hgb hgw hcc hg hmem
    generalize hxx : ml.getD k default = xx at *
    obtain ⟨mk, mn, mt, mi⟩ := xx
    simp only at *
    generalize hLk : names l (ml.take k) = Lk at *
    generalize hQk : delMade l1 (ml.take k) = Qk at *
    generalize hRk : movR (ml.take k) = Rk at *
    have KP : Blk (wr.alloc (.cells #[.int .i64 mk, .string mn, .string mt, .int .i64 mi] 106)) p #[.int .i64 room, .int .i64 next, v3, v4, .slice uA um uc, .map (some bw)] 125 := HPR.out.alloc _
    have KZ := Blk.new wr #[.int .i64 mk, .string mn, .string mt, .int .i64 mi] 106
    have BY : Hid (But (fun i => i = bw ∨ i = bn ∨ i = p) w (wr.alloc (.cells #[.int .i64 mk, .string mn, .string mt, .int .i64 mi] 106))) := HBT.out.alloc _
    have NY : Hid (NT (wr.alloc (.cells #[.int .i64 mk, .string mn, .string mt, .int .i64 mi] 106)) bw Lk) := HNT.out.on ((Below.refl _ wr).alloc (Nat.le_refl _) _) hbl
    have IY : Hid (IT (wr.alloc (.cells #[.int .i64 mk, .string mn, .string mt, .int .i64 mi] 106)) bn Qk) := HIT.out.on ((Below.refl _ wr).alloc (Nat.le_refl _) _) hbl2
    have OY : Hid (Owns (wr.alloc (.cells #[.int .i64 mk, .string mn, .string mt, .int .i64 mi] 106)) w.heap.size 106 4 (.slice uA um uc) Rk) := HO.out.alloc _
    have HNZ : Hid ((Value.slice uA um uc).ownBlock ≠ some wr.heap.size) := fun e => by
     have := (HO.out.lt _ e).2
     omega
    have HKP : Hid (Blk (wr.alloc (.cells #[.int .i64 mk, .string mn, .string mt, .int .i64 mi] 106)) p #[.int .i64 room, .int .i64 next, v3, v4, .slice uA um uc, .map (some bw)] 125) := KP
    have HKZ : Hid (Blk (wr.alloc (.cells #[.int .i64 mk, .string mn, .string mt, .int .i64 mi] 106)) wr.heap.size #[.int .i64 mk, .string mn, .string mt, .int .i64 mi] 106) := KZ
    have HZP : Hid (p < wr.heap.size) := hpl
    have HZW : Hid (bw < wr.heap.size) := hbl
    have HZN : Hid (bn < wr.heap.size) := hbl2
    have HWW : Hid (w.heap.size ≤ wr.heap.size) := HBT.out.size
    clear KP KZ hpl hbl hbl2
    by_cases hk1 : mk = 1
    ·have e1 : (mk == 1) = true := by simp only [beq_iff_eq]; exact hk1
     rcases hat : ptrAt Qk mi with _ | gq
     ·have gf : Hid (mvGood l l1 ml k = false) := by unfold Hid; rw [HGE.out, hat, decide_eq_true hk1]; rfl
      have r1 := (IY.out.val mi HIO.out).1 hat
      clear hat hk1
      go_wp2_with fail
      go_ret
      exact ⟨by rw [HBAD.out gf.out]; rfl, BY.out, fun h => by rw [HBAD.out gf.out] at h; cases h⟩
     ·have r1 := (IY.out.val mi HIO.out).2 gq hat
      obtain ⟨w2, r2, hI2, hB2, hS2⟩ := IY.out.del mi HIO.out 0
      have HK1 : Hid (mk = 1) := hk1
      have HAT : Hid (ptrAt Qk mi = some gq) := hat
      have KPW : Hid (Blk w2 p #[.int .i64 room, .int .i64 next, v3, v4, .slice uA um uc, .map (some bw)] 125) := hB2.blk HKP.out HPN.out
      have KZW : Hid (Blk w2 wr.heap.size #[.int .i64 mk, .string mn, .string mt, .int .i64 mi] 106) := hB2.blk HKZ.out (fun e => by have := HZN.out; omega)
      have NW : Hid (NT w2 bw Lk) := NY.out.but hB2 HWN.out
      have IW : Hid (IT w2 bn (ptrDel Qk mi)) := hI2
      have OW : Hid (Owns w2 w.heap.size 106 4 (.slice uA um uc) Rk) := OY.out.kept fun gg hgg hgo => by
       have h1 := (OY.out.lt gg hgo).1
       exact hB2.block gg hgg (fun e => by subst e; have := HI.out.lt; omega)
      have BW : Hid (But (fun i => i = bw ∨ i = bn ∨ i = p) w w2) := BY.out.trans hB2 (fun _ _ e => .inr (.inl e))
      have y3 := HKZ.out.cell 3 _ rfl
      clear hat hk1 hI2 hB2 hS2
      go_wp2_with fail
      clear r1 r2 hc0 hc1 hc2 hc3 BY NY IY OY HKP HKZ y3
      generalize wr.heap.size = pz at *
      have S0 : Hid (w2.drew.cell? ⟨p, 5, none⟩ = some (.map (some bw)) ∧ w2.drew.cell? ⟨pz, 0, none⟩ = some (.int .i64 mk) ∧ w2.drew.cell? ⟨pz, 1, none⟩ = some (.string mn) ∧ w2.drew.cell? ⟨pz, 2, none⟩ = some (.string mt) ∧ w2.drew.cell? ⟨pz, 3, none⟩ = some (.int .i64 mi)) := ⟨KPW.out.cell 5 _ rfl, KZW.out.cell 0 _ rfl, KZW.out.cell 1 _ rfl, KZW.out.cell 2 _ rfl, KZW.out.cell 3 _ rfl⟩
      have cA := applyI Lk bw ⟨mk, mn, mt, mi⟩ w2.drew (NW.out.kept rfl) HNL.out HNK.out HNS.out.1 HNS.out.2
      unfold movV at cA
      simp only at cA
      have HPZ : Hid (pz ≠ bw) := by unfold Hid; have := HZW.out; omega
      rcases hap : apply Lk ⟨mk, mn, mt, mi⟩ with _ | Ln
      ·rw [hap] at cA
       have gf : Hid (mvGood l l1 ml k = false) := by unfold Hid; rw [HGE.out, hap]; simp
       go_region_held3 (fun w' => (w'.cell? ⟨p, 5, none⟩ = some (.map (some bw)) ∧ w'.cell? ⟨pz, 0, none⟩ = some (.int .i64 mk) ∧ w'.cell? ⟨pz, 1, none⟩ = some (.string mn) ∧ w'.cell? ⟨pz, 2, none⟩ = some (.string mt) ∧ w'.cell? ⟨pz, 3, none⟩ = some (.int .i64 mi))) (first | exact S0.out | exact S2.out)
        ((go_at_call 102; refine cA.mono ?_; rintro e w4 ⟨rfl, hN4, hB4⟩; have S2 : Hid (w4.cell? ⟨p, 5, none⟩ = some (.map (some bw)) ∧ w4.cell? ⟨pz, 0, none⟩ = some (.int .i64 mk) ∧ w4.cell? ⟨pz, 1, none⟩ = some (.string mn) ∧ w4.cell? ⟨pz, 2, none⟩ = some (.string mt) ∧ w4.cell? ⟨pz, 3, none⟩ = some (.int .i64 mi)) := ⟨(hB4.blk (KPW.out) HPW.out).cell 5 _ rfl, (hB4.blk (KZW.out) HPZ.out).cell 0 _ rfl, (hB4.blk (KZW.out) HPZ.out).cell 1 _ rfl, (hB4.blk (KZW.out) HPZ.out).cell 2 _ rfl, (hB4.blk (KZW.out) HPZ.out).cell 3 _ rfl⟩))
       have B4 : Hid (But (fun i => i = bw ∨ i = bn ∨ i = p) w w4) := BW.out.drew.trans hB4 (fun _ _ e => .inl e)
       clear hN4 hB4
       go_wp2_with fail
       go_ret
       exact ⟨by rw [HBAD.out gf.out]; rfl, B4.out, fun h => by rw [HBAD.out gf.out] at h; cases h⟩
      ·rw [hap] at cA
       have gf : Hid (mvGood l l1 ml k = true) := by unfold Hid; rw [HGE.out, hap]; simp; exact .inr (by rw [HAT.out]; rfl)
       go_region_held3 (fun w' => (w'.cell? ⟨p, 5, none⟩ = some (.map (some bw)) ∧ w'.cell? ⟨pz, 0, none⟩ = some (.int .i64 mk) ∧ w'.cell? ⟨pz, 1, none⟩ = some (.string mn) ∧ w'.cell? ⟨pz, 2, none⟩ = some (.string mt) ∧ w'.cell? ⟨pz, 3, none⟩ = some (.int .i64 mi))) (first | exact S0.out | exact S2.out)
        ((go_at_call 102; refine cA.mono ?_; rintro e w4 ⟨rfl, hN4, hB4⟩; have S2 : Hid (w4.cell? ⟨p, 5, none⟩ = some (.map (some bw)) ∧ w4.cell? ⟨pz, 0, none⟩ = some (.int .i64 mk) ∧ w4.cell? ⟨pz, 1, none⟩ = some (.string mn) ∧ w4.cell? ⟨pz, 2, none⟩ = some (.string mt) ∧ w4.cell? ⟨pz, 3, none⟩ = some (.int .i64 mi)) := ⟨(hB4.blk (KPW.out) HPW.out).cell 5 _ rfl, (hB4.blk (KZW.out) HPZ.out).cell 0 _ rfl, (hB4.blk (KZW.out) HPZ.out).cell 1 _ rfl, (hB4.blk (KZW.out) HPZ.out).cell 2 _ rfl, (hB4.blk (KZW.out) HPZ.out).cell 3 _ rfl⟩))
       have B4 : Hid (But (fun i => i = bw ∨ i = bn ∨ i = p) w w4) := BW.out.drew.trans hB4 (fun _ _ e => .inl e)
       have N4 : Hid (NT w4 bw Ln) := hN4
       have I4 : Hid (IT w4 bn (ptrDel Qk mi)) := (IW.out.kept (w' := w2.drew) rfl).but hB4 HWN.out.symm
       have O4 : Owns w4 w.heap.size 106 4 (.slice uA um uc) Rk := OW.out.kept fun gg hgg hgo => by
        have h1 := (OW.out.lt gg hgo).1
        exact hB4.block gg hgg (fun e => by subst e; have := HD.out.lt; omega)
       have P4 : Hid (Blk w4 p #[.int .i64 room, .int .i64 next, v3, v4, .slice uA um uc, .map (some bw)] 125) := hB4.blk KPW.out HPW.out
       have Z4 : Hid (Blk w4 pz #[.int .i64 mk, .string mn, .string mt, .int .i64 mi] 106) := hB4.blk KZW.out HPZ.out
       have sz4 : w.heap.size ≤ w4.heap.size := B4.out.size
       have O4d : Owns w4.drew w.heap.size 106 4 (.slice uA um uc) Rk := O4.kept fun _ _ _ => rfl
       obtain ⟨nA, nm, nc, w5, r5, hO5, hb5, hk5, hw5⟩ := run_append_row (P := Tryz.prog) w4.drew 36 36 106 (.agg #[.int .i64 0, .string ⟨#[]⟩, .string ⟨#[]⟩, .int .i64 0]) 4 48 Tryz.underlying36 Tryz.infoMov rfl (by omega) w.heap.size (.slice uA um uc) Rk O4d [.int .i64 mk, .string mn, .string mt, .int .i64 mi] rfl (by intro y hy; simp at hy; rcases hy with rfl | rfl | rfl | rfl <;> rfl) HLR.out (by omega) sz4
       have hPo : (Value.slice uA um uc).ownBlock ≠ some p := fun e => by
        have := (O4.lt _ e).1
        have := HP.out.lt
        omega
       have P5 : Hid (Blk w5 p #[.int .i64 room, .int .i64 next, v3, v4, .slice uA um uc, .map (some bw)] 125) := by
        unfold Hid Blk
        rw [hk5 p P4.out.lt hPo]
        exact P4.out
       have Z5 : Hid (Blk w5 pz #[.int .i64 mk, .string mn, .string mt, .int .i64 mi] 106) := by
        unfold Hid Blk
        rw [hk5 pz Z4.out.lt HNZ.out]
        exact Z4.out
       have hbo : ∀ bb, bb < w.heap.size → bb < w4.heap.size → w5.heap[bb]? = w4.heap[bb]? := fun bb h1 h2 => hk5 bb h2 (fun e => by
        have := (O4.lt _ e).1
        omega)
       have N5 : Hid (NT w5 bw Ln) := N4.out.kept (hbo bw HD.out.lt N4.out.lt)
       have I5 : Hid (IT w5 bn (ptrDel Qk mi)) := I4.out.kept (hbo bn HI.out.lt I4.out.lt)
       have B5 : Hid (But (fun i => i = bw ∨ i = bn ∨ i = p) w w5) := B4.out.drew.trans (⟨hb5.os, hb5.tape, hb5.output, hb5.size, fun i hi hn => hk5 i hi (fun e => hn ((O4.lt _ e).1))⟩ : But (fun i => w.heap.size ≤ i) w4.drew w5) (fun i hi h => absurd hi (by omega))
       have O5 : Hid (Owns w5 w.heap.size 106 4 (.slice nA nm nc) (Rk ++ [[.int .i64 mk, .string mn, .string mt, .int .i64 mi]])) := hO5
       have HPo : Hid ((Value.slice nA nm nc).ownBlock ≠ some p) := fun e => by
        have := (hO5.lt _ e).1
        have := HP.out.lt
        omega
       have T0 : Hid (w4.drew.cell? ⟨p, 4, none⟩ = some (.slice uA um uc) ∧ w4.drew.cell? ⟨pz, 0, none⟩ = some (.int .i64 mk) ∧ w4.drew.cell? ⟨pz, 1, none⟩ = some (.string mn) ∧ w4.drew.cell? ⟨pz, 2, none⟩ = some (.string mt) ∧ w4.drew.cell? ⟨pz, 3, none⟩ = some (.int .i64 mi)) := ⟨P4.out.cell 4 _ rfl, Z4.out.cell 0 _ rfl, Z4.out.cell 1 _ rfl, Z4.out.cell 2 _ rfl, Z4.out.cell 3 _ rfl⟩
       have PA : Blk (w4.drew.alloc (.cells #[.int .i64 mk, .string mn, .string mt, .int .i64 mi] 106)) p #[.int .i64 room, .int .i64 next, v3, v4, .slice uA um uc, .map (some bw)] 125 := Blk.alloc (w := w4.drew) P4.out _
       have ZA : Blk (w4.drew.alloc (.cells #[.int .i64 mk, .string mn, .string mt, .int .i64 mi] 106)) pz #[.int .i64 mk, .string mn, .string mt, .int .i64 mi] 106 := Blk.alloc (w := w4.drew) Z4.out _
       have T1 : Hid ((w4.drew.alloc (.cells #[.int .i64 mk, .string mn, .string mt, .int .i64 mi] 106)).cell? ⟨p, 4, none⟩ = some (.slice uA um uc) ∧ (w4.drew.alloc (.cells #[.int .i64 mk, .string mn, .string mt, .int .i64 mi] 106)).cell? ⟨pz, 0, none⟩ = some (.int .i64 mk) ∧ (w4.drew.alloc (.cells #[.int .i64 mk, .string mn, .string mt, .int .i64 mi] 106)).cell? ⟨pz, 1, none⟩ = some (.string mn) ∧ (w4.drew.alloc (.cells #[.int .i64 mk, .string mn, .string mt, .int .i64 mi] 106)).cell? ⟨pz, 2, none⟩ = some (.string mt) ∧ (w4.drew.alloc (.cells #[.int .i64 mk, .string mn, .string mt, .int .i64 mi] 106)).cell? ⟨pz, 3, none⟩ = some (.int .i64 mi)) := ⟨PA.cell 4 _ rfl, ZA.cell 0 _ rfl, ZA.cell 1 _ rfl, ZA.cell 2 _ rfl, ZA.cell 3 _ rfl⟩
       have T2 : Hid (w5.cell? ⟨p, 4, none⟩ = some (.slice uA um uc) ∧ w5.cell? ⟨pz, 0, none⟩ = some (.int .i64 mk) ∧ w5.cell? ⟨pz, 1, none⟩ = some (.string mn) ∧ w5.cell? ⟨pz, 2, none⟩ = some (.string mt) ∧ w5.cell? ⟨pz, 3, none⟩ = some (.int .i64 mi)) := ⟨P5.out.cell 4 _ rfl, Z5.out.cell 0 _ rfl, Z5.out.cell 1 _ rfl, Z5.out.cell 2 _ rfl, Z5.out.cell 3 _ rfl⟩
       have f4 := P5.out.free 4
       have x4 := P5.out.cell 4 _ rfl
       clear hN4 hB4 O4 O4d hO5 hb5 hk5 hw5 hPo hbo PA ZA cA S0 S2
       go_wp2_with fail
       have lp4 : p < w4.heap.size := P4.out.lt
       have lz4 : pz < w4.heap.size := Z4.out.lt
       have g4 := P4.out.cell 4 _ rfl
       have g0 := Z4.out.cell 0 _ rfl
       have g1 := Z4.out.cell 1 _ rfl
       have g2 := Z4.out.cell 2 _ rfl
       have g3 := Z4.out.cell 3 _ rfl
       clear T0 T1 T2
       go_region_law ((refine step_append_run (by rfl) (.tmp 40) (.tmp 42) 36 (by rfl) _ _ _ _ (by rfl) (by rfl) r5 ?_))
       all_goals
        go_wp2_with fail
        go_roundw
        case rel => exact ⟨k + 1, .slice nA nm nc, by omega, by go_num, HGD.out gf.out, P5.out.set 4 _, by rw [HMR.out]; exact O5.out.other HPo.out _ _, by rw [HNA.out, hap]; exact N5.out.kept (Below.heap_setCell _ ⟨p, 4, none⟩ _ _ HPW.out.symm), by rw [HDA.out, if_pos HK1.out]; exact I5.out.kept (Below.heap_setCell _ ⟨p, 4, none⟩ _ _ HPN.out.symm), B5.out.setCell (fun _ => .inr (.inr rfl)) _⟩
        case measure => simp [intOf]; omega
    ·have e1 : (mk == 1) = false := by simp only [beq_eq_false_iff_ne, ne_eq]; exact hk1
     have HK1 : Hid (¬ mk = 1) := hk1
     clear hk1
     go_wp2_with fail
     clear hc0 hc1 hc2 hc3
     generalize wr.alloc (.cells #[.int .i64 mk, .string mn, .string mt, .int .i64 mi] 106) = Y at *
     generalize wr.heap.size = pz at *
     have KPW : Hid (Blk Y p #[.int .i64 room, .int .i64 next, v3, v4, .slice uA um uc, .map (some bw)] 125) := HKP.out
     have KZW : Hid (Blk Y pz #[.int .i64 mk, .string mn, .string mt, .int .i64 mi] 106) := HKZ.out
     have NW : Hid (NT Y bw Lk) := NY.out
     have IW : Hid (IT Y bn Qk) := IY.out
     have OW : Hid (Owns Y w.heap.size 106 4 (.slice uA um uc) Rk) := OY.out
     have BW : Hid (But (fun i => i = bw ∨ i = bn ∨ i = p) w Y) := BY.out
     have S0 : Hid (Y.drew.cell? ⟨p, 5, none⟩ = some (.map (some bw)) ∧ Y.drew.cell? ⟨pz, 0, none⟩ = some (.int .i64 mk) ∧ Y.drew.cell? ⟨pz, 1, none⟩ = some (.string mn) ∧ Y.drew.cell? ⟨pz, 2, none⟩ = some (.string mt) ∧ Y.drew.cell? ⟨pz, 3, none⟩ = some (.int .i64 mi)) := ⟨KPW.out.cell 5 _ rfl, KZW.out.cell 0 _ rfl, KZW.out.cell 1 _ rfl, KZW.out.cell 2 _ rfl, KZW.out.cell 3 _ rfl⟩
     have cA := applyI Lk bw ⟨mk, mn, mt, mi⟩ Y.drew (NW.out.kept rfl) HNL.out HNK.out HNS.out.1 HNS.out.2
     unfold movV at cA
     simp only at cA
     have HPZ : Hid (pz ≠ bw) := by unfold Hid; have := HZW.out; omega
     rcases hap : apply Lk ⟨mk, mn, mt, mi⟩ with _ | Ln
     ·rw [hap] at cA
      have gf : Hid (mvGood l l1 ml k = false) := by unfold Hid; rw [HGE.out, hap]; simp
      go_region_held3 (fun w' => (w'.cell? ⟨p, 5, none⟩ = some (.map (some bw)) ∧ w'.cell? ⟨pz, 0, none⟩ = some (.int .i64 mk) ∧ w'.cell? ⟨pz, 1, none⟩ = some (.string mn) ∧ w'.cell? ⟨pz, 2, none⟩ = some (.string mt) ∧ w'.cell? ⟨pz, 3, none⟩ = some (.int .i64 mi))) (first | exact S0.out | exact S2.out)
       ((go_at_call 102; refine cA.mono ?_; rintro e w4 ⟨rfl, hN4, hB4⟩; have S2 : Hid (w4.cell? ⟨p, 5, none⟩ = some (.map (some bw)) ∧ w4.cell? ⟨pz, 0, none⟩ = some (.int .i64 mk) ∧ w4.cell? ⟨pz, 1, none⟩ = some (.string mn) ∧ w4.cell? ⟨pz, 2, none⟩ = some (.string mt) ∧ w4.cell? ⟨pz, 3, none⟩ = some (.int .i64 mi)) := ⟨(hB4.blk (KPW.out) HPW.out).cell 5 _ rfl, (hB4.blk (KZW.out) HPZ.out).cell 0 _ rfl, (hB4.blk (KZW.out) HPZ.out).cell 1 _ rfl, (hB4.blk (KZW.out) HPZ.out).cell 2 _ rfl, (hB4.blk (KZW.out) HPZ.out).cell 3 _ rfl⟩))
      have B4 : Hid (But (fun i => i = bw ∨ i = bn ∨ i = p) w w4) := BW.out.drew.trans hB4 (fun _ _ e => .inl e)
      clear hN4 hB4
      go_wp2_with fail
      go_ret
      exact ⟨by rw [HBAD.out gf.out]; rfl, B4.out, fun h => by rw [HBAD.out gf.out] at h; cases h⟩
     ·rw [hap] at cA
      have gf : Hid (mvGood l l1 ml k = true) := by unfold Hid; rw [HGE.out, hap]; simp; exact .inl HK1.out
      go_region_held3 (fun w' => (w'.cell? ⟨p, 5, none⟩ = some (.map (some bw)) ∧ w'.cell? ⟨pz, 0, none⟩ = some (.int .i64 mk) ∧ w'.cell? ⟨pz, 1, none⟩ = some (.string mn) ∧ w'.cell? ⟨pz, 2, none⟩ = some (.string mt) ∧ w'.cell? ⟨pz, 3, none⟩ = some (.int .i64 mi))) (first | exact S0.out | exact S2.out)
       ((go_at_call 102; refine cA.mono ?_; rintro e w4 ⟨rfl, hN4, hB4⟩; have S2 : Hid (w4.cell? ⟨p, 5, none⟩ = some (.map (some bw)) ∧ w4.cell? ⟨pz, 0, none⟩ = some (.int .i64 mk) ∧ w4.cell? ⟨pz, 1, none⟩ = some (.string mn) ∧ w4.cell? ⟨pz, 2, none⟩ = some (.string mt) ∧ w4.cell? ⟨pz, 3, none⟩ = some (.int .i64 mi)) := ⟨(hB4.blk (KPW.out) HPW.out).cell 5 _ rfl, (hB4.blk (KZW.out) HPZ.out).cell 0 _ rfl, (hB4.blk (KZW.out) HPZ.out).cell 1 _ rfl, (hB4.blk (KZW.out) HPZ.out).cell 2 _ rfl, (hB4.blk (KZW.out) HPZ.out).cell 3 _ rfl⟩))
      have B4 : Hid (But (fun i => i = bw ∨ i = bn ∨ i = p) w w4) := BW.out.drew.trans hB4 (fun _ _ e => .inl e)
      have N4 : Hid (NT w4 bw Ln) := hN4
      have I4 : Hid (IT w4 bn Qk) := (IW.out.kept (w' := Y.drew) rfl).but hB4 HWN.out.symm
      have O4 : Owns w4 w.heap.size 106 4 (.slice uA um uc) Rk := OW.out.kept fun gg hgg hgo => by
       have h1 := (OW.out.lt gg hgo).1
       exact hB4.block gg hgg (fun e => by subst e; have := HD.out.lt; omega)
      have P4 : Hid (Blk w4 p #[.int .i64 room, .int .i64 next, v3, v4, .slice uA um uc, .map (some bw)] 125) := hB4.blk KPW.out HPW.out
      have Z4 : Hid (Blk w4 pz #[.int .i64 mk, .string mn, .string mt, .int .i64 mi] 106) := hB4.blk KZW.out HPZ.out
      have sz4 : w.heap.size ≤ w4.heap.size := B4.out.size
      have O4d : Owns w4.drew w.heap.size 106 4 (.slice uA um uc) Rk := O4.kept fun _ _ _ => rfl
      obtain ⟨nA, nm, nc, w5, r5, hO5, hb5, hk5, hw5⟩ := run_append_row (P := Tryz.prog) w4.drew 36 36 106 (.agg #[.int .i64 0, .string ⟨#[]⟩, .string ⟨#[]⟩, .int .i64 0]) 4 48 Tryz.underlying36 Tryz.infoMov rfl (by omega) w.heap.size (.slice uA um uc) Rk O4d [.int .i64 mk, .string mn, .string mt, .int .i64 mi] rfl (by intro y hy; simp at hy; rcases hy with rfl | rfl | rfl | rfl <;> rfl) HLR.out (by omega) sz4
      have hPo : (Value.slice uA um uc).ownBlock ≠ some p := fun e => by
       have := (O4.lt _ e).1
       have := HP.out.lt
       omega
      have P5 : Hid (Blk w5 p #[.int .i64 room, .int .i64 next, v3, v4, .slice uA um uc, .map (some bw)] 125) := by
       unfold Hid Blk
       rw [hk5 p P4.out.lt hPo]
       exact P4.out
      have Z5 : Hid (Blk w5 pz #[.int .i64 mk, .string mn, .string mt, .int .i64 mi] 106) := by
       unfold Hid Blk
       rw [hk5 pz Z4.out.lt HNZ.out]
       exact Z4.out
      have hbo : ∀ bb, bb < w.heap.size → bb < w4.heap.size → w5.heap[bb]? = w4.heap[bb]? := fun bb h1 h2 => hk5 bb h2 (fun e => by
       have := (O4.lt _ e).1
       omega)
      have N5 : Hid (NT w5 bw Ln) := N4.out.kept (hbo bw HD.out.lt N4.out.lt)
      have I5 : Hid (IT w5 bn Qk) := I4.out.kept (hbo bn HI.out.lt I4.out.lt)
      have B5 : Hid (But (fun i => i = bw ∨ i = bn ∨ i = p) w w5) := B4.out.drew.trans (⟨hb5.os, hb5.tape, hb5.output, hb5.size, fun i hi hn => hk5 i hi (fun e => hn ((O4.lt _ e).1))⟩ : But (fun i => w.heap.size ≤ i) w4.drew w5) (fun i hi h => absurd hi (by omega))
      have O5 : Hid (Owns w5 w.heap.size 106 4 (.slice nA nm nc) (Rk ++ [[.int .i64 mk, .string mn, .string mt, .int .i64 mi]])) := hO5
      have HPo : Hid ((Value.slice nA nm nc).ownBlock ≠ some p) := fun e => by
       have := (hO5.lt _ e).1
       have := HP.out.lt
       omega
      have T0 : Hid (w4.drew.cell? ⟨p, 4, none⟩ = some (.slice uA um uc) ∧ w4.drew.cell? ⟨pz, 0, none⟩ = some (.int .i64 mk) ∧ w4.drew.cell? ⟨pz, 1, none⟩ = some (.string mn) ∧ w4.drew.cell? ⟨pz, 2, none⟩ = some (.string mt) ∧ w4.drew.cell? ⟨pz, 3, none⟩ = some (.int .i64 mi)) := ⟨P4.out.cell 4 _ rfl, Z4.out.cell 0 _ rfl, Z4.out.cell 1 _ rfl, Z4.out.cell 2 _ rfl, Z4.out.cell 3 _ rfl⟩
      have PA : Blk (w4.drew.alloc (.cells #[.int .i64 mk, .string mn, .string mt, .int .i64 mi] 106)) p #[.int .i64 room, .int .i64 next, v3, v4, .slice uA um uc, .map (some bw)] 125 := Blk.alloc (w := w4.drew) P4.out _
      have ZA : Blk (w4.drew.alloc (.cells #[.int .i64 mk, .string mn, .string mt, .int .i64 mi] 106)) pz #[.int .i64 mk, .string mn, .string mt, .int .i64 mi] 106 := Blk.alloc (w := w4.drew) Z4.out _
      have T1 : Hid ((w4.drew.alloc (.cells #[.int .i64 mk, .string mn, .string mt, .int .i64 mi] 106)).cell? ⟨p, 4, none⟩ = some (.slice uA um uc) ∧ (w4.drew.alloc (.cells #[.int .i64 mk, .string mn, .string mt, .int .i64 mi] 106)).cell? ⟨pz, 0, none⟩ = some (.int .i64 mk) ∧ (w4.drew.alloc (.cells #[.int .i64 mk, .string mn, .string mt, .int .i64 mi] 106)).cell? ⟨pz, 1, none⟩ = some (.string mn) ∧ (w4.drew.alloc (.cells #[.int .i64 mk, .string mn, .string mt, .int .i64 mi] 106)).cell? ⟨pz, 2, none⟩ = some (.string mt) ∧ (w4.drew.alloc (.cells #[.int .i64 mk, .string mn, .string mt, .int .i64 mi] 106)).cell? ⟨pz, 3, none⟩ = some (.int .i64 mi)) := ⟨PA.cell 4 _ rfl, ZA.cell 0 _ rfl, ZA.cell 1 _ rfl, ZA.cell 2 _ rfl, ZA.cell 3 _ rfl⟩
      have T2 : Hid (w5.cell? ⟨p, 4, none⟩ = some (.slice uA um uc) ∧ w5.cell? ⟨pz, 0, none⟩ = some (.int .i64 mk) ∧ w5.cell? ⟨pz, 1, none⟩ = some (.string mn) ∧ w5.cell? ⟨pz, 2, none⟩ = some (.string mt) ∧ w5.cell? ⟨pz, 3, none⟩ = some (.int .i64 mi)) := ⟨P5.out.cell 4 _ rfl, Z5.out.cell 0 _ rfl, Z5.out.cell 1 _ rfl, Z5.out.cell 2 _ rfl, Z5.out.cell 3 _ rfl⟩
      have f4 := P5.out.free 4
      have x4 := P5.out.cell 4 _ rfl
      clear hN4 hB4 O4 O4d hO5 hb5 hk5 hw5 hPo hbo PA ZA cA S0 S2
      go_wp2_with fail
      have lp4 : p < w4.heap.size := P4.out.lt
      have lz4 : pz < w4.heap.size := Z4.out.lt
      have g4 := P4.out.cell 4 _ rfl
      have g0 := Z4.out.cell 0 _ rfl
      have g1 := Z4.out.cell 1 _ rfl
      have g2 := Z4.out.cell 2 _ rfl
      have g3 := Z4.out.cell 3 _ rfl
      clear T0 T1 T2
      go_region_law ((refine step_append_run (by rfl) (.tmp 40) (.tmp 42) 36 (by rfl) _ _ _ _ (by rfl) (by rfl) r5 ?_))
      all_goals
       go_wp2_with fail
       go_roundw
       case rel => exact ⟨k + 1, .slice nA nm nc, by omega, by go_num, HGD.out gf.out, P5.out.set 4 _, by rw [HMR.out]; exact O5.out.other HPo.out _ _, by rw [HNA.out, hap]; exact N5.out.kept (Below.heap_setCell _ ⟨p, 4, none⟩ _ _ HPW.out.symm), by rw [HDA.out, if_neg HK1.out]; exact I5.out.kept (Below.heap_setCell _ ⟨p, 4, none⟩ _ _ HPN.out.symm), B5.out.setCell (fun _ => .inr (.inr rfl)) _⟩
       case measure => simp [intOf]; omega
   ·obtain rfl : k = N := by omega
    have HF : Hid (mvOk l l1 ml = true) := HE.out HG.out
    have HTK : Hid (ml.take k = ml) := by unfold Hid; rw [← hN, List.take_length]
    go_wp2_with fail
    go_ret
    exact ⟨by rw [HF.out]; rfl, HBT.out, fun _ => ⟨_, HPR.out, by have := HO.out; rw [HTK.out] at this; exact this, by have := HNT.out; rw [HTK.out] at this; exact this, by have := HIT.out; rw [HTK.out] at this; exact this⟩⟩
 ·have q1 : (ml.length : Int) ≤ 1048576 := by omega
  have n1 : (20 : Int) < (ml.length : Int) := by omega
  have n1' : decide ((20 : Int) < (ml.length : Int)) = true := decide_eq_true n1
  have HF : Hid (mvOk l l1 ml = false) := mvOk_long hlen
  clear hlen hln
  generalize ml.length = N at *
  go_enter Tryz.func74, Tryz.ntmps74
  go_wp2_with fail
  go_ret
  exact ⟨by rw [HF.out]; rfl, But.refl _ _, fun h => by rw [HF.out] at h; cases h⟩
end Go.Proofs.YtepffbgelaajnaaGreatDoor
namespace Go.Proofs.YtepffbgelaajnaaGreatDoor
open Go.ChangeShapes Go.WideShapes Go.ChangeAt Go.RowKit Go.PlainAid
set_option linter.unusedVariables false
def now (d : Dsk) : List Lnk := names d.dir d.movs
def find (d : Dsk) (name : ByteArray) : Option Nat :=
 match linkAt (now d) name with
 | none => none
 | some i => nodAt d.nods ((now d).getD i default).id
theorem find_no {d : Dsk} {name : ByteArray} (h : linkAt (now d) name = none) : find d name = none := by unfold find; rw [h]
theorem find_yes {d : Dsk} {name : ByteArray} {i : Nat} (h : linkAt (now d) name = some i) : find d name = nodAt d.nods ((now d).getD i default).id := by unfold find; rw [h]
theorem now_len (d : Dsk) : (now d).length ≤ d.dir.length + d.movs.length := names_len _ _
set_option maxRecDepth 20000 in
set_option maxHeartbeats 1000000 in
theorem findV (d : Dsk) (v : Value) (name : ByteArray) (w : World) (B : Nat) (hv : DiskV w B v d) (hf : Fits d) (hn : d.dir.length + d.movs.length ≤ 1048575) (hnn : d.nods.length ≤ 1048576) (hB : B ≤ w.heap.size) :
  Calls Tryz.prog 95 #[v, .string name] w fun e w' => e = .returned (.int .i64 (idxV (find d name))) ∧ Below w.heap.size w w' := by
 have HV : Hid (DiskV w B v d) := hv
 have HF : Hid (Fits d) := hf
 have HB : Hid (B ≤ w.heap.size) := hB
 have HN : Hid (d.dir.length + d.movs.length ≤ 1048575) := hn
 have HNN : Hid (d.nods.length ≤ 1048576) := hnn
 obtain ⟨v1, v2, v3, rfl, h1, h2, h3⟩ := hv
 obtain ⟨A3, c3, rfl, _⟩ := mov_look h3
 clear h1 h2 h3 hf hB hn hnn
 have HL : Hid ((now d).length ≤ 1048575) := Nat.le_trans (now_len d) HN.out
 have HT : Hid (d.movs.take (d.movs.length : Int).toNat = d.movs) := List.take_length
 have cN := fun wx hx hb => namesV d (.agg #[.int .i64 d.room, .int .i64 d.next, v1, v2, .slice A3 d.movs.length c3]) (d.movs.length : Int) wx B hx HF.out HN.out hb
 rw [HT.out] at cN
 go_enter Tryz.func95, Tryz.ntmps95
 go_wp2_with fail
 have hb0 : Below w.heap.size w (w.alloc (.cells #[.int .i64 d.room, .int .i64 d.next, v1, v2, .slice A3 d.movs.length c3] 38)) := (Below.refl _ _).alloc (Nat.le_refl _) _
 have kA := Blk.new w #[.int .i64 d.room, .int .i64 d.next, v1, v2, .slice A3 d.movs.length c3] 38
 generalize w.alloc (.cells #[.int .i64 d.room, .int .i64 d.next, v1, v2, .slice A3 d.movs.length c3] 38) = W at *
 have B0 : Hid (Below w.heap.size w W) := hb0
 have K0 : Hid (Blk W w.heap.size #[.int .i64 d.room, .int .i64 d.next, v1, v2, .slice A3 d.movs.length c3] 38) := kA
 clear hb0 kA
 refine (cN W (HV.out.on (B0.out.mono HB.out)) (Nat.le_trans HB.out B0.out.size)).mono ?_
 rintro e w2 ⟨u, rfl, hO, hb⟩
 have O2 : Hid (Owns w2 W.heap.size 104 2 u (lnkR (now d))) := hO
 have K2 : Hid (Blk w2 w.heap.size #[.int .i64 d.room, .int .i64 d.next, v1, v2, .slice A3 d.movs.length c3] 38) := K0.out.on hb K0.out.lt
 have B2 : Hid (Below w.heap.size w w2) := B0.out.trans (hb.mono B0.out.size)
 clear hO hb cN
 obtain ⟨A, cap, rfl, hlk⟩ := lnk_look O2.out.lies
 have HK : Hid (∀ j, j < (now d).length → ∃ g off, A = some ⟨g, off, none⟩ ∧ g < w2.heap.size ∧ _) := hlk
 have cA := atV4 (now d) (.slice A (now d).length cap) name w2 w2.heap.size O2.out.lies (by have := HL.out; omega)
 clear hlk
 go_wp2_with fail
 refine cA.mono ?_
 rintro e w1 ⟨rfl, rfl⟩
 clear cA
 rcases hat : linkAt (now d) name with _ | i
 ·have e1 : idxV (none : Option Nat) = -1 := rfl
  rw [e1]
  go_wp2_with fail
  go_ret
  exact ⟨by rw [find_no hat]; rfl, B2.out⟩
 ·have e1 : idxV (some i) = (i : Int) := rfl
  rw [e1]
  have hi := idx_lt hat
  obtain ⟨g, off, rfl, hg, hc0, hc1⟩ := HK.out i hi
  have HY : Hid (find d name = nodAt d.nods ((now d).getD i default).id) := find_yes hat
  have q4 : (i : Int) < ((now d).length : Int) := by omega
  have j1 : decide ((i : Int) < 0) = false := decide_eq_false (by omega)
  have y0 := K2.out.cell 0 _ rfl
  have y1 := K2.out.cell 1 _ rfl
  have y2 := K2.out.cell 2 _ rfl
  have y3 := K2.out.cell 3 _ rfl
  have y4 := K2.out.cell 4 _ rfl
  have hVd : DiskV w2.drew B (.agg #[.int .i64 d.room, .int .i64 d.next, v1, v2, .slice A3 d.movs.length c3]) d := HV.out.on ((B2.out.trans ((below_drewN' w2 1).mono B2.out.size)).mono HB.out)
  have hBd : B ≤ w2.drew.heap.size := Nat.le_trans HB.out B2.out.size
  have cI := inodeV d (.agg #[.int .i64 d.room, .int .i64 d.next, v1, v2, .slice A3 d.movs.length c3]) ((now d).getD i default).id w2.drew B hVd HNN.out hBd
  have q5 : ((now d).length : Int) ≤ 1048575 := by have := HL.out; omega
  have HG : Hid (g < w2.heap.size) := hg
  have HW : Hid (w.heap.size < w2.heap.size) := K2.out.lt
  clear hat hVd hBd hc0 hg hi
  generalize ((now d).getD i default).id = li at *
  generalize (now d).length = nn at *
  generalize d.movs.length = M at *
  have Z2 : Hid (w.heap.size ≤ w2.heap.size) := B2.out.size
  generalize hws : w.heap.size = ws at *
  go_wp2_with fail
  have S0 : Hid (w2.drew.cell? ⟨ws, 0, none⟩ = some (.int .i64 d.room) ∧ w2.drew.cell? ⟨ws, 1, none⟩ = some (.int .i64 d.next) ∧ w2.drew.cell? ⟨ws, 2, none⟩ = some v1 ∧ w2.drew.cell? ⟨ws, 3, none⟩ = some v2 ∧ w2.drew.cell? ⟨ws, 4, none⟩ = some (.slice A3 M c3) ∧ w2.drew.cell? ⟨g, off + i * 2 + 1, none⟩ = some (.int .i64 li)) := ⟨y0, y1, y2, y3, y4, hc1⟩
  go_region_held3 (fun w' => w'.cell? ⟨ws, 0, none⟩ = some (.int .i64 d.room) ∧ w'.cell? ⟨ws, 1, none⟩ = some (.int .i64 d.next) ∧ w'.cell? ⟨ws, 2, none⟩ = some v1 ∧ w'.cell? ⟨ws, 3, none⟩ = some v2 ∧ w'.cell? ⟨ws, 4, none⟩ = some (.slice A3 M c3) ∧ w'.cell? ⟨g, off + i * 2 + 1, none⟩ = some (.int .i64 li)) (first | exact S2.out | exact S0.out)
   ((go_at_call 61; refine cI.mono ?_; rintro e w3 ⟨rfl, hb⟩; have S2 : Hid (w3.cell? ⟨ws, 0, none⟩ = some (.int .i64 d.room) ∧ w3.cell? ⟨ws, 1, none⟩ = some (.int .i64 d.next) ∧ w3.cell? ⟨ws, 2, none⟩ = some v1 ∧ w3.cell? ⟨ws, 3, none⟩ = some v2 ∧ w3.cell? ⟨ws, 4, none⟩ = some (.slice A3 M c3) ∧ w3.cell? ⟨g, off + i * 2 + 1, none⟩ = some (.int .i64 li)) := ⟨(hb.cell (p := ⟨ws, 0, none⟩) HW.out).trans y0, (hb.cell (p := ⟨ws, 1, none⟩) HW.out).trans y1, (hb.cell (p := ⟨ws, 2, none⟩) HW.out).trans y2, (hb.cell (p := ⟨ws, 3, none⟩) HW.out).trans y3, (hb.cell (p := ⟨ws, 4, none⟩) HW.out).trans y4, (hb.cell (p := ⟨g, off + i * 2 + 1, none⟩) HG.out).trans hc1⟩))
  go_wp2_with fail
  have B3 : Below ws w w3 := B2.out.trans (((below_drewN' w2 1).mono Z2.out).trans (hb.mono Z2.out))
  go_ret
  exact ⟨by rw [HY.out]; rfl, hws ▸ B3⟩
end Go.Proofs.YtepffbgelaajnaaGreatDoor
namespace Go.Proofs.YtepffbgelaajnaaGreatDoor
open Go.RowKit Go.PlainAid
def nodGood (d : Dsk) (i : Nat) : Bool :=
 (decide (1 ≤ (d.nods.getD i default).id) && decide ((d.nods.getD i default).id ≤ d.next - 1)) && (decide (0 ≤ (d.nods.getD i default).sure) && decide ((d.nods.getD i default).sure ≤ ((d.nods.getD i default).data.size : Int)))
  && !(decide (0 < i) && decide ((d.nods.getD i default).id ≤ (d.nods.getD (i - 1) default).id)) && (linked d.dir (d.nods.getD i default).id || made d.movs (d.nods.getD i default).id)
def lnkGood (d : Dsk) (i : Nat) : Bool :=
 nameOk (d.dir.getD i default).name && !(decide (0 < i) && !ahead (d.dir.getD (i - 1) default).name (d.dir.getD i default).name) && (nodAt d.nods (d.dir.getD i default).id).isSome && !linked (d.dir.take i) (d.dir.getD i default).id
def movGood (d : Dsk) (i : Nat) : Bool :=
 !(decide ((d.movs.getD i default).kind = 1) && ((nodAt d.nods (d.movs.getD i default).id).isNone || linked d.dir (d.movs.getD i default).id || made (d.movs.take i) (d.movs.getD i default).id))
  && (apply (names d.dir (d.movs.take i)) (d.movs.getD i default)).isSome
def sizeOk (d : Dsk) : Bool := (decide (0 ≤ d.room) && decide (d.room ≤ 1048576)) && (decide (1 ≤ d.next) && decide (d.next ≤ 1000000)) && decide (d.nods.length ≤ 10) && decide (d.movs.length ≤ 20) && decide (d.dir.length ≤ 10) && decide ((bytesOf d.nods : Int) ≤ d.room)
def diskOk (d : Dsk) : Bool := sizeOk d && (List.range d.nods.length).all (nodGood d) && (List.range d.dir.length).all (lnkGood d) && (List.range d.movs.length).all (movGood d)
theorem range_no {n k : Nat} {p : Nat → Bool} (hk : k < n) (h : p k = false) : (List.range n).all p = false := by
 rw [List.all_eq_false]
 exact ⟨k, List.mem_range.2 hk, by rw [h]; exact Bool.false_ne_true⟩
theorem range_yes {n : Nat} {p : Nat → Bool} (h : ∀ j, j < n → p j = true) : (List.range n).all p = true := by
 rw [List.all_eq_true]
 exact fun j hj => h j (List.mem_range.1 hj)
theorem diskOk_size {d : Dsk} (h : sizeOk d = false) : diskOk d = false := by unfold diskOk; rw [h]; rfl
theorem diskOk_nod {d : Dsk} {k : Nat} (hk : k < d.nods.length) (h : nodGood d k = false) : diskOk d = false := by
 unfold diskOk
 rw [range_no hk h, Bool.and_false]
 rfl
theorem diskOk_lnk {d : Dsk} {k : Nat} (hk : k < d.dir.length) (h : lnkGood d k = false) : diskOk d = false := by
 unfold diskOk
 rw [range_no hk h, Bool.and_false]
 rfl
theorem diskOk_mov {d : Dsk} {k : Nat} (hk : k < d.movs.length) (h : movGood d k = false) : diskOk d = false := by
 unfold diskOk
 rw [range_no hk h, Bool.and_false]
theorem diskOk_yes {d : Dsk} (h0 : sizeOk d = true) (h1 : ∀ j, j < d.nods.length → nodGood d j = true) (h2 : ∀ j, j < d.dir.length → lnkGood d j = true) (h3 : ∀ j, j < d.movs.length → movGood d j = true) : diskOk d = true := by
 unfold diskOk
 rw [h0, range_yes h1, range_yes h2, range_yes h3]
 rfl
structure Right (d : Dsk) : Prop where
 r0 : 0 ≤ d.room
 r1 : d.room ≤ 1048576
 x0 : 1 ≤ d.next
 x1 : d.next ≤ 1000000
 n : d.nods.length ≤ 10
 m : d.movs.length ≤ 20
 l : d.dir.length ≤ 10
 b : (bytesOf d.nods : Int) ≤ d.room
theorem sizeOk_iff (d : Dsk) : sizeOk d = true ↔ Right d := by
 unfold sizeOk
 simp only [Bool.and_eq_true, decide_eq_true_eq]
 constructor
 ·rintro ⟨⟨⟨⟨⟨⟨a, b⟩, c, e⟩, f⟩, g⟩, h⟩, i⟩
  exact ⟨a, b, c, e, f, g, h, i⟩
 ·rintro ⟨a, b, c, e, f, g, h, i⟩
  exact ⟨⟨⟨⟨⟨⟨a, b⟩, c, e⟩, f⟩, g⟩, h⟩, i⟩
theorem sizeOk_no {d : Dsk} (h : ¬ Right d) : sizeOk d = false := by
 cases e : sizeOk d with
 | false => rfl
 | true => exact absurd ((sizeOk_iff d).1 e) h
end Go.Proofs.YtepffbgelaajnaaGreatDoor
