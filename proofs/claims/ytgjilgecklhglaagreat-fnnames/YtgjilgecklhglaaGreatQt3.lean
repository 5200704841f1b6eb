/- ImTakeM DkFind DkOkA ImOpenA DcMath ImSetP DkNamed ImLaidK ImKeys -/
import Derived.Test.YtgjilgecklhglaaGreatRows
import Derived.Test.YtgjilgecklhglaaGreatQt1
import Derived.Test.YtgjilgecklhglaaGreatQt2
import Derived.Deep.RegionLaw
import Derived.Maps.Ext
import Derived.Shelf.SlGeneric
import Derived.Ground.GgzProg
import Derived.Ground.SlgmProg
import Derived.Shelf.SlIter.Nil
import Derived.Shelf.SlIterI.Nil
import Derived.Shelf.SortM.Plain
import Derived.Shelf.SortM.SortNone
import Derived.Test.YtgjilgecklhglaaGreatProg
import Derived.Test.YtgjilgecklhglaaGreatQt0
namespace Go.Proofs.YtgjilgecklhglaaGreat
open Go.ChangeShapes Go.WideShapes Go.ChangeAt Go.RowKit Go.PlainAid Go.Maps
set_option linter.unusedVariables false
theorem run_append_row {P : Program} (w : World) (t ty e : TypeId) (z : Value) (sz bytes : Nat)
  (ht : P.underlying t = some (.slice e)) (hinfo : (P.info? e).map (fun i => (i.zero, i.size, i.bytes)) = some (some z, sz, bytes)) (hzs : z.cells.size = sz) (hsz : 0 < sz)
  (base : Nat) (v : Value) (rows : List (List Value)) (hown : Owns w base e sz v rows) (r : List Value) (hr : r.length = sz) (h1 : ∀ u ∈ r, u.oneCell' = true)
  (hlen : rows.length ≤ 2097152) (hby : bytes ≤ 1000) (hbase : base ≤ w.heap.size) :
  ∃ A m c w', (Builtin.append_ #[t, t] ty #[v, .slice (some ⟨w.heap.size, 0, none⟩) 1 1]).run P (w.alloc (.cells r.toArray e)) = .ok (.slice A m c) w' ∧ Owns w' base e sz (.slice A m c) (rows ++ [r]) ∧ Below base w w' ∧ (∀ g, g < w.heap.size → v.ownBlock ≠ some g → w'.heap[g]? = w.heap[g]?) ∧ ((Value.slice A m c).ownBlock = v.ownBlock ∨ ∀ g, (Value.slice A m c).ownBlock = some g → w.heap.size ≤ g) := by
 obtain ⟨i0, hi, hz0, hz1, hz2⟩ := info_parts hinfo
 have hb1 : (rows.length + 1) * bytes ≤ 140737488355328 := Nat.le_trans (Nat.mul_le_mul (show rows.length + 1 ≤ 2097153 by omega) hby) (by omega)
 have hnews : ∀ j u, r[j]? = some u → (w.alloc (.cells r.toArray e)).cell? ((⟨w.heap.size, 0, none⟩ : Addr).add j) = some u := by
  intro j u hj
  have e1 : (⟨w.heap.size, 0, none⟩ : Addr).add j = ⟨w.heap.size, j, none⟩ := by cases j <;> simp [Addr.add]
  rw [e1, World.cell?_alloc_mark]
  simpa using hj
 obtain ⟨v', w', hrun, h2, h3, _⟩ := run_append_own (P := P) (w.alloc (.cells r.toArray e)) base t ty e i0 z sz bytes ht hi hz0 hz1 hz2 hzs hsz v rows.length rows.flatten (World.ownsRow.alloc hown.2 _) ⟨w.heap.size, 0, none⟩ 1 1 r (by rw [hr]; omega) hnews h1 (by unfold maxLen; omega) hb1 (by simp; omega)
 have h5 := run_append_where (P := P) (w.alloc (.cells r.toArray e)) base t ty e i0 z sz bytes ht hi hz0 hz1 hz2 v rows.length rows.flatten (World.ownsRow.alloc hown.2 _) ⟨w.heap.size, 0, none⟩ 1 1 r (by rw [hr]; omega) hnews h1 (by unfold maxLen; omega) hb1 v' w' hrun
 have hb0 : ∀ k, v.ownBlock = some k → base ≤ k := fun k hk => (hown.lt k hk).1
 have hO : Owns w' base e sz v' (rows ++ [r]) := by
  refine ⟨?_, ?_⟩
  ·intro y hy
   rcases List.mem_append.1 hy with hy | hy
   ·exact hown.1 y hy
   ·rw [List.mem_singleton.1 hy]; exact hr
  ·rw [List.length_append, List.flatten_append]
   simpa using h2
 obtain ⟨A, m, c, rfl⟩ := hO.shape
 refine ⟨A, m, c, w', hrun, hO, ((Below.refl base w).alloc hbase _).grown h3 (by simp; omega) hb0, ?_, h5.imp id fun e g hg => by rw [e] at hg; cases hg; simp⟩
 intro g hg hne
 rw [h3.block g (by simp; omega) (fun e => hne e.symm)]
 exact Below.heap_alloc w _ g hg
theorem step_append_run {P : Program} {ops : Array Oper} {o : Oper} {a : Act} {w : World} {K : Act → World → Prop} {Q : Exit → Act → World → Prop} {E : Prop}
  (hg : o.guard = none) (s x : Operand) (t : TypeId) (hop : o.op = Op.call { callee := Callee.builtin Builtin.append, args := #[s, x], argTypes := #[t, t] })
  (v y r : Value) (w' : World) (hs : a.eval s = v) (hx : a.eval x = y) (hrun : (Builtin.append_ #[t, t] o.type #[v, y]).run P w = .ok r w') (hK : K (a.put o.dst r) w') :
  if Region.wanted o (yielded ops a.tmps) = true then Oper.wp P o a w K Q else E := by
 have hw : Region.wanted o (yielded ops a.tmps) = true := by simp [Region.wanted, hg]
 rw [if_pos hw]
 unfold Oper.wp
 simp [execOp, hop, resolve, invoke, builtin, hs, hx, hrun, Result.andThen]
 exact hK
def delMade (l : List (Int × Nat)) (ml : List Mov) : List (Int × Nat) := ml.foldl (fun l m => if m.kind = 1 then ptrDel l m.id else l) l
theorem delMade_snoc (l : List (Int × Nat)) (ml : List Mov) (m : Mov) : delMade l (ml ++ [m]) = if m.kind = 1 then ptrDel (delMade l ml) m.id else delMade l ml := by
 unfold delMade
 rw [List.foldl_append]
 rfl
def mvGood (l : List Lnk) (l1 : List (Int × Nat)) (ml : List Mov) (k : Nat) : Bool :=
 !(decide ((ml.getD k default).kind = 1) && (ptrAt (delMade l1 (ml.take k)) (ml.getD k default).id).isNone) && (apply (names l (ml.take k)) (ml.getD k default)).isSome
def mvOk (l : List Lnk) (l1 : List (Int × Nat)) (ml : List Mov) : Bool := decide (ml.length ≤ 20) && (List.range ml.length).all (mvGood l l1 ml)
theorem mvOk_long {l : List Lnk} {l1 : List (Int × Nat)} {ml : List Mov} (h : ¬ ml.length ≤ 20) : mvOk l l1 ml = false := by
 unfold mvOk
 rw [decide_eq_false h]
 rfl
theorem mvOk_no {l : List Lnk} {l1 : List (Int × Nat)} {ml : List Mov} {k : Nat} (hk : k < ml.length) (h : mvGood l l1 ml k = false) : mvOk l l1 ml = false := by
 unfold mvOk
 rw [all_no hk h, Bool.and_false]
theorem mvOk_yes {l : List Lnk} {l1 : List (Int × Nat)} {ml : List Mov} (hl : ml.length ≤ 20) (h : ∀ j, j < ml.length → mvGood l l1 ml j = true) : mvOk l l1 ml = true := by
 unfold mvOk
 rw [all_yes h, decide_eq_true hl]
 rfl
theorem NamesOk.names {l : List Lnk} (h : NamesOk l) : ∀ ms : List Mov, NamesOk (names l ms)
 | [] => h
 | m :: r => by
  unfold Go.Proofs.YtgjilgecklhglaaGreat.names
  refine NamesOk.names ?_ r
  cases e : Go.Proofs.YtgjilgecklhglaaGreat.apply l m with
  | none => exact h
  | some x => exact h.apply e
set_option maxRecDepth 20000 in
set_option maxHeartbeats 4000000 in
theorem takeMovesV (room next : Int) (vm v3 v4 : Value) (p bw bn B : Nat) (l : List Lnk) (l1 : List (Int × Nat)) (ml : List Mov) (w : World) (hp : Blk w p #[.int .i64 room, .int .i64 next, v3, v4, .slice none 0 0, .map (some bw)] 86) (hD : NT w bw l) (hI : IT w bn l1) (hv : Lies w B 4 vm (movR ml)) (hB : B ≤ w.heap.size) (hbw : B ≤ bw) (hbn : B ≤ bn) (hbp : B ≤ p) (hpw : p ≠ bw) (hpn : p ≠ bn) (hwn : bw ≠ bn)
  (hln : ml.length ≤ 1048576) (hll : l.length ≤ 100) (hok : NamesOk l) (hid : ∀ x ∈ ml, IntOk x.id) (hnm : ∀ x ∈ ml, x.name.size ≤ maxLen ∧ x.to.size ≤ maxLen) :
  Calls Tryz.prog 76 #[.pointer (some ⟨p, 0, none⟩), vm, .map (some bn)] w fun e w' => e = .returned (.bool (mvOk l l1 ml)) ∧ But (fun i => i = bw ∨ i = bn ∨ i = p) w w' ∧
   (mvOk l l1 ml = true → ∃ u, Blk w' p #[.int .i64 room, .int .i64 next, v3, v4, u, .map (some bw)] 86 ∧ Owns w' w.heap.size 51 4 u (movR ml) ∧ NT w' bw (names l ml) ∧ IT w' bn (delMade l1 ml)) := by
 obtain ⟨A, cap, rfl, hl⟩ := mov_look hv
 have HL : Hid (∀ j, j < ml.length → ∃ g off, A = some ⟨g, off, none⟩ ∧ g < B ∧ _) := hl
 have HB : Hid (B ≤ w.heap.size) := hB
 have HBW : Hid (B ≤ bw) := hbw
 have HBN : Hid (B ≤ bn) := hbn
 have HBP : Hid (B ≤ p) := hbp
 have HP : Hid (Blk w p #[.int .i64 room, .int .i64 next, v3, v4, .slice none 0 0, .map (some bw)] 86) := hp
 have HPW : Hid (p ≠ bw) := hpw
 have HPN : Hid (p ≠ bn) := hpn
 have HWN : Hid (bw ≠ bn) := hwn
 have HD : Hid (NT w bw l) := hD
 have HI : Hid (IT w bn l1) := hI
 have HOK : Hid (NamesOk l) := hok
 have HID : Hid (∀ x ∈ ml, IntOk x.id) := hid
 have HNM : Hid (∀ x ∈ ml, x.name.size ≤ maxLen ∧ x.to.size ≤ maxLen) := hnm
 have HLL : Hid (l.length ≤ 100) := hll
 clear hl hv hB hbw hbn hbp hp hpw hpn hwn hD hI hok hid hnm hll
 by_cases hlen : ml.length ≤ 20
 ·have q1 : (ml.length : Int) ≤ 20 := by omega
  have n1' : decide ((20 : Int) < (ml.length : Int)) = false := decide_eq_false (by omega)
  have HE : Hid ((∀ j, j < ml.length → mvGood l l1 ml j = true) → mvOk l l1 ml = true) := mvOk_yes hlen
  have HNO : Hid (∀ k, k < ml.length → mvGood l l1 ml k = false → mvOk l l1 ml = false) := fun k hk h => mvOk_no hk h
  clear hlen hln
  generalize hN : ml.length = N at *
  go_enter Tryz.func76, Tryz.ntmps76
  go_wp2_with fail
  go_loopw [14] (fun v14 wr => ∃ (k : Nat) (u : Value), k ≤ N ∧ v14 = .int .i64 (k : Int) ∧ (∀ j, j < k → mvGood l l1 ml j = true) ∧ Blk wr p #[.int .i64 room, .int .i64 next, v3, v4, u, .map (some bw)] 86 ∧ Owns wr w.heap.size 51 4 u (movR (ml.take k)) ∧ NT wr bw (names l (ml.take k)) ∧ IT wr bn (delMade l1 (ml.take k)) ∧ But (fun i => i = bw ∨ i = bn ∨ i = p) w wr) (fun i _ => N - (intOf i).toNat)
  case atStart => exact ⟨0, _, by omega, rfl, fun j hj => by omega, HP.out, by rw [List.take_zero]; exact Owns.nil _ _ _ _, by rw [List.take_zero]; exact HD.out, by rw [List.take_zero]; exact HI.out, But.refl _ _⟩
  case round =>
   obtain ⟨k, u, hk, rfl, hgd, hpr, hO, hNT, hIT, hbt⟩ := hrel
   obtain ⟨uA, um, uc, rfl⟩ := hO.shape
   have HG : Hid (∀ j, j < k → mvGood l l1 ml j = true) := hgd
   have HPR : Hid (Blk wr p #[.int .i64 room, .int .i64 next, v3, v4, .slice uA um uc, .map (some bw)] 86) := hpr
   have HO : Hid (Owns wr w.heap.size 51 4 (.slice uA um uc) (movR (ml.take k))) := hO
   have HNT : Hid (NT wr bw (names l (ml.take k))) := hNT
   have HIT : Hid (IT wr bn (delMade l1 (ml.take k))) := hIT
   have HBT : Hid (But (fun i => i = bw ∨ i = bn ∨ i = p) w wr) := hbt
   clear hgd hNT hIT hbt hO hpr
   by_cases hlt : k < N
   ·have q4 : (k : Int) < (N : Int) := by omega
    obtain ⟨g, off, rfl, hg, hc0, hc1, hc2, hc3⟩ := HL.out k hlt
    have hgw : g < w.heap.size := Nat.lt_of_lt_of_le hg HB.out
    have hgb : wr.heap[g]? = w.heap[g]? := HBT.out.block g hgw (fun e => by have := HBW.out; have := HBN.out; have := HBP.out; omega)
    have hcc : ∀ o, wr.cell? ⟨g, o, none⟩ = w.cell? ⟨g, o, none⟩ := fun o => World.cell?_of_block (w := w) hgb
    rw [← hcc] at hc0 hc1 hc2 hc3
    have hmem := getD_mem ml k (by omega)
    have HIO : Hid (IntOk (ml.getD k default).id) := HID.out _ hmem
    have HNS : Hid ((ml.getD k default).name.size ≤ maxLen ∧ (ml.getD k default).to.size ≤ maxLen) := HNM.out _ hmem
    have HGE : Hid (mvGood l l1 ml k = (!(decide ((ml.getD k default).kind = 1) && (ptrAt (delMade l1 (ml.take k)) (ml.getD k default).id).isNone) && (apply (names l (ml.take k)) (ml.getD k default)).isSome)) := rfl
    have HBAD : Hid (mvGood l l1 ml k = false → mvOk l l1 ml = false) := fun h => HNO.out k (by omega) h
    have HGD : Hid (mvGood l l1 ml k = true → ∀ j, j < k + 1 → mvGood l l1 ml j = true) := fun h => less_succ HG.out h
    have HNA : Hid (names l (ml.take (k + 1)) = (apply (names l (ml.take k)) (ml.getD k default)).getD (names l (ml.take k))) := names_take l ml k (by omega)
    have HDA : Hid (delMade l1 (ml.take (k + 1)) = if (ml.getD k default).kind = 1 then ptrDel (delMade l1 (ml.take k)) (ml.getD k default).id else delMade l1 (ml.take k)) := by unfold Hid; rw [take_getD ml k (by omega), delMade_snoc]
    have HMR : Hid (movR (ml.take (k + 1)) = movR (ml.take k) ++ [movC (ml.getD k default)]) := movR_snoc ml k (by omega)
    have HNL : Hid ((names l (ml.take k)).length ≤ 1000) := by
     unfold Hid
     have h1 := names_len l (ml.take k)
     rw [List.length_take] at h1
     have := HLL.out
     omega
    have HNK : Hid (NamesOk (names l (ml.take k))) := HOK.out.names _
    have HLR : Hid ((movR (ml.take k)).length ≤ 2097152) := by unfold Hid; rw [movR_length, List.length_take]; omega
    have hpl : p < wr.heap.size := HPR.out.lt
    have hbl : bw < wr.heap.size := HNT.out.lt
    have hbl2 : bn < wr.heap.size := HIT.out.lt
    clear hgb hgw hcc hg hmem
    generalize hxx : ml.getD k default = xx at *
    obtain ⟨mk, mn, mt, mi⟩ := xx
    simp only at *
    generalize hLk : names l (ml.take k) = Lk at *
    generalize hQk : delMade l1 (ml.take k) = Qk at *
    generalize hRk : movR (ml.take k) = Rk at *
    have KP : Blk (wr.alloc (.cells #[.int .i64 mk, .string mn, .string mt, .int .i64 mi] 51)) p #[.int .i64 room, .int .i64 next, v3, v4, .slice uA um uc, .map (some bw)] 86 := HPR.out.alloc _
    have KZ := Blk.new wr #[.int .i64 mk, .string mn, .string mt, .int .i64 mi] 51
    have BY : Hid (But (fun i => i = bw ∨ i = bn ∨ i = p) w (wr.alloc (.cells #[.int .i64 mk, .string mn, .string mt, .int .i64 mi] 51))) := HBT.out.alloc _
    have NY : Hid (NT (wr.alloc (.cells #[.int .i64 mk, .string mn, .string mt, .int .i64 mi] 51)) bw Lk) := HNT.out.on ((Below.refl _ wr).alloc (Nat.le_refl _) _) hbl
    have IY : Hid (IT (wr.alloc (.cells #[.int .i64 mk, .string mn, .string mt, .int .i64 mi] 51)) bn Qk) := HIT.out.on ((Below.refl _ wr).alloc (Nat.le_refl _) _) hbl2
    have OY : Hid (Owns (wr.alloc (.cells #[.int .i64 mk, .string mn, .string mt, .int .i64 mi] 51)) w.heap.size 51 4 (.slice uA um uc) Rk) := HO.out.alloc _
    have HNZ : Hid ((Value.slice uA um uc).ownBlock ≠ some wr.heap.size) := fun e => by
     have := (HO.out.lt _ e).2
     omega
    have HKP : Hid (Blk (wr.alloc (.cells #[.int .i64 mk, .string mn, .string mt, .int .i64 mi] 51)) p #[.int .i64 room, .int .i64 next, v3, v4, .slice uA um uc, .map (some bw)] 86) := KP
    have HKZ : Hid (Blk (wr.alloc (.cells #[.int .i64 mk, .string mn, .string mt, .int .i64 mi] 51)) wr.heap.size #[.int .i64 mk, .string mn, .string mt, .int .i64 mi] 51) := KZ
    have HZP : Hid (p < wr.heap.size) := hpl
    have HZW : Hid (bw < wr.heap.size) := hbl
    have HZN : Hid (bn < wr.heap.size) := hbl2
    have HWW : Hid (w.heap.size ≤ wr.heap.size) := HBT.out.size
    clear KP KZ hpl hbl hbl2
    by_cases hk1 : mk = 1
    ·have e1 : (mk == 1) = true := by simp only [beq_iff_eq]; exact hk1
     rcases hat : ptrAt Qk mi with _ | gq
     ·have gf : Hid (mvGood l l1 ml k = false) := by unfold Hid; rw [HGE.out, hat, decide_eq_true hk1]; rfl
      have r1 := (IY.out.val mi HIO.out).1 hat
      clear hat hk1
      go_wp2_with fail
      go_ret
      exact ⟨by rw [HBAD.out gf.out]; rfl, BY.out, fun h => by rw [HBAD.out gf.out] at h; cases h⟩
     ·have r1 := (IY.out.val mi HIO.out).2 gq hat
      obtain ⟨w2, r2, hI2, hB2, hS2⟩ := IY.out.del mi HIO.out 0
      have HK1 : Hid (mk = 1) := hk1
      have HAT : Hid (ptrAt Qk mi = some gq) := hat
      have KPW : Hid (Blk w2 p #[.int .i64 room, .int .i64 next, v3, v4, .slice uA um uc, .map (some bw)] 86) := hB2.blk HKP.out HPN.out
      have KZW : Hid (Blk w2 wr.heap.size #[.int .i64 mk, .string mn, .string mt, .int .i64 mi] 51) := hB2.blk HKZ.out (fun e => by have := HZN.out; omega)
      have NW : Hid (NT w2 bw Lk) := NY.out.but hB2 HWN.out
      have IW : Hid (IT w2 bn (ptrDel Qk mi)) := hI2
      have OW : Hid (Owns w2 w.heap.size 51 4 (.slice uA um uc) Rk) := OY.out.kept fun gg hgg hgo => by
       have h1 := (OY.out.lt gg hgo).1
       exact hB2.block gg hgg (fun e => by subst e; have := HI.out.lt; omega)
      have BW : Hid (But (fun i => i = bw ∨ i = bn ∨ i = p) w w2) := BY.out.trans hB2 (fun _ _ e => .inr (.inl e))
      have y3 := HKZ.out.cell 3 _ rfl
      clear hat hk1 hI2 hB2 hS2
      go_wp2_with fail
      clear r1 r2 hc0 hc1 hc2 hc3 BY NY IY OY HKP HKZ y3
      generalize wr.heap.size = pz at *
      have S0 : Hid (w2.drew.cell? ⟨p, 5, none⟩ = some (.map (some bw)) ∧ w2.drew.cell? ⟨pz, 0, none⟩ = some (.int .i64 mk) ∧ w2.drew.cell? ⟨pz, 1, none⟩ = some (.string mn) ∧ w2.drew.cell? ⟨pz, 2, none⟩ = some (.string mt) ∧ w2.drew.cell? ⟨pz, 3, none⟩ = some (.int .i64 mi)) := ⟨KPW.out.cell 5 _ rfl, KZW.out.cell 0 _ rfl, KZW.out.cell 1 _ rfl, KZW.out.cell 2 _ rfl, KZW.out.cell 3 _ rfl⟩
      have cA := applyI Lk bw ⟨mk, mn, mt, mi⟩ w2.drew (NW.out.kept rfl) HNL.out HNK.out HNS.out.1 HNS.out.2
      unfold movV at cA
      simp only at cA
      have HPZ : Hid (pz ≠ bw) := by unfold Hid; have := HZW.out; omega
      rcases hap : apply Lk ⟨mk, mn, mt, mi⟩ with _ | Ln
      ·rw [hap] at cA
       have gf : Hid (mvGood l l1 ml k = false) := by unfold Hid; rw [HGE.out, hap]; simp
       go_region_held3 (fun w' => (w'.cell? ⟨p, 5, none⟩ = some (.map (some bw)) ∧ w'.cell? ⟨pz, 0, none⟩ = some (.int .i64 mk) ∧ w'.cell? ⟨pz, 1, none⟩ = some (.string mn) ∧ w'.cell? ⟨pz, 2, none⟩ = some (.string mt) ∧ w'.cell? ⟨pz, 3, none⟩ = some (.int .i64 mi))) (first | exact S0.out | exact S2.out)
        ((go_at_call 48; refine cA.mono ?_; rintro e w4 ⟨rfl, hN4, hB4⟩; have S2 : Hid (w4.cell? ⟨p, 5, none⟩ = some (.map (some bw)) ∧ w4.cell? ⟨pz, 0, none⟩ = some (.int .i64 mk) ∧ w4.cell? ⟨pz, 1, none⟩ = some (.string mn) ∧ w4.cell? ⟨pz, 2, none⟩ = some (.string mt) ∧ w4.cell? ⟨pz, 3, none⟩ = some (.int .i64 mi)) := ⟨(hB4.blk (KPW.out) HPW.out).cell 5 _ rfl, (hB4.blk (KZW.out) HPZ.out).cell 0 _ rfl, (hB4.blk (KZW.out) HPZ.out).cell 1 _ rfl, (hB4.blk (KZW.out) HPZ.out).cell 2 _ rfl, (hB4.blk (KZW.out) HPZ.out).cell 3 _ rfl⟩))
       have B4 : Hid (But (fun i => i = bw ∨ i = bn ∨ i = p) w w4) := BW.out.drew.trans hB4 (fun _ _ e => .inl e)
       clear hN4 hB4
       go_wp2_with fail
       go_ret
       exact ⟨by rw [HBAD.out gf.out]; rfl, B4.out, fun h => by rw [HBAD.out gf.out] at h; cases h⟩
      ·rw [hap] at cA
       have gf : Hid (mvGood l l1 ml k = true) := by unfold Hid; rw [HGE.out, hap]; simp; exact .inr (by rw [HAT.out]; rfl)
       go_region_held3 (fun w' => (w'.cell? ⟨p, 5, none⟩ = some (.map (some bw)) ∧ w'.cell? ⟨pz, 0, none⟩ = some (.int .i64 mk) ∧ w'.cell? ⟨pz, 1, none⟩ = some (.string mn) ∧ w'.cell? ⟨pz, 2, none⟩ = some (.string mt) ∧ w'.cell? ⟨pz, 3, none⟩ = some (.int .i64 mi))) (first | exact S0.out | exact S2.out)
        ((go_at_call 48; refine cA.mono ?_; rintro e w4 ⟨rfl, hN4, hB4⟩; have S2 : Hid (w4.cell? ⟨p, 5, none⟩ = some (.map (some bw)) ∧ w4.cell? ⟨pz, 0, none⟩ = some (.int .i64 mk) ∧ w4.cell? ⟨pz, 1, none⟩ = some (.string mn) ∧ w4.cell? ⟨pz, 2, none⟩ = some (.string mt) ∧ w4.cell? ⟨pz, 3, none⟩ = some (.int .i64 mi)) := ⟨(hB4.blk (KPW.out) HPW.out).cell 5 _ rfl, (hB4.blk (KZW.out) HPZ.out).cell 0 _ rfl, (hB4.blk (KZW.out) HPZ.out).cell 1 _ rfl, (hB4.blk (KZW.out) HPZ.out).cell 2 _ rfl, (hB4.blk (KZW.out) HPZ.out).cell 3 _ rfl⟩))
       have B4 : Hid (But (fun i => i = bw ∨ i = bn ∨ i = p) w w4) := BW.out.drew.trans hB4 (fun _ _ e => .inl e)
       have N4 : Hid (NT w4 bw Ln) := hN4
       have I4 : Hid (IT w4 bn (ptrDel Qk mi)) := (IW.out.kept (w' := w2.drew) rfl).but hB4 HWN.out.symm
       have O4 : Owns w4 w.heap.size 51 4 (.slice uA um uc) Rk := OW.out.kept fun gg hgg hgo => by
        have h1 := (OW.out.lt gg hgo).1
        exact hB4.block gg hgg (fun e => by subst e; have := HD.out.lt; omega)
       have P4 : Hid (Blk w4 p #[.int .i64 room, .int .i64 next, v3, v4, .slice uA um uc, .map (some bw)] 86) := hB4.blk KPW.out HPW.out
       have Z4 : Hid (Blk w4 pz #[.int .i64 mk, .string mn, .string mt, .int .i64 mi] 51) := hB4.blk KZW.out HPZ.out
       have sz4 : w.heap.size ≤ w4.heap.size := B4.out.size
       have O4d : Owns w4.drew w.heap.size 51 4 (.slice uA um uc) Rk := O4.kept fun _ _ _ => rfl
       obtain ⟨nA, nm, nc, w5, r5, hO5, hb5, hk5, hw5⟩ := run_append_row (P := Tryz.prog) w4.drew 26 26 51 (.agg #[.int .i64 0, .string ⟨#[]⟩, .string ⟨#[]⟩, .int .i64 0]) 4 48 Tryz.underlying26 Tryz.infoMov rfl (by omega) w.heap.size (.slice uA um uc) Rk O4d [.int .i64 mk, .string mn, .string mt, .int .i64 mi] rfl (by intro y hy; simp at hy; rcases hy with rfl | rfl | rfl | rfl <;> rfl) HLR.out (by omega) sz4
       have hPo : (Value.slice uA um uc).ownBlock ≠ some p := fun e => by
        have := (O4.lt _ e).1
        have := HP.out.lt
        omega
       have P5 : Hid (Blk w5 p #[.int .i64 room, .int .i64 next, v3, v4, .slice uA um uc, .map (some bw)] 86) := by
        unfold Hid Blk
        rw [hk5 p P4.out.lt hPo]
        exact P4.out
       have Z5 : Hid (Blk w5 pz #[.int .i64 mk, .string mn, .string mt, .int .i64 mi] 51) := by
        unfold Hid Blk
        rw [hk5 pz Z4.out.lt HNZ.out]
        exact Z4.out
       have hbo : ∀ bb, bb < w.heap.size → bb < w4.heap.size → w5.heap[bb]? = w4.heap[bb]? := fun bb h1 h2 => hk5 bb h2 (fun e => by
        have := (O4.lt _ e).1
        omega)
       have N5 : Hid (NT w5 bw Ln) := N4.out.kept (hbo bw HD.out.lt N4.out.lt)
       have I5 : Hid (IT w5 bn (ptrDel Qk mi)) := I4.out.kept (hbo bn HI.out.lt I4.out.lt)
       have B5 : Hid (But (fun i => i = bw ∨ i = bn ∨ i = p) w w5) := B4.out.drew.trans (⟨hb5.os, hb5.tape, hb5.output, hb5.size, fun i hi hn => hk5 i hi (fun e => hn ((O4.lt _ e).1))⟩ : But (fun i => w.heap.size ≤ i) w4.drew w5) (fun i hi h => absurd hi (by omega))
       have O5 : Hid (Owns w5 w.heap.size 51 4 (.slice nA nm nc) (Rk ++ [[.int .i64 mk, .string mn, .string mt, .int .i64 mi]])) := hO5
       have HPo : Hid ((Value.slice nA nm nc).ownBlock ≠ some p) := fun e => by
        have := (hO5.lt _ e).1
        have := HP.out.lt
        omega
       have T0 : Hid (w4.drew.cell? ⟨p, 4, none⟩ = some (.slice uA um uc) ∧ w4.drew.cell? ⟨pz, 0, none⟩ = some (.int .i64 mk) ∧ w4.drew.cell? ⟨pz, 1, none⟩ = some (.string mn) ∧ w4.drew.cell? ⟨pz, 2, none⟩ = some (.string mt) ∧ w4.drew.cell? ⟨pz, 3, none⟩ = some (.int .i64 mi)) := ⟨P4.out.cell 4 _ rfl, Z4.out.cell 0 _ rfl, Z4.out.cell 1 _ rfl, Z4.out.cell 2 _ rfl, Z4.out.cell 3 _ rfl⟩
       have PA : Blk (w4.drew.alloc (.cells #[.int .i64 mk, .string mn, .string mt, .int .i64 mi] 51)) p #[.int .i64 room, .int .i64 next, v3, v4, .slice uA um uc, .map (some bw)] 86 := Blk.alloc (w := w4.drew) P4.out _
       have ZA : Blk (w4.drew.alloc (.cells #[.int .i64 mk, .string mn, .string mt, .int .i64 mi] 51)) pz #[.int .i64 mk, .string mn, .string mt, .int .i64 mi] 51 := Blk.alloc (w := w4.drew) Z4.out _
       have T1 : Hid ((w4.drew.alloc (.cells #[.int .i64 mk, .string mn, .string mt, .int .i64 mi] 51)).cell? ⟨p, 4, none⟩ = some (.slice uA um uc) ∧ (w4.drew.alloc (.cells #[.int .i64 mk, .string mn, .string mt, .int .i64 mi] 51)).cell? ⟨pz, 0, none⟩ = some (.int .i64 mk) ∧ (w4.drew.alloc (.cells #[.int .i64 mk, .string mn, .string mt, .int .i64 mi] 51)).cell? ⟨pz, 1, none⟩ = some (.string mn) ∧ (w4.drew.alloc (.cells #[.int .i64 mk, .string mn, .string mt, .int .i64 mi] 51)).cell? ⟨pz, 2, none⟩ = some (.string mt) ∧ (w4.drew.alloc (.cells #[.int .i64 mk, .string mn, .string mt, .int .i64 mi] 51)).cell? ⟨pz, 3, none⟩ = some (.int .i64 mi)) := ⟨PA.cell 4 _ rfl, ZA.cell 0 _ rfl, ZA.cell 1 _ rfl, ZA.cell 2 _ rfl, ZA.cell 3 _ rfl⟩
       have T2 : Hid (w5.cell? ⟨p, 4, none⟩ = some (.slice uA um uc) ∧ w5.cell? ⟨pz, 0, none⟩ = some (.int .i64 mk) ∧ w5.cell? ⟨pz, 1, none⟩ = some (.string mn) ∧ w5.cell? ⟨pz, 2, none⟩ = some (.string mt) ∧ w5.cell? ⟨pz, 3, none⟩ = some (.int .i64 mi)) := ⟨P5.out.cell 4 _ rfl, Z5.out.cell 0 _ rfl, Z5.out.cell 1 _ rfl, Z5.out.cell 2 _ rfl, Z5.out.cell 3 _ rfl⟩
       have f4 := P5.out.free 4
       have x4 := P5.out.cell 4 _ rfl
       clear hN4 hB4 O4 O4d hO5 hb5 hk5 hw5 hPo hbo PA ZA cA S0 S2
       go_wp2_with fail
       have lp4 : p < w4.heap.size := P4.out.lt
       have lz4 : pz < w4.heap.size := Z4.out.lt
       have g4 := P4.out.cell 4 _ rfl
       have g0 := Z4.out.cell 0 _ rfl
       have g1 := Z4.out.cell 1 _ rfl
       have g2 := Z4.out.cell 2 _ rfl
       have g3 := Z4.out.cell 3 _ rfl
       clear T0 T1 T2
       go_region_law ((refine step_append_run (by rfl) (.tmp 40) (.tmp 42) 26 (by rfl) _ _ _ _ (by rfl) (by rfl) r5 ?_))
       all_goals
        go_wp2_with fail
        go_roundw
        case rel => exact ⟨k + 1, .slice nA nm nc, by omega, by go_num, HGD.out gf.out, P5.out.set 4 _, by rw [HMR.out]; exact O5.out.other HPo.out _ _, by rw [HNA.out, hap]; exact N5.out.kept (Below.heap_setCell _ ⟨p, 4, none⟩ _ _ HPW.out.symm), by rw [HDA.out, if_pos HK1.out]; exact I5.out.kept (Below.heap_setCell _ ⟨p, 4, none⟩ _ _ HPN.out.symm), B5.out.setCell (fun _ => .inr (.inr rfl)) _⟩
        case measure => simp [intOf]; omega
    ·have e1 : (mk == 1) = false := by simp only [beq_eq_false_iff_ne, ne_eq]; exact hk1
     have HK1 : Hid (¬ mk = 1) := hk1
     clear hk1
     go_wp2_with fail
     clear hc0 hc1 hc2 hc3
     generalize wr.alloc (.cells #[.int .i64 mk, .string mn, .string mt, .int .i64 mi] 51) = Y at *
     generalize wr.heap.size = pz at *
     have KPW : Hid (Blk Y p #[.int .i64 room, .int .i64 next, v3, v4, .slice uA um uc, .map (some bw)] 86) := HKP.out
     have KZW : Hid (Blk Y pz #[.int .i64 mk, .string mn, .string mt, .int .i64 mi] 51) := HKZ.out
     have NW : Hid (NT Y bw Lk) := NY.out
     have IW : Hid (IT Y bn Qk) := IY.out
     have OW : Hid (Owns Y w.heap.size 51 4 (.slice uA um uc) Rk) := OY.out
     have BW : Hid (But (fun i => i = bw ∨ i = bn ∨ i = p) w Y) := BY.out
     have S0 : Hid (Y.drew.cell? ⟨p, 5, none⟩ = some (.map (some bw)) ∧ Y.drew.cell? ⟨pz, 0, none⟩ = some (.int .i64 mk) ∧ Y.drew.cell? ⟨pz, 1, none⟩ = some (.string mn) ∧ Y.drew.cell? ⟨pz, 2, none⟩ = some (.string mt) ∧ Y.drew.cell? ⟨pz, 3, none⟩ = some (.int .i64 mi)) := ⟨KPW.out.cell 5 _ rfl, KZW.out.cell 0 _ rfl, KZW.out.cell 1 _ rfl, KZW.out.cell 2 _ rfl, KZW.out.cell 3 _ rfl⟩
     have cA := applyI Lk bw ⟨mk, mn, mt, mi⟩ Y.drew (NW.out.kept rfl) HNL.out HNK.out HNS.out.1 HNS.out.2
     unfold movV at cA
     simp only at cA
     have HPZ : Hid (pz ≠ bw) := by unfold Hid; have := HZW.out; omega
     rcases hap : apply Lk ⟨mk, mn, mt, mi⟩ with _ | Ln
     ·rw [hap] at cA
      have gf : Hid (mvGood l l1 ml k = false) := by unfold Hid; rw [HGE.out, hap]; simp
      go_region_held3 (fun w' => (w'.cell? ⟨p, 5, none⟩ = some (.map (some bw)) ∧ w'.cell? ⟨pz, 0, none⟩ = some (.int .i64 mk) ∧ w'.cell? ⟨pz, 1, none⟩ = some (.string mn) ∧ w'.cell? ⟨pz, 2, none⟩ = some (.string mt) ∧ w'.cell? ⟨pz, 3, none⟩ = some (.int .i64 mi))) (first | exact S0.out | exact S2.out)
       ((go_at_call 48; refine cA.mono ?_; rintro e w4 ⟨rfl, hN4, hB4⟩; have S2 : Hid (w4.cell? ⟨p, 5, none⟩ = some (.map (some bw)) ∧ w4.cell? ⟨pz, 0, none⟩ = some (.int .i64 mk) ∧ w4.cell? ⟨pz, 1, none⟩ = some (.string mn) ∧ w4.cell? ⟨pz, 2, none⟩ = some (.string mt) ∧ w4.cell? ⟨pz, 3, none⟩ = some (.int .i64 mi)) := ⟨(hB4.blk (KPW.out) HPW.out).cell 5 _ rfl, (hB4.blk (KZW.out) HPZ.out).cell 0 _ rfl, (hB4.blk (KZW.out) HPZ.out).cell 1 _ rfl, (hB4.blk (KZW.out) HPZ.out).cell 2 _ rfl, (hB4.blk (KZW.out) HPZ.out).cell 3 _ rfl⟩))
      have B4 : Hid (But (fun i => i = bw ∨ i = bn ∨ i = p) w w4) := BW.out.drew.trans hB4 (fun _ _ e => .inl e)
      clear hN4 hB4
      go_wp2_with fail
      go_ret
      exact ⟨by rw [HBAD.out gf.out]; rfl, B4.out, fun h => by rw [HBAD.out gf.out] at h; cases h⟩
     ·rw [hap] at cA
      have gf : Hid (mvGood l l1 ml k = true) := by unfold Hid; rw [HGE.out, hap]; simp; exact .inl HK1.out
      go_region_held3 (fun w' => (w'.cell? ⟨p, 5, none⟩ = some (.map (some bw)) ∧ w'.cell? ⟨pz, 0, none⟩ = some (.int .i64 mk) ∧ w'.cell? ⟨pz, 1, none⟩ = some (.string mn) ∧ w'.cell? ⟨pz, 2, none⟩ = some (.string mt) ∧ w'.cell? ⟨pz, 3, none⟩ = some (.int .i64 mi))) (first | exact S0.out | exact S2.out)
       ((go_at_call 48; refine cA.mono ?_; rintro e w4 ⟨rfl, hN4, hB4⟩; have S2 : Hid (w4.cell? ⟨p, 5, none⟩ = some (.map (some bw)) ∧ w4.cell? ⟨pz, 0, none⟩ = some (.int .i64 mk) ∧ w4.cell? ⟨pz, 1, none⟩ = some (.string mn) ∧ w4.cell? ⟨pz, 2, none⟩ = some (.string mt) ∧ w4.cell? ⟨pz, 3, none⟩ = some (.int .i64 mi)) := ⟨(hB4.blk (KPW.out) HPW.out).cell 5 _ rfl, (hB4.blk (KZW.out) HPZ.out).cell 0 _ rfl, (hB4.blk (KZW.out) HPZ.out).cell 1 _ rfl, (hB4.blk (KZW.out) HPZ.out).cell 2 _ rfl, (hB4.blk (KZW.out) HPZ.out).cell 3 _ rfl⟩))
      have B4 : Hid (But (fun i => i = bw ∨ i = bn ∨ i = p) w w4) := BW.out.drew.trans hB4 (fun _ _ e => .inl e)
      have N4 : Hid (NT w4 bw Ln) := hN4
      have I4 : Hid (IT w4 bn Qk) := (IW.out.kept (w' := Y.drew) rfl).but hB4 HWN.out.symm
      have O4 : Owns w4 w.heap.size 51 4 (.slice uA um uc) Rk := OW.out.kept fun gg hgg hgo => by
       have h1 := (OW.out.lt gg hgo).1
       exact hB4.block gg hgg (fun e => by subst e; have := HD.out.lt; omega)
      have P4 : Hid (Blk w4 p #[.int .i64 room, .int .i64 next, v3, v4, .slice uA um uc, .map (some bw)] 86) := hB4.blk KPW.out HPW.out
      have Z4 : Hid (Blk w4 pz #[.int .i64 mk, .string mn, .string mt, .int .i64 mi] 51) := hB4.blk KZW.out HPZ.out
      have sz4 : w.heap.size ≤ w4.heap.size := B4.out.size
      have O4d : Owns w4.drew w.heap.size 51 4 (.slice uA um uc) Rk := O4.kept fun _ _ _ => rfl
      obtain ⟨nA, nm, nc, w5, r5, hO5, hb5, hk5, hw5⟩ := run_append_row (P := Tryz.prog) w4.drew 26 26 51 (.agg #[.int .i64 0, .string ⟨#[]⟩, .string ⟨#[]⟩, .int .i64 0]) 4 48 Tryz.underlying26 Tryz.infoMov rfl (by omega) w.heap.size (.slice uA um uc) Rk O4d [.int .i64 mk, .string mn, .string mt, .int .i64 mi] rfl (by intro y hy; simp at hy; rcases hy with rfl | rfl | rfl | rfl <;> rfl) HLR.out (by omega) sz4
      have hPo : (Value.slice uA um uc).ownBlock ≠ some p := fun e => by
       have := (O4.lt _ e).1
       have := HP.out.lt
       omega
      have P5 : Hid (Blk w5 p #[.int .i64 room, .int .i64 next, v3, v4, .slice uA um uc, .map (some bw)] 86) := by
       unfold Hid Blk
       rw [hk5 p P4.out.lt hPo]
       exact P4.out
      have Z5 : Hid (Blk w5 pz #[.int .i64 mk, .string mn, .string mt, .int .i64 mi] 51) := by
       unfold Hid Blk
       rw [hk5 pz Z4.out.lt HNZ.out]
       exact Z4.out
      have hbo : ∀ bb, bb < w.heap.size → bb < w4.heap.size → w5.heap[bb]? = w4.heap[bb]? := fun bb h1 h2 => hk5 bb h2 (fun e => by
       have := (O4.lt _ e).1
       omega)
      have N5 : Hid (NT w5 bw Ln) := N4.out.kept (hbo bw HD.out.lt N4.out.lt)
      have I5 : Hid (IT w5 bn Qk) := I4.out.kept (hbo bn HI.out.lt I4.out.lt)
      have B5 : Hid (But (fun i => i = bw ∨ i = bn ∨ i = p) w w5) := B4.out.drew.trans (⟨hb5.os, hb5.tape, hb5.output, hb5.size, fun i hi hn => hk5 i hi (fun e => hn ((O4.lt _ e).1))⟩ : But (fun i => w.heap.size ≤ i) w4.drew w5) (fun i hi h => absurd hi (by omega))
      have O5 : Hid (Owns w5 w.heap.size 51 4 (.slice nA nm nc) (Rk ++ [[.int .i64 mk, .string mn, .string mt, .int .i64 mi]])) := hO5
      have HPo : Hid ((Value.slice nA nm nc).ownBlock ≠ some p) := fun e => by
       have := (hO5.lt _ e).1
       have := HP.out.lt
       omega
      have T0 : Hid (w4.drew.cell? ⟨p, 4, none⟩ = some (.slice uA um uc) ∧ w4.drew.cell? ⟨pz, 0, none⟩ = some (.int .i64 mk) ∧ w4.drew.cell? ⟨pz, 1, none⟩ = some (.string mn) ∧ w4.drew.cell? ⟨pz, 2, none⟩ = some (.string mt) ∧ w4.drew.cell? ⟨pz, 3, none⟩ = some (.int .i64 mi)) := ⟨P4.out.cell 4 _ rfl, Z4.out.cell 0 _ rfl, Z4.out.cell 1 _ rfl, Z4.out.cell 2 _ rfl, Z4.out.cell 3 _ rfl⟩
      have PA : Blk (w4.drew.alloc (.cells #[.int .i64 mk, .string mn, .string mt, .int .i64 mi] 51)) p #[.int .i64 room, .int .i64 next, v3, v4, .slice uA um uc, .map (some bw)] 86 := Blk.alloc (w := w4.drew) P4.out _
      have ZA : Blk (w4.drew.alloc (.cells #[.int .i64 mk, .string mn, .string mt, .int .i64 mi] 51)) pz #[.int .i64 mk, .string mn, .string mt, .int .i64 mi] 51 := Blk.alloc (w := w4.drew) Z4.out _
      have T1 : Hid ((w4.drew.alloc (.cells #[.int .i64 mk, .string mn, .string mt, .int .i64 mi] 51)).cell? ⟨p, 4, none⟩ = some (.slice uA um uc) ∧ (w4.drew.alloc (.cells #[.int .i64 mk, .string mn, .string mt, .int .i64 mi] 51)).cell? ⟨pz, 0, none⟩ = some (.int .i64 mk) ∧ (w4.drew.alloc (.cells #[.int .i64 mk, .string mn, .string mt, .int .i64 mi] 51)).cell? ⟨pz, 1, none⟩ = some (.string mn) ∧ (w4.drew.alloc (.cells #[.int .i64 mk, .string mn, .string mt, .int .i64 mi] 51)).cell? ⟨pz, 2, none⟩ = some (.string mt) ∧ (w4.drew.alloc (.cells #[.int .i64 mk, .string mn, .string mt, .int .i64 mi] 51)).cell? ⟨pz, 3, none⟩ = some (.int .i64 mi)) := ⟨PA.cell 4 _ rfl, ZA.cell 0 _ rfl, ZA.cell 1 _ rfl, ZA.cell 2 _ rfl, ZA.cell 3 _ rfl⟩
      have T2 : Hid (w5.cell? ⟨p, 4, none⟩ = some (.slice uA um uc) ∧ w5.cell? ⟨pz, 0, none⟩ = some (.int .i64 mk) ∧ w5.cell? ⟨pz, 1, none⟩ = some (.string mn) ∧ w5.cell? ⟨pz, 2, none⟩ = some (.string mt) ∧ w5.cell? ⟨pz, 3, none⟩ = some (.int .i64 mi)) := ⟨P5.out.cell 4 _ rfl, Z5.out.cell 0 _ rfl, Z5.out.cell 1 _ rfl, Z5.out.cell 2 _ rfl, Z5.out.cell 3 _ rfl⟩
      have f4 := P5.out.free 4
      have x4 := P5.out.cell 4 _ rfl
      clear hN4 hB4 O4 O4d hO5 hb5 hk5 hw5 hPo hbo PA ZA cA S0 S2
      go_wp2_with fail
      have lp4 : p < w4.heap.size := P4.out.lt
      have lz4 : pz < w4.heap.size := Z4.out.lt
      have g4 := P4.out.cell 4 _ rfl
      have g0 := Z4.out.cell 0 _ rfl
      have g1 := Z4.out.cell 1 _ rfl
      have g2 := Z4.out.cell 2 _ rfl
      have g3 := Z4.out.cell 3 _ rfl
      clear T0 T1 T2
      go_region_law ((refine step_append_run (by rfl) (.tmp 40) (.tmp 42) 26 (by rfl) _ _ _ _ (by rfl) (by rfl) r5 ?_))
      all_goals
       go_wp2_with fail
       go_roundw
       case rel => exact ⟨k + 1, .slice nA nm nc, by omega, by go_num, HGD.out gf.out, P5.out.set 4 _, by rw [HMR.out]; exact O5.out.other HPo.out _ _, by rw [HNA.out, hap]; exact N5.out.kept (Below.heap_setCell _ ⟨p, 4, none⟩ _ _ HPW.out.symm), by rw [HDA.out, if_neg HK1.out]; exact I5.out.kept (Below.heap_setCell _ ⟨p, 4, none⟩ _ _ HPN.out.symm), B5.out.setCell (fun _ => .inr (.inr rfl)) _⟩
       case measure => simp [intOf]; omega
   ·obtain rfl : k = N := by omega
    have HF : Hid (mvOk l l1 ml = true) := HE.out HG.out
    have HTK : Hid (ml.take k = ml) := by unfold Hid; rw [← hN, List.take_length]
    go_wp2_with fail
    go_ret
    exact ⟨by rw [HF.out]; rfl, HBT.out, fun _ => ⟨_, HPR.out, by have := HO.out; rw [HTK.out] at this; exact this, by have := HNT.out; rw [HTK.out] at this; exact this, by have := HIT.out; rw [HTK.out] at this; exact this⟩⟩
 ·have q1 : (ml.length : Int) ≤ 1048576 := by omega
  have n1 : (20 : Int) < (ml.length : Int) := by omega
  have n1' : decide ((20 : Int) < (ml.length : Int)) = true := decide_eq_true n1
  have HF : Hid (mvOk l l1 ml = false) := mvOk_long hlen
  clear hlen hln
  generalize ml.length = N at *
  go_enter Tryz.func76, Tryz.ntmps76
  go_wp2_with fail
  go_ret
  exact ⟨by rw [HF.out]; rfl, But.refl _ _, fun h => by rw [HF.out] at h; cases h⟩
end Go.Proofs.YtgjilgecklhglaaGreat
namespace Go.Proofs.YtgjilgecklhglaaGreat
open Go.ChangeShapes Go.WideShapes Go.ChangeAt Go.RowKit Go.PlainAid
set_option linter.unusedVariables false
def now (d : Dsk) : List Lnk := names d.dir d.movs
def find (d : Dsk) (name : ByteArray) : Option Nat :=
 match linkAt (now d) name with
 | none => none
 | some i => nodAt d.nods ((now d).getD i default).id
theorem find_no {d : Dsk} {name : ByteArray} (h : linkAt (now d) name = none) : find d name = none := by unfold find; rw [h]
theorem find_yes {d : Dsk} {name : ByteArray} {i : Nat} (h : linkAt (now d) name = some i) : find d name = nodAt d.nods ((now d).getD i default).id := by unfold find; rw [h]
theorem now_len (d : Dsk) : (now d).length ≤ d.dir.length + d.movs.length := names_len _ _
set_option maxRecDepth 20000 in
set_option maxHeartbeats 1000000 in
theorem findV (d : Dsk) (v : Value) (name : ByteArray) (w : World) (B : Nat) (hv : DiskV w B v d) (hf : Fits d) (hn : d.dir.length + d.movs.length ≤ 1048575) (hnn : d.nods.length ≤ 1048576) (hB : B ≤ w.heap.size) :
  Calls Tryz.prog 32 #[v, .string name] w fun e w' => e = .returned (.int .i64 (idxV (find d name))) ∧ Below w.heap.size w w' := by
 have HV : Hid (DiskV w B v d) := hv
 have HF : Hid (Fits d) := hf
 have HB : Hid (B ≤ w.heap.size) := hB
 have HN : Hid (d.dir.length + d.movs.length ≤ 1048575) := hn
 have HNN : Hid (d.nods.length ≤ 1048576) := hnn
 obtain ⟨v1, v2, v3, rfl, h1, h2, h3⟩ := hv
 obtain ⟨A3, c3, rfl, _⟩ := mov_look h3
 clear h1 h2 h3 hf hB hn hnn
 have HL : Hid ((now d).length ≤ 1048575) := Nat.le_trans (now_len d) HN.out
 have HT : Hid (d.movs.take (d.movs.length : Int).toNat = d.movs) := List.take_length
 have cN := fun wx hx hb => namesV d (.agg #[.int .i64 d.room, .int .i64 d.next, v1, v2, .slice A3 d.movs.length c3]) (d.movs.length : Int) wx B hx HF.out HN.out hb
 rw [HT.out] at cN
 go_enter Tryz.func32, Tryz.ntmps32
 go_wp2_with fail
 have hb0 : Below w.heap.size w (w.alloc (.cells #[.int .i64 d.room, .int .i64 d.next, v1, v2, .slice A3 d.movs.length c3] 28)) := (Below.refl _ _).alloc (Nat.le_refl _) _
 have kA := Blk.new w #[.int .i64 d.room, .int .i64 d.next, v1, v2, .slice A3 d.movs.length c3] 28
 generalize w.alloc (.cells #[.int .i64 d.room, .int .i64 d.next, v1, v2, .slice A3 d.movs.length c3] 28) = W at *
 have B0 : Hid (Below w.heap.size w W) := hb0
 have K0 : Hid (Blk W w.heap.size #[.int .i64 d.room, .int .i64 d.next, v1, v2, .slice A3 d.movs.length c3] 28) := kA
 clear hb0 kA
 refine (cN W (HV.out.on (B0.out.mono HB.out)) (Nat.le_trans HB.out B0.out.size)).mono ?_
 rintro e w2 ⟨u, rfl, hO, hb⟩
 have O2 : Hid (Owns w2 W.heap.size 49 2 u (lnkR (now d))) := hO
 have K2 : Hid (Blk w2 w.heap.size #[.int .i64 d.room, .int .i64 d.next, v1, v2, .slice A3 d.movs.length c3] 28) := K0.out.on hb K0.out.lt
 have B2 : Hid (Below w.heap.size w w2) := B0.out.trans (hb.mono B0.out.size)
 clear hO hb cN
 obtain ⟨A, cap, rfl, hlk⟩ := lnk_look O2.out.lies
 have HK : Hid (∀ j, j < (now d).length → ∃ g off, A = some ⟨g, off, none⟩ ∧ g < w2.heap.size ∧ _) := hlk
 have cA := atV4 (now d) (.slice A (now d).length cap) name w2 w2.heap.size O2.out.lies (by have := HL.out; omega)
 clear hlk
 go_wp2_with fail
 refine cA.mono ?_
 rintro e w1 ⟨rfl, rfl⟩
 clear cA
 rcases hat : linkAt (now d) name with _ | i
 ·have e1 : idxV (none : Option Nat) = -1 := rfl
  rw [e1]
  go_wp2_with fail
  go_ret
  exact ⟨by rw [find_no hat]; rfl, B2.out⟩
 ·have e1 : idxV (some i) = (i : Int) := rfl
  rw [e1]
  have hi := idx_lt hat
  obtain ⟨g, off, rfl, hg, hc0, hc1⟩ := HK.out i hi
  have HY : Hid (find d name = nodAt d.nods ((now d).getD i default).id) := find_yes hat
  have q4 : (i : Int) < ((now d).length : Int) := by omega
  have j1 : decide ((i : Int) < 0) = false := decide_eq_false (by omega)
  have y0 := K2.out.cell 0 _ rfl
  have y1 := K2.out.cell 1 _ rfl
  have y2 := K2.out.cell 2 _ rfl
  have y3 := K2.out.cell 3 _ rfl
  have y4 := K2.out.cell 4 _ rfl
  have hVd : DiskV w2.drew B (.agg #[.int .i64 d.room, .int .i64 d.next, v1, v2, .slice A3 d.movs.length c3]) d := HV.out.on ((B2.out.trans ((below_drewN' w2 1).mono B2.out.size)).mono HB.out)
  have hBd : B ≤ w2.drew.heap.size := Nat.le_trans HB.out B2.out.size
  have cI := inodeV d (.agg #[.int .i64 d.room, .int .i64 d.next, v1, v2, .slice A3 d.movs.length c3]) ((now d).getD i default).id w2.drew B hVd HNN.out hBd
  have q5 : ((now d).length : Int) ≤ 1048575 := by have := HL.out; omega
  have HG : Hid (g < w2.heap.size) := hg
  have HW : Hid (w.heap.size < w2.heap.size) := K2.out.lt
  clear hat hVd hBd hc0 hg hi
  generalize ((now d).getD i default).id = li at *
  generalize (now d).length = nn at *
  generalize d.movs.length = M at *
  have Z2 : Hid (w.heap.size ≤ w2.heap.size) := B2.out.size
  generalize hws : w.heap.size = ws at *
  go_wp2_with fail
  have S0 : Hid (w2.drew.cell? ⟨ws, 0, none⟩ = some (.int .i64 d.room) ∧ w2.drew.cell? ⟨ws, 1, none⟩ = some (.int .i64 d.next) ∧ w2.drew.cell? ⟨ws, 2, none⟩ = some v1 ∧ w2.drew.cell? ⟨ws, 3, none⟩ = some v2 ∧ w2.drew.cell? ⟨ws, 4, none⟩ = some (.slice A3 M c3) ∧ w2.drew.cell? ⟨g, off + i * 2 + 1, none⟩ = some (.int .i64 li)) := ⟨y0, y1, y2, y3, y4, hc1⟩
  go_region_held3 (fun w' => w'.cell? ⟨ws, 0, none⟩ = some (.int .i64 d.room) ∧ w'.cell? ⟨ws, 1, none⟩ = some (.int .i64 d.next) ∧ w'.cell? ⟨ws, 2, none⟩ = some v1 ∧ w'.cell? ⟨ws, 3, none⟩ = some v2 ∧ w'.cell? ⟨ws, 4, none⟩ = some (.slice A3 M c3) ∧ w'.cell? ⟨g, off + i * 2 + 1, none⟩ = some (.int .i64 li)) (first | exact S2.out | exact S0.out)
   ((go_at_call 56; refine cI.mono ?_; rintro e w3 ⟨rfl, hb⟩; have S2 : Hid (w3.cell? ⟨ws, 0, none⟩ = some (.int .i64 d.room) ∧ w3.cell? ⟨ws, 1, none⟩ = some (.int .i64 d.next) ∧ w3.cell? ⟨ws, 2, none⟩ = some v1 ∧ w3.cell? ⟨ws, 3, none⟩ = some v2 ∧ w3.cell? ⟨ws, 4, none⟩ = some (.slice A3 M c3) ∧ w3.cell? ⟨g, off + i * 2 + 1, none⟩ = some (.int .i64 li)) := ⟨(hb.cell (p := ⟨ws, 0, none⟩) HW.out).trans y0, (hb.cell (p := ⟨ws, 1, none⟩) HW.out).trans y1, (hb.cell (p := ⟨ws, 2, none⟩) HW.out).trans y2, (hb.cell (p := ⟨ws, 3, none⟩) HW.out).trans y3, (hb.cell (p := ⟨ws, 4, none⟩) HW.out).trans y4, (hb.cell (p := ⟨g, off + i * 2 + 1, none⟩) HG.out).trans hc1⟩))
  go_wp2_with fail
  have B3 : Below ws w w3 := B2.out.trans (((below_drewN' w2 1).mono Z2.out).trans (hb.mono Z2.out))
  go_ret
  exact ⟨by rw [HY.out]; rfl, hws ▸ B3⟩
end Go.Proofs.YtgjilgecklhglaaGreat
namespace Go.Proofs.YtgjilgecklhglaaGreat
open Go.RowKit Go.PlainAid
def nodGood (d : Dsk) (i : Nat) : Bool :=
 (decide (1 ≤ (d.nods.getD i default).id) && decide ((d.nods.getD i default).id ≤ d.next - 1)) && (decide (0 ≤ (d.nods.getD i default).sure) && decide ((d.nods.getD i default).sure ≤ ((d.nods.getD i default).data.size : Int)))
  && !(decide (0 < i) && decide ((d.nods.getD i default).id ≤ (d.nods.getD (i - 1) default).id)) && (linked d.dir (d.nods.getD i default).id || made d.movs (d.nods.getD i default).id)
def lnkGood (d : Dsk) (i : Nat) : Bool :=
 nameOk (d.dir.getD i default).name && !(decide (0 < i) && !ahead (d.dir.getD (i - 1) default).name (d.dir.getD i default).name) && (nodAt d.nods (d.dir.getD i default).id).isSome && !linked (d.dir.take i) (d.dir.getD i default).id
def movGood (d : Dsk) (i : Nat) : Bool :=
 !(decide ((d.movs.getD i default).kind = 1) && ((nodAt d.nods (d.movs.getD i default).id).isNone || linked d.dir (d.movs.getD i default).id || made (d.movs.take i) (d.movs.getD i default).id))
  && (apply (names d.dir (d.movs.take i)) (d.movs.getD i default)).isSome
def sizeOk (d : Dsk) : Bool := (decide (0 ≤ d.room) && decide (d.room ≤ 1048576)) && (decide (1 ≤ d.next) && decide (d.next ≤ 1000000)) && decide (d.nods.length ≤ 10) && decide (d.movs.length ≤ 20) && decide (d.dir.length ≤ 10) && decide ((bytesOf d.nods : Int) ≤ d.room)
def diskOk (d : Dsk) : Bool := sizeOk d && (List.range d.nods.length).all (nodGood d) && (List.range d.dir.length).all (lnkGood d) && (List.range d.movs.length).all (movGood d)
theorem range_no {n k : Nat} {p : Nat → Bool} (hk : k < n) (h : p k = false) : (List.range n).all p = false := by
 rw [List.all_eq_false]
 exact ⟨k, List.mem_range.2 hk, by rw [h]; exact Bool.false_ne_true⟩
theorem range_yes {n : Nat} {p : Nat → Bool} (h : ∀ j, j < n → p j = true) : (List.range n).all p = true := by
 rw [List.all_eq_true]
 exact fun j hj => h j (List.mem_range.1 hj)
theorem diskOk_size {d : Dsk} (h : sizeOk d = false) : diskOk d = false := by unfold diskOk; rw [h]; rfl
theorem diskOk_nod {d : Dsk} {k : Nat} (hk : k < d.nods.length) (h : nodGood d k = false) : diskOk d = false := by
 unfold diskOk
 rw [range_no hk h, Bool.and_false]
 rfl
theorem diskOk_lnk {d : Dsk} {k : Nat} (hk : k < d.dir.length) (h : lnkGood d k = false) : diskOk d = false := by
 unfold diskOk
 rw [range_no hk h, Bool.and_false]
 rfl
theorem diskOk_mov {d : Dsk} {k : Nat} (hk : k < d.movs.length) (h : movGood d k = false) : diskOk d = false := by
 unfold diskOk
 rw [range_no hk h, Bool.and_false]
theorem diskOk_yes {d : Dsk} (h0 : sizeOk d = true) (h1 : ∀ j, j < d.nods.length → nodGood d j = true) (h2 : ∀ j, j < d.dir.length → lnkGood d j = true) (h3 : ∀ j, j < d.movs.length → movGood d j = true) : diskOk d = true := by
 unfold diskOk
 rw [h0, range_yes h1, range_yes h2, range_yes h3]
 rfl
structure Right (d : Dsk) : Prop where
 r0 : 0 ≤ d.room
 r1 : d.room ≤ 1048576
 x0 : 1 ≤ d.next
 x1 : d.next ≤ 1000000
 n : d.nods.length ≤ 10
 m : d.movs.length ≤ 20
 l : d.dir.length ≤ 10
 b : (bytesOf d.nods : Int) ≤ d.room
theorem sizeOk_iff (d : Dsk) : sizeOk d = true ↔ Right d := by
 unfold sizeOk
 simp only [Bool.and_eq_true, decide_eq_true_eq]
 constructor
 ·rintro ⟨⟨⟨⟨⟨⟨a, b⟩, c, e⟩, f⟩, g⟩, h⟩, i⟩
  exact ⟨a, b, c, e, f, g, h, i⟩
 ·rintro ⟨a, b, c, e, f, g, h, i⟩
  exact ⟨⟨⟨⟨⟨⟨a, b⟩, c, e⟩, f⟩, g⟩, h⟩, i⟩
theorem sizeOk_no {d : Dsk} (h : ¬ Right d) : sizeOk d = false := by
 cases e : sizeOk d with
 | false => rfl
 | true => exact absurd ((sizeOk_iff d).1 e) h
end Go.Proofs.YtgjilgecklhglaaGreat
namespace Go.Proofs.YtgjilgecklhglaaGreat
open Go.RowKit Go.PlainAid
theorem ptrAt_some (l : List (Int × Nat)) (id : Int) : (ptrAt l id).isSome = true ↔ ∃ p ∈ l, p.1 = id := by
 unfold ptrAt
 rw [Option.isSome_map, List.find?_isSome]
 simp only [decide_eq_true_eq]
theorem ptrDel_mem (l : List (Int × Nat)) (id : Int) (p : Int × Nat) : p ∈ ptrDel l id ↔ p ∈ l ∧ p.1 ≠ id := by
 unfold ptrDel
 rw [List.mem_filter]
 simp only [decide_eq_true_eq]
theorem ptrDel_len {l : List (Int × Nat)} {id : Int} (h : ∃ p ∈ l, p.1 = id) : (ptrDel l id).length + 1 ≤ l.length := by
 induction l with
 | nil =>
  obtain ⟨p, hp, _⟩ := h
  cases hp
 | cons q r ih =>
  unfold ptrDel
  rw [List.filter_cons]
  by_cases e : q.1 = id
  ·rw [if_neg (by simp [e])]
   have := List.length_filter_le (fun p : Int × Nat => decide (p.1 ≠ id)) r
   simp only [List.length_cons]
   omega
  ·rw [if_pos (by simp [e])]
   obtain ⟨p, hp, hi⟩ := h
   rcases List.mem_cons.1 hp with rfl | hp
   ·exact absurd hi e
   ·have := ih ⟨p, hp, hi⟩
    unfold ptrDel at this
    simp only [List.length_cons]
    omega
theorem delAll_mem (l : List (Int × Nat)) (dl : List Lnk) (p : Int × Nat) : p ∈ delAll l dl ↔ p ∈ l ∧ ∀ x ∈ dl, x.id ≠ p.1 := by
 unfold delAll
 induction dl generalizing l with
 | nil => simp
 | cons x r ih =>
  rw [List.foldl_cons, ih, ptrDel_mem]
  constructor
  ·rintro ⟨⟨h1, h2⟩, h3⟩
   exact ⟨h1, fun y hy => by
    rcases List.mem_cons.1 hy with rfl | hy
    ·exact fun e => h2 e.symm
    ·exact h3 y hy⟩
  ·rintro ⟨h1, h2⟩
   exact ⟨⟨h1, fun e => h2 x (by simp) e.symm⟩, fun y hy => h2 y (by simp [hy])⟩
theorem delMade_mem (l : List (Int × Nat)) (ml : List Mov) (p : Int × Nat) : p ∈ delMade l ml ↔ p ∈ l ∧ ∀ m ∈ ml, m.kind = 1 → m.id ≠ p.1 := by
 unfold delMade
 induction ml generalizing l with
 | nil => simp
 | cons x r ih =>
  rw [List.foldl_cons, ih]
  by_cases hk : x.kind = 1
  ·rw [if_pos hk, ptrDel_mem]
   constructor
   ·rintro ⟨⟨h1, h2⟩, h3⟩
    exact ⟨h1, fun y hy => by
     rcases List.mem_cons.1 hy with rfl | hy
     ·exact fun _ e => h2 e.symm
     ·exact h3 y hy⟩
   ·rintro ⟨h1, h2⟩
    exact ⟨⟨h1, fun e => h2 x (by simp) hk e.symm⟩, fun y hy => h2 y (by simp [hy])⟩
  ·rw [if_neg hk]
   constructor
   ·rintro ⟨h1, h3⟩
    exact ⟨h1, fun y hy => by
     rcases List.mem_cons.1 hy with rfl | hy
     ·exact fun e => absurd e hk
     ·exact h3 y hy⟩
   ·rintro ⟨h1, h2⟩
    exact ⟨h1, fun y hy => h2 y (by simp [hy])⟩
theorem prs_keys {ns : List Nod} {gs : List Nat} (hl : gs.length = ns.length) (id : Int) : (∃ p ∈ prs ns gs, p.1 = id) ↔ ∃ x ∈ ns, x.id = id := by
 constructor
 ·rintro ⟨p, hp, rfl⟩
  exact prs_mem hp
 ·rintro ⟨x, hx, rfl⟩
  obtain ⟨j, hj, rfl⟩ := List.getElem_of_mem hx
  refine ⟨(ns[j].id, gs[j]'(by omega)), ?_, rfl⟩
  unfold prs
  rw [List.mem_iff_getElem]
  exact ⟨j, by rw [List.length_zip, List.length_map]; omega, by rw [List.getElem_zip, List.getElem_map]⟩
theorem nodAt_some (ns : List Nod) (id : Int) : (nodAt ns id).isSome = true ↔ ∃ x ∈ ns, x.id = id := by
 unfold nodAt
 rw [List.findIdx?_isSome, List.any_eq_true]
 simp only [decide_eq_true_eq]
theorem linked_iff (l : List Lnk) (id : Int) : linked l id = true ↔ ∃ x ∈ l, x.id = id := by
 unfold linked
 rw [List.any_eq_true]
 simp only [decide_eq_true_eq]
theorem made_iff (l : List Mov) (id : Int) : made l id = true ↔ ∃ m ∈ l, m.kind = 1 ∧ m.id = id := by
 unfold made
 rw [List.any_eq_true]
 simp only [Bool.and_eq_true, decide_eq_true_eq]
theorem left_dir {ns : List Nod} {gs : List Nat} (hl : gs.length = ns.length) (dl : List Lnk) (id : Int) : (ptrAt (delAll (prs ns gs) dl) id).isSome = ((nodAt ns id).isSome && !linked dl id) := by
 rw [Bool.eq_iff_iff, ptrAt_some, Bool.and_eq_true, nodAt_some, Bool.not_eq_true', ← prs_keys hl id]
 constructor
 ·rintro ⟨p, hp, rfl⟩
  rw [delAll_mem] at hp
  refine ⟨⟨p, hp.1, rfl⟩, ?_⟩
  cases e : linked dl p.1 with
  | false => rfl
  | true =>
   obtain ⟨x, hx, h⟩ := (linked_iff _ _).1 e
   exact absurd h (hp.2 x hx)
 ·rintro ⟨⟨p, hp, rfl⟩, h⟩
  refine ⟨p, (delAll_mem _ _ _).2 ⟨hp, fun x hx e => ?_⟩, rfl⟩
  rw [(linked_iff _ _).2 ⟨x, hx, e⟩] at h
  cases h
theorem left_mov {ns : List Nod} {gs : List Nat} (hl : gs.length = ns.length) (dl : List Lnk) (ml : List Mov) (id : Int) : (ptrAt (delMade (delAll (prs ns gs) dl) ml) id).isSome = ((nodAt ns id).isSome && !linked dl id && !made ml id) := by
 rw [← left_dir hl, Bool.eq_iff_iff, ptrAt_some, Bool.and_eq_true, ptrAt_some, Bool.not_eq_true']
 constructor
 ·rintro ⟨p, hp, rfl⟩
  rw [delMade_mem] at hp
  refine ⟨⟨p, hp.1, rfl⟩, ?_⟩
  cases e : made ml p.1 with
  | false => rfl
  | true =>
   obtain ⟨x, hx, hk, h⟩ := (made_iff _ _).1 e
   exact absurd h (hp.2 x hx hk)
 ·rintro ⟨⟨p, hp, rfl⟩, h⟩
  refine ⟨p, (delMade_mem _ _ _).2 ⟨hp, fun x hx hk e => ?_⟩, rfl⟩
  rw [(made_iff _ _).2 ⟨x, hx, hk, e⟩] at h
  cases h
theorem left_none {ns : List Nod} {gs : List Nat} (hl : gs.length = ns.length) (dl : List Lnk) (ml : List Mov) : (delMade (delAll (prs ns gs) dl) ml).length = 0 ↔ ∀ x ∈ ns, linked dl x.id = true ∨ made ml x.id = true := by
 constructor
 ·intro h x hx
  have hn := List.eq_nil_of_length_eq_zero h
  have h1 := left_mov hl dl ml x.id
  rw [hn, show (ptrAt [] x.id).isSome = false from rfl, (nodAt_some ns x.id).2 ⟨x, hx, rfl⟩] at h1
  cases e1 : linked dl x.id <;> cases e2 : made ml x.id <;> simp_all
 ·intro h
  rcases e : delMade (delAll (prs ns gs) dl) ml with _ | ⟨p, r⟩
  ·rfl
  ·have hp : p ∈ delMade (delAll (prs ns gs) dl) ml := by rw [e]; simp
   rw [delMade_mem, delAll_mem] at hp
   obtain ⟨x, hx, hi⟩ := prs_mem hp.1.1
   rcases h x hx with k | k
   ·obtain ⟨y, hy, e⟩ := (linked_iff _ _).1 k
    exact absurd (e.trans hi) (hp.1.2 y hy)
   ·obtain ⟨y, hy, hk, e⟩ := (made_iff _ _).1 k
    exact absurd (e.trans hi) (hp.2 y hy hk)
theorem dir_few {l0 : List (Int × Nat)} {dl : List Lnk} {k : Nat} (hk : k ≤ dl.length) (h : ∀ j, j < k → dirGood l0 dl j = true) : (delAll l0 (dl.take k)).length + k ≤ l0.length := by
 induction k with
 | zero =>
  rw [List.take_zero]
  exact Nat.le_refl _
 | succ k ih =>
  have h1 := ih (by omega) fun j hj => h j (by omega)
  have h2 := h k (by omega)
  unfold dirGood at h2
  rw [Bool.and_eq_true] at h2
  have h3 := ptrDel_len ((ptrAt_some _ _).1 h2.2)
  rw [take_getD dl k (by omega), delAll_snoc]
  omega
theorem all_of {n : Nat} {p : Nat → Bool} (h : (List.range n).all p = true) : ∀ j, j < n → p j = true := fun j hj => List.all_eq_true.1 h j (List.mem_range.2 hj)
structure Whole (d : Dsk) : Prop where
 size : sizeOk d = true
 nod : ∀ j, j < d.nods.length → nodGood d j = true
 lnk : ∀ j, j < d.dir.length → lnkGood d j = true
 mov : ∀ j, j < d.movs.length → movGood d j = true
theorem whole_iff (d : Dsk) : diskOk d = true ↔ Whole d := by
 unfold diskOk
 simp only [Bool.and_eq_true]
 constructor
 ·rintro ⟨⟨⟨a, b⟩, c⟩, e⟩
  exact ⟨a, all_of b, all_of c, all_of e⟩
 ·rintro ⟨a, b, c, e⟩
  exact ⟨⟨⟨a, range_yes b⟩, range_yes c⟩, range_yes e⟩
theorem take_of_whole {d : Dsk} (h : Whole d) : takeOk d.room d.next d.nods = true := by
 have hR := (sizeOk_iff d).1 h.size
 unfold takeOk
 rw [decide_eq_true hR.n, decide_eq_true hR.b, all_yes]
 ·rfl
 ·intro k hk
  have hg := h.nod k hk
  unfold nodGood at hg
  simp only [Bool.and_eq_true, decide_eq_true_eq, Bool.not_eq_true', Bool.and_eq_false_iff, decide_eq_false_iff_not] at hg
  obtain ⟨⟨⟨⟨a, b⟩, c, e⟩, f⟩, _⟩ := hg
  unfold goodAt
  simp only [Bool.and_eq_true, Bool.not_eq_true', decide_eq_false_iff_not]
  refine ⟨⟨⟨?_, by omega⟩, by omega⟩, by omega⟩
  cases k with
  | zero => show ¬ _ ≤ (0 : Int); omega
  | succ k =>
   show ¬ _ ≤ (d.nods.getD k default).id
   rcases f with f | f
   ·omega
   ·simpa using f
theorem dir_of_whole {d : Dsk} {gs : List Nat} (hl : gs.length = d.nods.length) (h : Whole d) : dirOk (prs d.nods gs) d.dir = true := by
 unfold dirOk
 refine all_yes fun k hk => ?_
 have hg := h.lnk k hk
 unfold lnkGood at hg
 simp only [Bool.and_eq_true, Bool.not_eq_true', Bool.and_eq_false_iff, decide_eq_false_iff_not] at hg
 obtain ⟨⟨⟨a, b⟩, c⟩, e⟩ := hg
 unfold dirGood
 rw [left_dir hl, a, c, e]
 have hah : ahead (lastName d.dir k) (d.dir.getD k default).name = true := by
  cases k with
  | zero =>
   cases e : ahead (lastName d.dir 0) (d.dir.getD 0 default).name with
   | true => rfl
   | false =>
    have := ahead_empty e
    unfold nameOk at a
    simp only [Bool.and_eq_true, decide_eq_true_eq] at a
    omega
  | succ k =>
   rcases b with b | b
   ·omega
   ·show ahead (d.dir.getD k default).name (d.dir.getD (k + 1) default).name = true
    simpa using b
 rw [ahead_asymm hah, decide_eq_false (fun e => ahead_ne hah e.symm)]
 rfl
theorem mov_of_whole {d : Dsk} {gs : List Nat} (hl : gs.length = d.nods.length) (h : Whole d) : mvOk d.dir (delAll (prs d.nods gs) d.dir) d.movs = true := by
 have hR := (sizeOk_iff d).1 h.size
 refine mvOk_yes hR.m fun k hk => ?_
 have hg := h.mov k hk
 unfold movGood at hg
 unfold mvGood
 rw [Bool.and_eq_true] at hg ⊢
 refine ⟨?_, hg.2⟩
 rw [← hg.1]
 congr 2
 have := left_mov hl d.dir (d.movs.take k) (d.movs.getD k default).id
 rw [← Option.not_isSome, this, ← Option.not_isSome]
 cases (nodAt d.nods (d.movs.getD k default).id).isSome <;> cases linked d.dir (d.movs.getD k default).id <;> cases made (d.movs.take k) (d.movs.getD k default).id <;> rfl
theorem left_of_whole {d : Dsk} {gs : List Nat} (hl : gs.length = d.nods.length) (h : Whole d) : (delMade (delAll (prs d.nods gs) d.dir) d.movs).length = 0 := by
 rw [left_none hl]
 intro x hx
 obtain ⟨k, hk, rfl⟩ := List.getElem_of_mem hx
 have hg := h.nod k hk
 unfold nodGood at hg
 rw [Bool.and_eq_true, Bool.or_eq_true] at hg
 rw [getD_at d.nods k hk]
 exact hg.2
theorem whole_of {d : Dsk} {gs : List Nat} (hl : gs.length = d.nods.length) (r0 : 0 ≤ d.room) (r1 : d.room ≤ 1048576) (x0 : 1 ≤ d.next) (x1 : d.next ≤ 1000000) (h1 : takeOk d.room d.next d.nods = true) (h2 : dirOk (prs d.nods gs) d.dir = true)
  (h3 : mvOk d.dir (delAll (prs d.nods gs) d.dir) d.movs = true) (h4 : (delMade (delAll (prs d.nods gs) d.dir) d.movs).length = 0) : Whole d := by
 unfold takeOk at h1
 simp only [Bool.and_eq_true, decide_eq_true_eq] at h1
 obtain ⟨⟨n10, hall⟩, hby⟩ := h1
 have hn := all_of hall
 have hd := all_of h2
 unfold mvOk at h3
 simp only [Bool.and_eq_true, decide_eq_true_eq] at h3
 obtain ⟨m20, hm⟩ := h3
 have hm := all_of hm
 have hfew := dir_few (Nat.le_refl _) hd
 rw [prs_length hl] at hfew
 have hR : Right d := ⟨r0, r1, x0, x1, n10, m20, by omega, hby⟩
 refine ⟨(sizeOk_iff d).2 hR, fun k hk => ?_, fun k hk => ?_, fun k hk => ?_⟩
 ·have hg := hn k hk
  have hlast := lastId_nonneg (ns := d.nods) (next := d.next) (k := k) fun j hj => hn j (by omega)
  unfold goodAt at hg
  simp only [Bool.and_eq_true, Bool.not_eq_true', decide_eq_false_iff_not] at hg
  obtain ⟨⟨⟨a, b⟩, c⟩, e⟩ := hg
  have hlm := (left_none hl d.dir d.movs).1 h4 _ (getD_mem d.nods k hk)
  unfold nodGood
  simp only [Bool.and_eq_true, decide_eq_true_eq, Bool.not_eq_true', Bool.and_eq_false_iff, decide_eq_false_iff_not, Bool.or_eq_true]
  refine ⟨⟨⟨⟨by omega, by omega⟩, by omega, by omega⟩, ?_⟩, hlm⟩
  cases k with
  | zero => exact .inl (by omega)
  | succ k =>
   refine .inr ?_
   have a' : ¬ (d.nods.getD (k + 1) default).id ≤ (d.nods.getD k default).id := a
   simpa using a'
 ·have hg := hd k hk
  have hah := dirGood_gt hg
  unfold dirGood at hg
  rw [Bool.and_eq_true, Bool.and_eq_true, left_dir hl, Bool.and_eq_true] at hg
  unfold lnkGood
  rw [hg.1.1, hg.2.1, hg.2.2]
  cases k with
  | zero => rfl
  | succ k =>
   have : ahead (d.dir.getD k default).name (d.dir.getD (k + 1) default).name = true := hah
   simp only [Nat.add_sub_cancel]
   rw [this]
   simp
 ·have hg := hm k hk
  unfold mvGood at hg
  rw [Bool.and_eq_true] at hg
  unfold movGood
  rw [Bool.and_eq_true]
  refine ⟨?_, hg.2⟩
  rw [← hg.1]
  congr 2
  have := left_mov hl d.dir (d.movs.take k) (d.movs.getD k default).id
  rw [← Option.not_isSome, ← Option.not_isSome, this]
  cases (nodAt d.nods (d.movs.getD k default).id).isSome <;> cases linked d.dir (d.movs.getD k default).id <;> cases made (d.movs.take k) (d.movs.getD k default).id <;> rfl
theorem diskOk_not {d : Dsk} (h : ¬ Whole d) : diskOk d = false := by
 cases e : diskOk d with
 | false => rfl
 | true => exact absurd ((whole_iff d).1 e) h
theorem NamesOk.of_dir {l0 : List (Int × Nat)} {dl : List Lnk} (h : dirOk l0 dl = true) : NamesOk dl := fun x hx => by
 obtain ⟨k, hk, rfl⟩ := List.getElem_of_mem hx
 have hg := all_of h k hk
 unfold dirGood at hg
 simp only [Bool.and_eq_true] at hg
 rw [getD_at dl k hk]
 exact hg.1.1
theorem dir_len {l0 : List (Int × Nat)} {dl : List Lnk} (h : dirOk l0 dl = true) : dl.length ≤ l0.length := by
 have := dir_few (Nat.le_refl _) (all_of h)
 omega
end Go.Proofs.YtgjilgecklhglaaGreat
namespace Go.Proofs.YtgjilgecklhglaaGreat
open Go.RowKit Go.PlainAid
set_option linter.unusedVariables false
def FitM (l : List Lnk) : List Mov → Prop
 | [] => True
 | m :: r => (apply l m).isSome = true ∧ FitM ((apply l m).getD l) r
theorem names_cat (l : List Lnk) (a b : List Mov) : names l (a ++ b) = names (names l a) b := by
 induction a generalizing l with
 | nil => rfl
 | cons m r ih => exact ih _
theorem FitM.cat {l : List Lnk} {a b : List Mov} : FitM l (a ++ b) ↔ FitM l a ∧ FitM (names l a) b := by
 induction a generalizing l with
 | nil => simp [FitM, names]
 | cons m r ih =>
  show (_ ∧ FitM _ (r ++ b)) ↔ (_ ∧ FitM _ r) ∧ FitM (names _ r) b
  rw [ih, and_assoc]
theorem FitM.all {l : List Lnk} : ∀ {ms : List Mov}, (∀ j (h : j < ms.length), (apply (names l (ms.take j)) ms[j]).isSome = true) → FitM l ms
 | [], _ => trivial
 | m :: r, h => ⟨h 0 (by simp), FitM.all fun j hj => by
   have := h (j + 1) (by simp; omega)
   exact this⟩
theorem FitM.at {l : List Lnk} : ∀ {ms : List Mov}, FitM l ms → ∀ j (h : j < ms.length), (apply (names l (ms.take j)) ms[j]).isSome = true
 | [], _, j, h => by simp at h
 | m :: r, h, 0, _ => h.1
 | m :: r, h, j + 1, hj => FitM.at (l := (apply l m).getD l) h.2 j (by simp at hj; omega)
theorem pair_all {α : Type} {R : α → α → Prop} (ht : ∀ {a b c}, R a b → R b c → R a c) {l : List α} (h : ∀ j (hj : j + 1 < l.length), R l[j] l[j + 1]) : l.Pairwise R := by
 rw [List.pairwise_iff_getElem]
 intro i j hi hj hij
 induction j with
 | zero => omega
 | succ j ih =>
  by_cases e : i = j
  ·subst e; exact h i hj
  ·exact ht (ih (by omega) (by omega)) (h j hj)
theorem getE {α : Type} [Inhabited α] (l : List α) (j : Nat) (h : j < l.length) : l.getD j default = l[j] := by
 rw [List.getD_eq_getElem?_getD, List.getElem?_eq_getElem h]; rfl
theorem linked_no {l : List Lnk} {id : Int} : linked l id = false ↔ ∀ x ∈ l, x.id ≠ id := by
 rw [Bool.eq_false_iff, Ne, linked_iff]
 exact ⟨fun h x hx e => h ⟨x, hx, e⟩, fun h ⟨x, hx, e⟩ => h x hx e⟩
theorem made_no {l : List Mov} {id : Int} : made l id = false ↔ ∀ m ∈ l, m.kind = 1 → m.id ≠ id := by
 rw [Bool.eq_false_iff, Ne, made_iff]
 exact ⟨fun h x hx hk e => h ⟨x, hx, hk, e⟩, fun h ⟨x, hx, hk, e⟩ => h x hx hk e⟩
structure RD (d : Dsk) : Prop where
 sz : Right d
 nid : ∀ x ∈ d.nods, (1 ≤ x.id ∧ x.id ≤ d.next - 1) ∧ 0 ≤ x.sure ∧ x.sure ≤ (x.data.size : Int)
 rise : Rising d.nods
 own : ∀ x ∈ d.nods, linked d.dir x.id = true ∨ made d.movs x.id = true
 dok : ∀ x ∈ d.dir, nameOk x.name = true
 sorted : Sorted d.dir
 dnod : ∀ x ∈ d.dir, ∃ y ∈ d.nods, y.id = x.id
 duniq : d.dir.Pairwise fun x y => x.id ≠ y.id
 mfit : FitM d.dir d.movs
 mnod : ∀ m ∈ d.movs, m.kind = 1 → (∃ y ∈ d.nods, y.id = m.id) ∧ linked d.dir m.id = false
 muniq : d.movs.Pairwise fun a b => a.kind = 1 → b.kind = 1 → a.id ≠ b.id
theorem mem_take_get {α : Type} {l : List α} {i j : Nat} (hij : i < j) (hj : j < l.length) : l[i]'(by omega) ∈ l.take j := by
 rw [List.mem_take_iff_getElem]
 exact ⟨i, by omega, rfl⟩
theorem mem_take_idx {α : Type} {l : List α} {x : α} {j : Nat} (h : x ∈ l.take j) : ∃ i, ∃ hi : i < l.length, i < j ∧ x = l[i] := by
 rw [List.mem_take_iff_getElem] at h
 obtain ⟨i, hi, rfl⟩ := h
 exact ⟨i, by omega, by omega, rfl⟩
theorem RD.of_whole {d : Dsk} (h : Whole d) : RD d := by
 have hn : ∀ j (hj : j < d.nods.length), ((1 ≤ d.nods[j].id ∧ d.nods[j].id ≤ d.next - 1) ∧ 0 ≤ d.nods[j].sure ∧ d.nods[j].sure ≤ (d.nods[j].data.size : Int)) ∧ (0 < j → (d.nods.getD (j - 1) default).id < d.nods[j].id) ∧ (linked d.dir d.nods[j].id = true ∨ made d.movs d.nods[j].id = true) := fun j hj => by
  have := h.nod j hj
  unfold nodGood at this
  rw [getE d.nods j hj] at this
  simp only [Bool.and_eq_true, decide_eq_true_eq, Bool.not_eq_true', Bool.and_eq_false_iff, decide_eq_false_iff_not, Bool.or_eq_true] at this
  obtain ⟨⟨⟨h1, h2⟩, h3⟩, h4⟩ := this
  exact ⟨⟨h1, h2⟩, fun h0 => by rcases h3 with h3 | h3 <;> omega, h4⟩
 have hl : ∀ j (hj : j < d.dir.length), nameOk d.dir[j].name = true ∧ (0 < j → ahead (d.dir.getD (j - 1) default).name d.dir[j].name = true) ∧ (∃ y ∈ d.nods, y.id = d.dir[j].id) ∧ linked (d.dir.take j) d.dir[j].id = false := fun j hj => by
  have := h.lnk j hj
  unfold lnkGood at this
  rw [getE d.dir j hj] at this
  simp only [Bool.and_eq_true, Bool.not_eq_true', Bool.and_eq_false_iff, decide_eq_false_iff_not, nodAt_some, Bool.not_eq_false'] at this
  obtain ⟨⟨⟨h1, h2⟩, h3⟩, h4⟩ := this
  exact ⟨h1, fun h0 => by rcases h2 with h2 | h2; (exact absurd h0 h2); exact h2, h3, h4⟩
 have hm : ∀ j (hj : j < d.movs.length), (d.movs[j].kind = 1 → (∃ y ∈ d.nods, y.id = d.movs[j].id) ∧ linked d.dir d.movs[j].id = false ∧ made (d.movs.take j) d.movs[j].id = false) ∧ (apply (names d.dir (d.movs.take j)) d.movs[j]).isSome = true := fun j hj => by
  have := h.mov j hj
  unfold movGood at this
  rw [getE d.movs j hj] at this
  simp only [Bool.and_eq_true, Bool.not_eq_true', Bool.and_eq_false_iff, decide_eq_false_iff_not, Bool.or_eq_false_iff, Option.isNone_eq_false_iff, nodAt_some] at this
  refine ⟨fun hk => ?_, this.2⟩
  rcases this.1 with h1 | h1
  ·exact absurd hk h1
  ·exact ⟨h1.1.1, h1.1.2, h1.2⟩
 have mem : ∀ {α : Type} {l : List α} {x : α}, x ∈ l → ∃ j, ∃ hj : j < l.length, x = l[j] := fun hx => by
  obtain ⟨j, hj, e⟩ := List.mem_iff_getElem.1 hx
  exact ⟨j, hj, e.symm⟩
 refine ⟨(sizeOk_iff d).1 h.size, ?_, ?_, ?_, ?_, ?_, ?_, ?_, ?_, ?_, ?_⟩
 ·intro x hx; obtain ⟨j, hj, rfl⟩ := mem hx; exact (hn j hj).1
 ·refine pair_all (fun h1 h2 => by omega) fun j hj => ?_
  have := (hn (j + 1) hj).2.1 (by omega)
  rw [Nat.add_sub_cancel, getE _ _ (by omega)] at this
  exact this
 ·intro x hx; obtain ⟨j, hj, rfl⟩ := mem hx; exact (hn j hj).2.2
 ·intro x hx; obtain ⟨j, hj, rfl⟩ := mem hx; exact (hl j hj).1
 ·refine pair_all (R := fun x y : Lnk => ahead x.name y.name = true) (fun h1 h2 => ahead_trans h1 h2) fun j hj => ?_
  have := (hl (j + 1) hj).2.1 (by omega)
  rw [Nat.add_sub_cancel, getE _ _ (by omega)] at this
  exact this
 ·intro x hx; obtain ⟨j, hj, rfl⟩ := mem hx; exact (hl j hj).2.2.1
 ·rw [List.pairwise_iff_getElem]
  intro i j hi hj hij
  exact linked_no.1 (hl j hj).2.2.2 _ (mem_take_get hij hj)
 ·exact FitM.all fun j hj => (hm j hj).2
 ·intro m hx hk; obtain ⟨j, hj, rfl⟩ := mem hx; exact ⟨((hm j hj).1 hk).1, ((hm j hj).1 hk).2.1⟩
 ·rw [List.pairwise_iff_getElem]
  intro i j hi hj hij hk1 hk2
  exact made_no.1 ((hm j hj).1 hk2).2.2 _ (mem_take_get hij hj) hk1
theorem RD.whole {d : Dsk} (h : RD d) : Whole d := by
 refine ⟨(sizeOk_iff d).2 h.sz, fun j hj => ?_, fun j hj => ?_, fun j hj => ?_⟩
 ·unfold nodGood
  rw [getE d.nods j hj]
  have hx := List.getElem_mem hj
  have h1 := h.nid _ hx
  simp only [Bool.and_eq_true, decide_eq_true_eq, Bool.not_eq_true', Bool.and_eq_false_iff, decide_eq_false_iff_not, Bool.or_eq_true]
  refine ⟨⟨⟨h1.1, h1.2⟩, ?_⟩, h.own _ hx⟩
  by_cases h0 : 0 < j
  ·right
   have := (List.pairwise_iff_getElem.1 h.rise) (j - 1) j (by omega) hj (by omega)
   rw [getE _ _ (by omega)]
   omega
  ·exact .inl h0
 ·unfold lnkGood
  rw [getE d.dir j hj]
  have hx := List.getElem_mem hj
  simp only [Bool.and_eq_true, Bool.not_eq_true', Bool.and_eq_false_iff, decide_eq_false_iff_not, nodAt_some, Bool.not_eq_false']
  refine ⟨⟨⟨h.dok _ hx, ?_⟩, h.dnod _ hx⟩, linked_no.2 fun x hx' => ?_⟩
  ·by_cases h0 : 0 < j
   ·right
    have := (List.pairwise_iff_getElem.1 h.sorted) (j - 1) j (by omega) hj (by omega)
    rw [getE _ _ (by omega)]
    exact this
   ·exact .inl h0
  ·obtain ⟨i, hi, hij, rfl⟩ := mem_take_idx hx'
   exact (List.pairwise_iff_getElem.1 h.duniq) i j hi hj hij
 ·unfold movGood
  rw [getE d.movs j hj]
  have hx := List.getElem_mem hj
  simp only [Bool.and_eq_true, Bool.not_eq_true', Bool.and_eq_false_iff, decide_eq_false_iff_not, Bool.or_eq_false_iff, Option.isNone_eq_false_iff, nodAt_some]
  refine ⟨?_, h.mfit.at j hj⟩
  by_cases hk : d.movs[j].kind = 1
  ·right
   refine ⟨h.mnod _ hx hk, made_no.2 fun m hm hkm => ?_⟩
   obtain ⟨i, hi, hij, rfl⟩ := mem_take_idx hm
   exact (List.pairwise_iff_getElem.1 h.muniq) i j hi hj hij hkm hk
  ·exact .inl hk
theorem RD.iff {d : Dsk} : diskOk d = true ↔ RD d := ⟨fun h => RD.of_whole ((whole_iff d).1 h), fun h => (whole_iff d).2 h.whole⟩
end Go.Proofs.YtgjilgecklhglaaGreat
namespace Go.Proofs.YtgjilgecklhglaaGreat
open Go.RowKit Go.PlainAid Go.Maps
structure Gath (l : List Lnk) (P : List (Int × Nat)) (left : Lit → Bool) (D : DataW Unit) : Prop where
 has : ∀ kl, has D kl = true ↔ ∃ x ∈ l, left (nameK x.name) = false ∧ kl = .int .i64 x.id
 at_ : ∀ kl z, Maps.has D kl = true → D.atKey kl z = (ptrD P).atKey kl z
theorem gath_start (l : List Lnk) (P : List (Int × Nat)) : Gath l P (has (linkD l)) (.map []) := by
 refine ⟨fun kl => ⟨fun h => (by cases h), ?_⟩, fun kl z h => (by cases h)⟩
 rintro ⟨x, hx, h1, rfl⟩
 have h2 : Maps.has (linkD l) (nameK x.name) = true := by
  unfold linkD
  rw [has_eq, List.any_eq_true]
  exact ⟨(nameK x.name, .lit (.int .i64 x.id)), List.mem_map.2 ⟨x, hx, rfl⟩, by rw [nameK_same]; simp⟩
 rw [h2] at h1
 cases h1
theorem link_of {l : List Lnk} {s : ByteArray} {c : Int} (h : ∀ z, (linkD l).atKey (nameK s) z = .lit (.int .i64 c)) : ∃ x ∈ l, x.name = s ∧ x.id = c := by
 rcases e : linkAt l s with _ | i
 ·have := h .nil
  rw [linkD_none l s e] at this
  cases this
 ·have := h .nil
  rw [linkD_at l s i e] at this
  injection this with this
  injection this with _ this
  unfold linkAt at e
  rw [List.findIdx?_eq_some_iff_getElem] at e
  obtain ⟨hi, hp, _⟩ := e
  refine ⟨l[i], List.getElem_mem hi, by simpa using hp, ?_⟩
  rw [← this, List.getD_eq_getElem?_getD, List.getElem?_eq_getElem hi]
  rfl
theorem gath_step {l : List Lnk} {P : List (Int × Nat)} {left : Lit → Bool} {D : DataW Unit} {s : ByteArray} {c : Int} {g : Nat} (h : Gath l P left D) (hm : IsMap D) (hu : ∀ x ∈ l, ∀ y ∈ l, x.name = y.name → x = y) (hl : ∀ z, (linkD l).atKey (nameK s) z = .lit (.int .i64 c)) (hp : ptrAt P c = some g) :
  Gath l P (fun z => left z && !z.sameKey (nameK s)) (D.put (.int .i64 c) (.lit (.int .i64 (g : Int)))) := by
 obtain ⟨y, hy, rfl, rfl⟩ := link_of hl
 refine ⟨fun kl => ?_, fun kl z hk => ?_⟩
 ·by_cases e : kl = .int .i64 y.id
  ·subst e
   rw [has_put_same hm (show WideAt.IsKeyLit (.int .i64 y.id) from trivial)]
   refine ⟨fun _ => ⟨y, hy, ?_, rfl⟩, fun _ => rfl⟩
   rw [nameK_same]
   simp
  ·rw [has_put_other e, h.has]
   constructor
   ·rintro ⟨x, hx, h1, h2⟩
    exact ⟨x, hx, by rw [h1]; rfl, h2⟩
   ·rintro ⟨x, hx, h1, h2⟩
    refine ⟨x, hx, ?_, h2⟩
    rw [nameK_same] at h1
    by_cases hn : x.name = y.name
    ·have := hu x hx y hy hn
     subst this
     exact absurd h2 e
    ·rw [decide_eq_false hn] at h1
     simpa using h1
 ·by_cases e : kl = .int .i64 y.id
  ·subst e
   rw [atKey_put_same hm (show WideAt.IsKeyLit (.int .i64 y.id) from trivial), ptrD_at, hp]
  ·rw [has_put_other e] at hk
   rw [atKey_put_other e, h.at_ kl z hk]
def keptP (l : List Lnk) (P : List (Int × Nat)) : List (Int × Nat) := P.filter fun p => linked l p.1
theorem ptrAt_kept (l : List Lnk) (P : List (Int × Nat)) (id : Int) : ptrAt (keptP l P) id = if linked l id = true then ptrAt P id else none := by
 unfold ptrAt keptP
 induction P with
 | nil => simp
 | cons p r ih =>
  by_cases h : linked l p.1 = true
  ·rw [List.filter_cons, if_pos h, List.find?_cons, List.find?_cons]
   by_cases e : p.1 = id
   ·rw [decide_eq_true e, ← e, if_pos h]
   ·rw [decide_eq_false e]
    exact ih
  ·rw [List.filter_cons, if_neg h, ih]
   by_cases e : p.1 = id
   ·subst e
    rw [if_neg h, if_neg h]
   ·rw [List.find?_cons, decide_eq_false e]
theorem canon_ptrD {P : List (Int × Nat)} (h : P.Pairwise fun a b => a.1 < b.1) : Canon (ptrD P) := by
 refine ⟨_, rfl, ?_, ?_⟩
 ·rw [List.pairwise_map]
  exact h.imp fun {a b} hab => by show decide (a.1 < b.1) = true; exact decide_eq_true hab
 ·intro p hp
  obtain ⟨q, _, rfl⟩ := List.mem_map.1 hp
  trivial
theorem has_ptrD {P : List (Int × Nat)} {kl : Lit} (h : Maps.has (ptrD P) kl = true) : ∃ id, kl = .int .i64 id ∧ (ptrAt P id).isSome = true := by
 have h0 := h
 unfold ptrD at h
 rw [has_eq, List.any_eq_true] at h
 obtain ⟨q, hq, hs⟩ := h
 obtain ⟨p, _, rfl⟩ := List.mem_map.1 hq
 have e := WideAt.sameKey_eq hs
 refine ⟨p.1, e.symm, ?_⟩
 rw [← e, ptrD_has] at h0
 exact h0
theorem gath_end {l : List Lnk} {P : List (Int × Nat)} {left : Lit → Bool} {D : DataW Unit} (h : Gath l P left D) (hl : ∀ k, left k = false) (hc : Canon D) (hP : P.Pairwise fun a b => a.1 < b.1) (hin : ∀ x ∈ l, (ptrAt P x.id).isSome = true) : D = ptrD (keptP l P) := by
 have key : ∀ kl, Maps.has D kl = Maps.has (ptrD (keptP l P)) kl := by
  intro kl
  rw [Bool.eq_iff_iff, h.has]
  constructor
  ·rintro ⟨x, hx, _, rfl⟩
   rw [ptrD_has, ptrAt_kept, if_pos ((linked_iff l x.id).2 ⟨x, hx, rfl⟩)]
   exact hin x hx
  ·intro hk
   obtain ⟨id, rfl, hs⟩ := has_ptrD hk
   rw [ptrAt_kept] at hs
   by_cases hlk : linked l id = true
   ·obtain ⟨x, hx, rfl⟩ := (linked_iff l id).1 hlk
    exact ⟨x, hx, hl _, rfl⟩
   ·rw [if_neg hlk] at hs
    cases hs
 refine ext hc (canon_ptrD (hP.filter _)) key fun kl z hk => ?_
 rw [h.at_ kl z hk]
 rw [key] at hk
 obtain ⟨id, rfl, hs⟩ := has_ptrD hk
 rw [ptrD_at, ptrD_at]
 rw [ptrAt_kept] at hs ⊢
 by_cases hlk : linked l id = true
 ·rw [if_pos hlk]
 ·rw [if_neg hlk] at hs
  cases hs
def keptN (l : List Lnk) (ns : List Nod) : List Nod := ns.filter fun x => linked l x.id
def keptG (l : List Lnk) : List Nod → List Nat → List Nat
 | x :: r, g :: s => if linked l x.id = true then g :: keptG l r s else keptG l r s
 | _, _ => []
theorem prs_kept (l : List Lnk) : ∀ (ns : List Nod) (gs : List Nat), gs.length = ns.length → keptP l (prs ns gs) = prs (keptN l ns) (keptG l ns gs) ∧ (keptG l ns gs).length = (keptN l ns).length
 | [], [], _ => ⟨rfl, rfl⟩
 | [], _ :: _, h => by cases h
 | _ :: _, [], h => by cases h
 | x :: r, g :: s, h => by
  have ih := prs_kept l r s (by simpa using h)
  have eg : keptG l (x :: r) (g :: s) = if linked l x.id = true then g :: keptG l r s else keptG l r s := by rw [keptG]
  rw [eg]
  unfold keptP prs keptN at *
  simp only [List.map_cons, List.zip_cons_cons]
  by_cases hx : linked l x.id = true
  ·rw [List.filter_cons, if_pos hx, List.filter_cons, if_pos hx, if_pos hx, List.map_cons, List.zip_cons_cons, ih.1]
   exact ⟨rfl, by rw [List.length_cons, List.length_cons, ih.2]⟩
  ·rw [List.filter_cons, if_neg hx, List.filter_cons, if_neg hx, if_neg hx]
   exact ih
end Go.Proofs.YtgjilgecklhglaaGreat
namespace Go.Proofs.YtgjilgecklhglaaGreat
open Go.ChangeShapes Go.WideShapes Go.ChangeAt Go.RowKit Go.PlainAid
set_option linter.unusedVariables false
def named (d : Dsk) (name : ByteArray) : Int := if nameOk name = false then 1 else if find d name = none then 2 else 0
theorem idxV_neg (o : Option Nat) : (idxV o < 0) ↔ o = none := by
 cases o with
 | none => simp [idxV]
 | some i => simp [idxV]
set_option maxRecDepth 20000 in
set_option maxHeartbeats 1000000 in
theorem namedV (d : Dsk) (v : Value) (name : ByteArray) (w : World) (B : Nat) (hv : DiskV w B v d) (hf : Fits d) (hs : name.size ≤ 9223372036854775807) (hn : d.dir.length + d.movs.length ≤ 1048575) (hnn : d.nods.length ≤ 1048576) (hB : B ≤ w.heap.size) :
  Calls Tryz.prog 33 #[v, .string name] w fun e w' => e = .returned (.int .i64 (named d name)) ∧ Below w.heap.size w w' := by
 have HV : Hid (DiskV w B v d) := hv
 have HF : Hid (Fits d) := hf
 have HB : Hid (B ≤ w.heap.size) := hB
 have HN : Hid (d.dir.length + d.movs.length ≤ 1048575) := hn
 have HNN : Hid (d.nods.length ≤ 1048576) := hnn
 have c2 := fun wx => nameV name wx hs
 obtain ⟨v1, v2, v3, rfl, h1, h2, h3⟩ := hv
 clear h1 h2 h3 hf hB hn hnn hs
 have cF := fun wx hx hb => findV d (.agg #[.int .i64 d.room, .int .i64 d.next, v1, v2, v3]) name wx B hx HF.out HN.out HNN.out hb
 go_enter Tryz.func33, Tryz.ntmps33
 go_wp2_with fail
 have hb0 : Below w.heap.size w (w.alloc (.cells #[.int .i64 d.room, .int .i64 d.next, v1, v2, v3] 28)) := (Below.refl _ _).alloc (Nat.le_refl _) _
 have K0 := Blk.new w #[.int .i64 d.room, .int .i64 d.next, v1, v2, v3] 28
 generalize w.alloc (.cells #[.int .i64 d.room, .int .i64 d.next, v1, v2, v3] 28) = W at *
 have B0 : Hid (Below w.heap.size w W) := hb0
 have y0 := K0.cell 0 _ rfl
 have y1 := K0.cell 1 _ rfl
 have y2 := K0.cell 2 _ rfl
 have y3 := K0.cell 3 _ rfl
 have y4 := K0.cell 4 _ rfl
 clear hb0 K0
 refine (c2 W).mono ?_
 rintro e w1 ⟨rfl, rfl⟩
 clear c2
 cases hno : nameOk name with
 | false =>
  go_wp2_with fail
  go_ret
  exact ⟨by unfold named; rw [if_pos hno]; rfl, B0.out⟩
 | true =>
  go_wp2_with fail
  refine (cF W (HV.out.on (B0.out.mono HB.out)) (Nat.le_trans HB.out B0.out.size)).mono ?_
  rintro e w2 ⟨rfl, hb⟩
  have B2 : Hid (Below w.heap.size w w2) := B0.out.trans (hb.mono B0.out.size)
  have hno' : Hid (¬ nameOk name = false) := by unfold Hid; rw [hno]; simp
  clear hb cF
  by_cases hfd : find d name = none
  ·rw [hfd]
   have e1 : idxV (none : Option Nat) = -1 := rfl
   rw [e1]
   go_wp2_with fail
   go_ret
   exact ⟨by unfold named; rw [if_neg hno'.out, if_pos hfd]; rfl, B2.out⟩
  ·have j1 : decide (idxV (find d name) < 0) = false := decide_eq_false fun h => hfd ((idxV_neg _).1 h)
   generalize idxV (find d name) = ix at *
   go_wp2_with fail
   go_ret
   exact ⟨by unfold named; rw [if_neg hno'.out, if_neg hfd]; rfl, B2.out⟩
end Go.Proofs.YtgjilgecklhglaaGreat
namespace Go.Proofs
open Go.Shelf
def Tryz.keysN_ren : Go.Shelf.Ren := ⟨fun | 7 => 85 | 10 => 105 | n => n, fun | 23 => 84 | 26 => 9 | 3 => 3 | 28 => 127 | 0 => 0 | 27 => 126 | 33 => 64 | 4 => 4 | n => n, fun | n => n⟩
theorem Tryz.keysN : Go.Proofs.SlLaysZ.n7 Tryz.prog Tryz.keysN_ren := {
 mixed := by kernel_rfl
 f7 := ⟨Tryz.f85.name, by decide, Tryz.func85.trans (congrArg some (by kernel_rfl))⟩
 f10 := ⟨Tryz.f105.name, by decide, Tryz.func105.trans (congrArg some (by kernel_rfl))⟩
 t0 := Tryz.underlying0
 a0 := Tryz.isAgg0
 z0 := Tryz.sizeOf0
 v0 := Tryz.zeroValue0
 t4 := Tryz.underlying4
 a4 := Tryz.isAgg4
 z4 := Tryz.sizeOf4
 v4 := Tryz.zeroValue4
 t23 := Tryz.underlying84
 a23 := Tryz.isAgg84
 z23 := Tryz.sizeOf84
 v23 := Tryz.zeroValue84
 t26 := Tryz.underlying9
 a26 := Tryz.isAgg9
 z26 := Tryz.sizeOf9
 v26 := Tryz.zeroValue9
 t27 := Tryz.underlying126
 a27 := Tryz.isAgg126
 z27 := Tryz.sizeOf126
 v27 := Tryz.zeroValue126
 t28 := Tryz.underlying127
 a28 := Tryz.isAgg127
 z28 := Tryz.sizeOf127
 v28 := Tryz.zeroValue127
 t33 := Tryz.underlying64
 a33 := Tryz.isAgg64
 z33 := Tryz.sizeOf64
 v33 := Tryz.zeroValue64 }
def Tryz.sortedN_ren : Go.Shelf.Ren := ⟨fun | 6 => 84 | 8 => 103 | 9 => 104 | 11 => 109 | 13 => 108 | 12 => 110 | 23 => 120 | 24 => 121 | 14 => 122 | 15 => 123 | 16 => 124 | 17 => 125 | 18 => 126 | 19 => 127 | 20 => 128 | 21 => 129 | 22 => 130 | 25 => 137 | 26 => 132 | 27 => 133 | 28 => 138 | 29 => 139 | 30 => 140 | 31 => 142 | n => n, fun | 26 => 9 | 28 => 127 | 24 => 52 | 0 => 0 | 3 => 3 | 37 => 129 | 48 => 151 | 50 => 153 | 4 => 4 | 40 => 144 | 39 => 143 | 45 => 117 | 5 => 5 | 9 => 9 | 51 => 159 | 55 => 163 | 57 => 167 | 58 => 168 | 33 => 64 | n => n, fun | n => n⟩
theorem Tryz.sortedN : Go.Proofs.SlLaysZ.n6 Tryz.prog Tryz.sortedN_ren := {
 mixed := by kernel_rfl
 f6 := ⟨Tryz.f84.name, by decide, Tryz.func84.trans (congrArg some (by kernel_rfl))⟩
 f8 := ⟨Tryz.f103.name, by decide, Tryz.func103.trans (congrArg some (by kernel_rfl))⟩
 f11 := ⟨Tryz.f109.name, by decide, Tryz.func109.trans (congrArg some (by kernel_rfl))⟩
 t0 := Tryz.underlying0
 a0 := Tryz.isAgg0
 z0 := Tryz.sizeOf0
 v0 := Tryz.zeroValue0
 t24 := Tryz.underlying52
 a24 := Tryz.isAgg52
 z24 := Tryz.sizeOf52
 v24 := Tryz.zeroValue52
 t26 := Tryz.underlying9
 a26 := Tryz.isAgg9
 z26 := Tryz.sizeOf9
 v26 := Tryz.zeroValue9
 t28 := Tryz.underlying127
 a28 := Tryz.isAgg127
 z28 := Tryz.sizeOf127
 v28 := Tryz.zeroValue127
 i26 := by kernel_rfl }
def Tryz.sortN_ren : Go.Shelf.Ren := ⟨fun | 6 => 104 | 8 => 108 | 9 => 110 | 19 => 120 | 20 => 121 | 21 => 122 | 22 => 123 | 23 => 124 | 24 => 125 | 25 => 126 | 26 => 127 | 27 => 128 | 28 => 129 | 29 => 130 | 36 => 137 | 31 => 132 | 32 => 133 | 37 => 138 | 38 => 139 | 39 => 140 | 41 => 142 | n => n, fun | 27 => 52 | 29 => 9 | 3 => 3 | 32 => 129 | 26 => 52 | 0 => 0 | 44 => 151 | 46 => 153 | 4 => 4 | 36 => 144 | 35 => 143 | 41 => 117 | 5 => 5 | 9 => 9 | 53 => 159 | 57 => 163 | 63 => 167 | 64 => 168 | n => n, fun | n => n⟩
theorem Tryz.sortN : Go.Proofs.SlLaysM.n6 Tryz.prog Tryz.sortN_ren := {
 mixed := by kernel_rfl
 f6 := ⟨Tryz.f104.name, by decide, Tryz.func104.trans (congrArg some (by kernel_rfl))⟩
 f8 := Tryz.func108.trans (congrArg some (by kernel_rfl))
 f9 := ⟨Tryz.f110.name, by decide, Tryz.func110.trans (congrArg some (by kernel_rfl))⟩
 f19 := Tryz.func120.trans (congrArg some (by kernel_rfl))
 f20 := Tryz.func121.trans (congrArg some (by kernel_rfl))
 f21 := ⟨Tryz.f122.name, by decide, Tryz.func122.trans (congrArg some (by kernel_rfl))⟩
 f22 := ⟨Tryz.f123.name, by decide, Tryz.func123.trans (congrArg some (by kernel_rfl))⟩
 f23 := ⟨Tryz.f124.name, by decide, Tryz.func124.trans (congrArg some (by kernel_rfl))⟩
 f24 := ⟨Tryz.f125.name, by decide, Tryz.func125.trans (congrArg some (by kernel_rfl))⟩
 f25 := ⟨Tryz.f126.name, by decide, Tryz.func126.trans (congrArg some (by kernel_rfl))⟩
 f26 := ⟨Tryz.f127.name, by decide, Tryz.func127.trans (congrArg some (by kernel_rfl))⟩
 f27 := ⟨Tryz.f128.name, by decide, Tryz.func128.trans (congrArg some (by kernel_rfl))⟩
 f28 := ⟨Tryz.f129.name, by decide, Tryz.func129.trans (congrArg some (by kernel_rfl))⟩
 f29 := ⟨Tryz.f130.name, by decide, Tryz.func130.trans (congrArg some (by kernel_rfl))⟩
 f31 := Tryz.func132.trans (congrArg some (by kernel_rfl))
 f32 := Tryz.func133.trans (congrArg some (by kernel_rfl))
 f36 := ⟨Tryz.f137.name, by decide, Tryz.func137.trans (congrArg some (by kernel_rfl))⟩
 f37 := ⟨Tryz.f138.name, by decide, Tryz.func138.trans (congrArg some (by kernel_rfl))⟩
 f38 := ⟨Tryz.f139.name, by decide, Tryz.func139.trans (congrArg some (by kernel_rfl))⟩
 f39 := ⟨Tryz.f140.name, by decide, Tryz.func140.trans (congrArg some (by kernel_rfl))⟩
 f41 := ⟨Tryz.f142.name, by decide, Tryz.func142.trans (congrArg some (by kernel_rfl))⟩
 t0 := Tryz.underlying0
 a0 := Tryz.isAgg0
 z0 := Tryz.sizeOf0
 v0 := Tryz.zeroValue0
 t3 := Tryz.underlying3
 a3 := Tryz.isAgg3
 z3 := Tryz.sizeOf3
 v3 := Tryz.zeroValue3
 t4 := Tryz.underlying4
 a4 := Tryz.isAgg4
 z4 := Tryz.sizeOf4
 v4 := Tryz.zeroValue4
 t5 := Tryz.underlying5
 a5 := Tryz.isAgg5
 z5 := Tryz.sizeOf5
 v5 := Tryz.zeroValue5
 t9 := Tryz.underlying9
 a9 := Tryz.isAgg9
 z9 := Tryz.sizeOf9
 v9 := Tryz.zeroValue9
 t26 := Tryz.underlying52
 a26 := Tryz.isAgg52
 z26 := Tryz.sizeOf52
 v26 := Tryz.zeroValue52
 t27 := Tryz.underlying52
 a27 := Tryz.isAgg52
 z27 := Tryz.sizeOf52
 v27 := Tryz.zeroValue52
 t29 := Tryz.underlying9
 a29 := Tryz.isAgg9
 z29 := Tryz.sizeOf9
 v29 := Tryz.zeroValue9
 t32 := Tryz.underlying129
 a32 := Tryz.isAgg129
 z32 := Tryz.sizeOf129
 v32 := Tryz.zeroValue129
 t35 := Tryz.underlying143
 a35 := Tryz.isAgg143
 z35 := Tryz.sizeOf143
 v35 := Tryz.zeroValue143
 t36 := Tryz.underlying144
 a36 := Tryz.isAgg144
 z36 := Tryz.sizeOf144
 v36 := Tryz.zeroValue144
 t41 := Tryz.underlying117
 a41 := Tryz.isAgg117
 z41 := Tryz.sizeOf117
 v41 := Tryz.zeroValue117
 t44 := Tryz.underlying151
 a44 := Tryz.isAgg151
 z44 := Tryz.sizeOf151
 v44 := Tryz.zeroValue151
 t46 := Tryz.underlying153
 a46 := Tryz.isAgg153
 z46 := Tryz.sizeOf153
 v46 := Tryz.zeroValue153
 t53 := Tryz.underlying159
 a53 := Tryz.isAgg159
 z53 := Tryz.sizeOf159
 v53 := Tryz.zeroValue159
 t57 := Tryz.underlying163
 a57 := Tryz.isAgg163
 z57 := Tryz.sizeOf163
 v57 := Tryz.zeroValue163
 t63 := Tryz.underlying167
 a63 := Tryz.isAgg167
 z63 := Tryz.sizeOf167
 v63 := Tryz.zeroValue167
 t64 := Tryz.underlying168
 a64 := Tryz.isAgg168
 z64 := Tryz.sizeOf168
 v64 := Tryz.zeroValue168 }
def Tryz.keysI_ren : Go.Shelf.Ren := ⟨fun | 7 => 80 | 10 => 102 | n => n, fun | 23 => 82 | 26 => 3 | 3 => 81 | 28 => 121 | 0 => 0 | 27 => 120 | 33 => 134 | 4 => 4 | n => n, fun | n => n⟩
theorem Tryz.keysI : Go.Proofs.SlLaysZI.n7 Tryz.prog Tryz.keysI_ren := {
 mixed := by kernel_rfl
 f7 := ⟨Tryz.f80.name, by decide, Tryz.func80.trans (congrArg some (by kernel_rfl))⟩
 f10 := ⟨Tryz.f102.name, by decide, Tryz.func102.trans (congrArg some (by kernel_rfl))⟩
 t0 := Tryz.underlying0
 a0 := Tryz.isAgg0
 z0 := Tryz.sizeOf0
 v0 := Tryz.zeroValue0
 t4 := Tryz.underlying4
 a4 := Tryz.isAgg4
 z4 := Tryz.sizeOf4
 v4 := Tryz.zeroValue4
 t23 := Tryz.underlying82
 a23 := Tryz.isAgg82
 z23 := Tryz.sizeOf82
 v23 := Tryz.zeroValue82
 t26 := Tryz.underlying3
 a26 := Tryz.isAgg3
 z26 := Tryz.sizeOf3
 v26 := Tryz.zeroValue3
 t27 := Tryz.underlying120
 a27 := Tryz.isAgg120
 z27 := Tryz.sizeOf120
 v27 := Tryz.zeroValue120
 t28 := Tryz.underlying121
 a28 := Tryz.isAgg121
 z28 := Tryz.sizeOf121
 v28 := Tryz.zeroValue121
 t33 := Tryz.underlying134
 a33 := Tryz.isAgg134
 z33 := Tryz.sizeOf134
 v33 := Tryz.zeroValue134 }
def Tryz.sortedI_ren : Go.Shelf.Ren := ⟨fun | 6 => 79 | 8 => 100 | 9 => 101 | 11 => 106 | 13 => 108 | 12 => 107 | 23 => 120 | 24 => 121 | 14 => 111 | 15 => 112 | 16 => 113 | 17 => 114 | 18 => 115 | 19 => 116 | 20 => 117 | 21 => 118 | 22 => 119 | 25 => 131 | 26 => 132 | 27 => 133 | 28 => 134 | 29 => 135 | 30 => 136 | 31 => 141 | n => n, fun | 26 => 3 | 28 => 121 | 24 => 38 | 0 => 0 | 3 => 3 | 37 => 129 | 48 => 151 | 50 => 153 | 4 => 4 | 40 => 144 | 39 => 143 | 45 => 117 | 5 => 5 | 9 => 9 | 51 => 159 | 55 => 163 | 57 => 167 | 58 => 168 | 33 => 134 | n => n, fun | n => n⟩
theorem Tryz.sortedI : Go.Proofs.SlLaysZI.n6 Tryz.prog Tryz.sortedI_ren := {
 mixed := by kernel_rfl
 f6 := ⟨Tryz.f79.name, by decide, Tryz.func79.trans (congrArg some (by kernel_rfl))⟩
 f8 := ⟨Tryz.f100.name, by decide, Tryz.func100.trans (congrArg some (by kernel_rfl))⟩
 f11 := ⟨Tryz.f106.name, by decide, Tryz.func106.trans (congrArg some (by kernel_rfl))⟩
 t0 := Tryz.underlying0
 a0 := Tryz.isAgg0
 z0 := Tryz.sizeOf0
 v0 := Tryz.zeroValue0
 t24 := Tryz.underlying38
 a24 := Tryz.isAgg38
 z24 := Tryz.sizeOf38
 v24 := Tryz.zeroValue38
 t26 := Tryz.underlying3
 a26 := Tryz.isAgg3
 z26 := Tryz.sizeOf3
 v26 := Tryz.zeroValue3
 t28 := Tryz.underlying121
 a28 := Tryz.isAgg121
 z28 := Tryz.sizeOf121
 v28 := Tryz.zeroValue121
 i26 := by kernel_rfl }
def Tryz.sortI_ren : Go.Shelf.Ren := ⟨fun | 5 => 101 | 8 => 108 | 7 => 107 | 19 => 120 | 20 => 121 | 10 => 111 | 11 => 112 | 12 => 113 | 13 => 114 | 14 => 115 | 15 => 116 | 16 => 117 | 17 => 118 | 18 => 119 | 30 => 131 | 31 => 132 | 32 => 133 | 33 => 134 | 34 => 135 | 35 => 136 | 40 => 141 | n => n, fun | 23 => 38 | 25 => 3 | 3 => 3 | 32 => 129 | 22 => 38 | 0 => 0 | 44 => 151 | 46 => 153 | 4 => 4 | 36 => 144 | 35 => 143 | 41 => 117 | 5 => 5 | 9 => 9 | 53 => 159 | 57 => 163 | 63 => 167 | 64 => 168 | n => n, fun | n => n⟩
theorem Tryz.sortI : Go.Proofs.SlLaysM.n5 Tryz.prog Tryz.sortI_ren := {
 mixed := by kernel_rfl
 f5 := ⟨Tryz.f101.name, by decide, Tryz.func101.trans (congrArg some (by kernel_rfl))⟩
 f7 := ⟨Tryz.f107.name, by decide, Tryz.func107.trans (congrArg some (by kernel_rfl))⟩
 f8 := Tryz.func108.trans (congrArg some (by kernel_rfl))
 f10 := ⟨Tryz.f111.name, by decide, Tryz.func111.trans (congrArg some (by kernel_rfl))⟩
 f11 := ⟨Tryz.f112.name, by decide, Tryz.func112.trans (congrArg some (by kernel_rfl))⟩
 f12 := ⟨Tryz.f113.name, by decide, Tryz.func113.trans (congrArg some (by kernel_rfl))⟩
 f13 := ⟨Tryz.f114.name, by decide, Tryz.func114.trans (congrArg some (by kernel_rfl))⟩
 f14 := ⟨Tryz.f115.name, by decide, Tryz.func115.trans (congrArg some (by kernel_rfl))⟩
 f15 := ⟨Tryz.f116.name, by decide, Tryz.func116.trans (congrArg some (by kernel_rfl))⟩
 f16 := ⟨Tryz.f117.name, by decide, Tryz.func117.trans (congrArg some (by kernel_rfl))⟩
 f17 := ⟨Tryz.f118.name, by decide, Tryz.func118.trans (congrArg some (by kernel_rfl))⟩
 f18 := ⟨Tryz.f119.name, by decide, Tryz.func119.trans (congrArg some (by kernel_rfl))⟩
 f19 := Tryz.func120.trans (congrArg some (by kernel_rfl))
 f20 := Tryz.func121.trans (congrArg some (by kernel_rfl))
 f30 := ⟨Tryz.f131.name, by decide, Tryz.func131.trans (congrArg some (by kernel_rfl))⟩
 f31 := Tryz.func132.trans (congrArg some (by kernel_rfl))
 f32 := Tryz.func133.trans (congrArg some (by kernel_rfl))
 f33 := ⟨Tryz.f134.name, by decide, Tryz.func134.trans (congrArg some (by kernel_rfl))⟩
 f34 := ⟨Tryz.f135.name, by decide, Tryz.func135.trans (congrArg some (by kernel_rfl))⟩
 f35 := ⟨Tryz.f136.name, by decide, Tryz.func136.trans (congrArg some (by kernel_rfl))⟩
 f40 := ⟨Tryz.f141.name, by decide, Tryz.func141.trans (congrArg some (by kernel_rfl))⟩
 t0 := Tryz.underlying0
 a0 := Tryz.isAgg0
 z0 := Tryz.sizeOf0
 v0 := Tryz.zeroValue0
 t3 := Tryz.underlying3
 a3 := Tryz.isAgg3
 z3 := Tryz.sizeOf3
 v3 := Tryz.zeroValue3
 t4 := Tryz.underlying4
 a4 := Tryz.isAgg4
 z4 := Tryz.sizeOf4
 v4 := Tryz.zeroValue4
 t5 := Tryz.underlying5
 a5 := Tryz.isAgg5
 z5 := Tryz.sizeOf5
 v5 := Tryz.zeroValue5
 t9 := Tryz.underlying9
 a9 := Tryz.isAgg9
 z9 := Tryz.sizeOf9
 v9 := Tryz.zeroValue9
 t22 := Tryz.underlying38
 a22 := Tryz.isAgg38
 z22 := Tryz.sizeOf38
 v22 := Tryz.zeroValue38
 t23 := Tryz.underlying38
 a23 := Tryz.isAgg38
 z23 := Tryz.sizeOf38
 v23 := Tryz.zeroValue38
 t25 := Tryz.underlying3
 a25 := Tryz.isAgg3
 z25 := Tryz.sizeOf3
 v25 := Tryz.zeroValue3
 t32 := Tryz.underlying129
 a32 := Tryz.isAgg129
 z32 := Tryz.sizeOf129
 v32 := Tryz.zeroValue129
 t35 := Tryz.underlying143
 a35 := Tryz.isAgg143
 z35 := Tryz.sizeOf143
 v35 := Tryz.zeroValue143
 t36 := Tryz.underlying144
 a36 := Tryz.isAgg144
 z36 := Tryz.sizeOf144
 v36 := Tryz.zeroValue144
 t41 := Tryz.underlying117
 a41 := Tryz.isAgg117
 z41 := Tryz.sizeOf117
 v41 := Tryz.zeroValue117
 t44 := Tryz.underlying151
 a44 := Tryz.isAgg151
 z44 := Tryz.sizeOf151
 v44 := Tryz.zeroValue151
 t46 := Tryz.underlying153
 a46 := Tryz.isAgg153
 z46 := Tryz.sizeOf153
 v46 := Tryz.zeroValue153
 t53 := Tryz.underlying159
 a53 := Tryz.isAgg159
 z53 := Tryz.sizeOf159
 v53 := Tryz.zeroValue159
 t57 := Tryz.underlying163
 a57 := Tryz.isAgg163
 z57 := Tryz.sizeOf163
 v57 := Tryz.zeroValue163
 t63 := Tryz.underlying167
 a63 := Tryz.isAgg167
 z63 := Tryz.sizeOf167
 v63 := Tryz.zeroValue167
 t64 := Tryz.underlying168
 a64 := Tryz.isAgg168
 z64 := Tryz.sizeOf168
 v64 := Tryz.zeroValue168 }
end Go.Proofs
namespace Go.Proofs.YtgjilgecklhglaaGreat
open Go.RowKit Go.Maps Go.Sort Go.Shelf
theorem sortsN (m : Nat) : AnyZ.SortsIn Tryz.prog Tryz.sortedN_ren Fence.wide m :=
 ⟨fun blk off cap ss W hH hblk hsz => callsIn_wide.2 (AnyM.slices_Sort_string Tryz.sortN blk off cap ss W hH hblk hsz),
  fun p cap W => callsIn_wide.2 (AnyM.slices_Sort_string_none Tryz.sortN p cap W)⟩
theorem keysV (w : World) (b : Nat) : Calls Tryz.prog 85 #[.map (some b)] w fun e w' => e = .returned (.func (.func 105) #[] #[.pointer (some ⟨w.heap.size, 0, none⟩)]) ∧ w' = w.alloc (.cells #[.map (some b)] 84) :=
 (callsIn_wide (n := 5)).1 (AnyZ.keys_in Tryz.keysN Fence.wide 5 trivial rfl (some b) w)
theorem strKeys_link (l : List Lnk) : strKeys (linkD l) = l.map fun x => x.name.data.toList := by
 unfold linkD strKeys
 simp only [List.map_map]
 rfl
theorem sorted_keys {l : List Lnk} (h : Sorted l) {ss : List (List UInt8)} (hp : ss.Perm (strKeys (linkD l))) : ss.mergeSort (fun x y => decide (x ≤ y)) = l.map fun x => x.name.data.toList := by
 rw [show ss.mergeSort (fun x y => decide (x ≤ y)) = ss.mergeSort leB from rfl, mergeSort_of_perm hp, strKeys_link]
 refine List.mergeSort_of_pairwise ?_
 rw [List.pairwise_map]
 refine h.imp fun {x y} hxy => ?_
 unfold Go.Proofs.YtgjilgecklhglaaGreat.ahead at hxy
 rw [bytesLess_eq, Lib.toList_data, Lib.toList_data, decide_eq_true_eq] at hxy
 exact decide_eq_true (List.le_of_lt hxy)
def strR (l : List ByteArray) : List (List Value) := l.map fun s => [.string s]
theorem strR_length (l : List ByteArray) : (strR l).length = l.length := by simp [strR]
theorem strR_flat (l : List ByteArray) : (strR l).flatten = l.map Value.string := by
 unfold strR
 induction l with
 | nil => rfl
 | cons a r ih =>
  rw [List.map_cons, List.flatten_cons, ih]
  rfl
theorem str_look {w : World} {B : Nat} {v : Value} {l : List ByteArray} (h : Lies w B 1 v (strR l)) : ∃ A cap, v = .slice A l.length cap ∧ ∀ j, j < l.length → ∃ g off, A = some ⟨g, off, none⟩ ∧ g < B ∧ w.cell? ⟨g, off + j, none⟩ = some (.string (l.getD j ⟨#[]⟩)) := by
 obtain ⟨A, cap, e, h⟩ := h.look
 refine ⟨A, cap, by rw [e, strR_length], fun j hj => ?_⟩
 obtain ⟨g, off, e, hg, hc⟩ := h j (by rw [strR_length]; exact hj)
 refine ⟨g, off, e, hg, ?_⟩
 have := hc 0 (.string (l.getD j ⟨#[]⟩)) (by omega) (by simp [strR, List.getD_eq_getElem?_getD, List.getElem?_eq_getElem hj])
 simpa using this
theorem sortedV (w : World) (b : Nat) (l : List Lnk) (h : NT w b l) (hs : Sorted l) (hl : l.length ≤ 1000) :
  Calls Tryz.prog 84 #[.func (.func 105) #[] #[.pointer (some ⟨w.heap.size, 0, none⟩)]] (w.alloc (.cells #[.map (some b)] 84)) fun e w' => ∃ v, e = .returned v ∧ Owns w' w.heap.size 9 1 v (strR (l.map (·.name))) ∧ Below w.heap.size w w' := by
 obtain ⟨n, hown⟩ := h
 have hbl := hown.lt
 have hseq : SeqGives Fence.wide 2 Tryz.prog 105 #[.pointer (some ⟨w.heap.size, 0, none⟩)] encStr (fun ss => ss.Perm (strKeys (linkD l))) (Maps.size (linkD l)) (w.alloc (.cells #[.map (some b)] 84)) :=
  AnyZ.keys_gives (ρ := Tryz.keysN_ren) { Tryz.keysN with } Fence.wide _ trivial rfl (by omega) w.heap.size b n (linkD l) _ (by simp) (by simp) (by
   obtain ⟨es, clock, hb, Ft, hs, hD⟩ := hown
   exact ⟨es, clock, (Below.heap_alloc _ _ b hbl).trans hb, Ft, hs, hD⟩)
 have cS := AnyZ.sorted_in Tryz.sortedN Fence.wide 5 trivial trivial trivial trivial rfl (by omega) (sortsN _) (enters_of Tryz.func104 (by kernel_rfl) rfl) 105 #[.pointer (some ⟨w.heap.size, 0, none⟩)] trivial (enters_of Tryz.func105 (by kernel_rfl) rfl) _ _ (by rw [linkD_size]; unfold maxLen; omega) (by rw [linkD_size]; omega) _ hseq
 refine ((callsIn_wide (n := 5)).1 cS).mono ?_
 rintro e w' ⟨v, ss, rfl, hp, hrow, _, hb⟩
 have hlen : ss.length = l.length := by rw [hp.length_eq, strKeys_link, List.length_map]
 rw [sorted_keys hs hp] at hrow
 refine ⟨v, rfl, ⟨fun r hr => ?_, ?_⟩, ((Below.refl _ w).alloc (Nat.le_refl _) _).trans (hb.mono (by simp))⟩
 ·obtain ⟨x, _, rfl⟩ := List.mem_map.1 hr
  rfl
 ·rw [strR_length, List.length_map, strR_flat, ← hlen]
  have e1 : (l.map (·.name)).map Value.string = (l.map fun x => x.name.data.toList).map encStr := by
   rw [List.map_map, List.map_map]
   refine List.map_congr_left fun x _ => ?_
   simp [encStr]
  rw [e1]
  exact ⟨hrow.1, hrow.2.imp id fun ⟨g, cap, cur, e, hg, r⟩ => ⟨g, cap, cur, e, Nat.le_trans (by simp) hg, r⟩⟩
end Go.Proofs.YtgjilgecklhglaaGreat
