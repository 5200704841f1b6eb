/- EgI6 EgI7 -/
import Derived.Test.YtpmgndgkmffcnaaGreatDoorQd41
import Derived.Test.YtpmgndgkmffcnaaGreatDoorQd36
import Derived.Test.YtpmgndgkmffcnaaGreatDoorQd24
import Derived.WalkKit
import Derived.ProofKit
import Derived.OpenShut
import Derived.Below
import Derived.WalkSmall
import Derived.BigQuiet
import Derived.Deep.QuietTactic
import Derived.Deep.RegionWith
import Derived.Handy
namespace Go.Proofs.YtpmgndgkmffcnaaGreatDoor
open Go.ChangeShapes Go.WideShapes Go.ChangeAt Go.RowKit Go.PlainAid
set_option linter.unusedVariables false
set_option maxHeartbeats 4000000 in
theorem implGathered (ls : List (List Ser)) (f : Int) (v : Value) (w : World) (B : Nat) (hv : SrcsV w B v ls) (hf : LOk ls) (hk : ∀ l ∈ ls, COk l) (hB : B ≤ w.heap.size) (hst : SumTab w) (a0 a1 a2 : Addr) (he : Errs w a0 a1 a2) :
  Calls Tryz.prog 64 #[.int .i64 f, v] w fun e w' => (∃ u L, e = .returned u ∧ L.map Prod.fst = plainR ls f ∧ SerO w' w.heap.size u L) ∧ Below w.heap.size w w' := by
 have HV : Hid (SrcsV w B v ls) := hv
 have ST : Hid (SumTab w) := hst
 have ER : Hid (Errs w a0 a1 a2) := he
 have HCk : Hid (∀ k ∈ keysL ls, k.size ≤ 1000) := fun k hk' => by
  obtain ⟨l, hl, x, hx, e⟩ := mem_keysL.1 hk'
  rw [← e]
  exact ((hk l hl).2 x hx).2.2.2
 have HF : Hid (LOk ls) := hf
 have HB : Hid (B ≤ w.heap.size) := hB
 obtain ⟨A, cap, rfl, _⟩ := hv.look
 have cK := implKeysOf ls _ w B HV.out hf.1 hB
 clear hv hf hB hst he hk
 go_enter Tryz.func64, Tryz.ntmps64
 go_wp2_with fail
 refine cK.mono ?_
 rintro e w1 ⟨⟨u6, rfl, hO6⟩, hb6⟩
 have O6 : Hid (Owns w1 w.heap.size 9 1 u6 (stR (keysL ls))) := hO6
 have B1 : Hid (Below w.heap.size w w1) := hb6
 have S1 : Hid (SerO w1 w.heap.size (.slice none 0 0) []) := ⟨Owns.nil _ _ _ _, fun p hp => (by cases hp), List.Pairwise.nil⟩
 obtain ⟨A6, c6, rfl, _⟩ := st_look hO6.lies
 have HKl : Hid ((keysL ls).length ≤ 200) := HF.out.1.keys
 clear hO6 hb6 cK
 generalize hks : keysL ls = ks at *
 have HKS : Hid (keysL ls = ks) := hks
 clear hks
 generalize hN : ks.length = n at *
 have HN : Hid (ks.length = n) := hN
 clear hN
 have q1 : (n : Int) ≤ 200 := by have := HKl.out; omega
 go_wp2_with fail
 go_loopw [5, 12] (fun v5 v12 wr => ∃ (i : Nat) (L : List (Ser × Value)), i ≤ n ∧ v12 = .int .i64 (i : Int) ∧ L.map Prod.fst = plainK ls f (ks.take i) ∧ SerO wr w.heap.size v5 L ∧ Owns wr w.heap.size 9 1 (.slice A6 n c6) (stR ks) ∧ Below w.heap.size w wr) (fun _ i _ => n - (intOf i).toNat)
 case atStart => exact ⟨0, [], by omega, rfl, rfl, S1.out, O6.out, B1.out⟩
 case round =>
  obtain ⟨i, L, hi, rfl, hL, hS, hO, hb⟩ := hrel
  have HL : Hid (L.map Prod.fst = plainK ls f (ks.take i)) := hL
  have HS : Hid (SerO wr w.heap.size u5 L) := hS
  have HO : Hid (Owns wr w.heap.size 9 1 (.slice A6 n c6) (stR ks)) := hO
  have HBr : Hid (Below w.heap.size w wr) := hb
  obtain ⟨A5, n5, c5, rfl⟩ := hS.1.shape
  have HLn : Hid (L.length ≤ 200) := by
   have h1 := congrArg List.length hL
   have h2 := plainK_len ls f (ks.take i)
   rw [List.length_map] at h1
   rw [List.length_take] at h2
   have := HKl.out
   unfold Hid
   omega
  clear hL hS hO hb
  by_cases hlt : i < n
  ·have q4 : (i : Int) < (n : Int) := by omega
   obtain ⟨g, off, rfl, hg, e1⟩ := st_cells HO.out.lies i (by rw [HN.out]; exact hlt)
   have HLi : Hid (∀ wx, Owns wx w.heap.size 9 1 (.slice (some ⟨g, off, none⟩) n c6) (stR ks) → wx.cell? ⟨g, off + i, none⟩ = some (.string (ks.getD i default))) := fun wx h => by
    obtain ⟨g1, off1, e3, _, h3⟩ := st_cells h.lies i (by rw [HN.out]; exact hlt)
    cases e3
    exact h3
   have c1 := implMerged ls f (ks.getD i default) _ wr B (HV.out.on (HBr.out.mono HB.out)) HF.out (Nat.le_trans HB.out HBr.out.size) (ST.out.on HBr.out) a0 a1 a2 (ER.out.on HBr.out)
   have HKz : Hid ((ks.getD i default).size ≤ 1000) := HCk.out _ (getD_mem ks i (by rw [HN.out]; exact hlt))
   have HNo : Hid (has ls f (ks.getD i default) = [] → plainK ls f (ks.take (i + 1)) = plainK ls f (ks.take i)) := fun h => plainK_no ks i (by rw [HN.out]; exact hlt) h
   have HYes : Hid (has ls f (ks.getD i default) ≠ [] → plainK ls f (ks.take (i + 1)) = plainK ls f (ks.take i) ++ [⟨ks.getD i default, has ls f (ks.getD i default)⟩]) := fun h => plainK_yes ks i (by rw [HN.out]; exact hlt) h
   have HHl : Hid ((has ls f (ks.getD i default)).length ≤ 2000) := HF.out.has_len f _
   clear hg
   generalize ks.getD i default = key at *
   generalize hh : has ls f key = hp at *
   clear hh
   go_wp2_with fail
   refine c1.mono ?_
   rintro e w2 ⟨⟨u, rfl, hO2⟩, hb2⟩
   have OP : Hid (Owns w2 wr.heap.size 56 2 u (ptR hp)) := hO2
   have HS2 : Hid (SerO w2 w.heap.size (.slice A5 n5 c5) L) := HS.out.on hb2
   have HO2 : Hid (Owns w2 w.heap.size 9 1 (.slice (some ⟨g, off, none⟩) n c6) (stR ks)) := HO.out.on hb2
   have B2 : Hid (Below w.heap.size w w2) := HBr.out.trans (hb2.mono HBr.out.size)
   have AP : Hid (∀ q ∈ L, Apart q.2 u) := fun q hq gg h1 h2 => by
    have := ((HS.out.2.1 q hq).lt gg h1).2
    have := (hO2.lt gg h2).1
    omega
   obtain ⟨Au, cu, rfl, _⟩ := pt_look hO2.lies
   have e2 := HLi.out w2 HO2.out
   have Z : Hid (w.heap.size ≤ wr.heap.size) := HBr.out.size
   clear hO2 hb2 c1 e1
   by_cases h0 : hp = []
   ·have HE : Hid (plainK ls f (ks.take (i + 1)) = plainK ls f (ks.take i)) := HNo.out h0
    subst h0
    go_wp2_with fail
    go_roundw
    case rel => exact ⟨i + 1, L, by omega, by go_num, by rw [HE.out]; exact HL.out, HS2.out, HO2.out, B2.out⟩
    case measure => simp [intOf]; omega
   ·have HE : Hid (plainK ls f (ks.take (i + 1)) = plainK ls f (ks.take i) ++ [⟨key, hp⟩]) := HYes.out h0
    have q6 : 0 < hp.length := len_pos h0
    have q7 : (hp.length : Int) ≤ 2000 := by have := HHl.out; omega
    have q8 : (0 : Int) < (hp.length : Int) := by omega
    have HPL : Hid (hp.length = hp.length) := rfl
    clear h0
    generalize hpl : hp.length = pl at *
    clear hpl
    have cC := clone key w2 (by have := HKz.out; omega)
    go_wp2_with fail
    refine cC.mono ?_
    rintro e w3 ⟨rfl, hbC⟩
    replace HS2 : Hid (SerO w3 w.heap.size (.slice A5 n5 c5) L) := HS2.out.on hbC
    replace HO2 : Hid (Owns w3 w.heap.size 9 1 (.slice (some ⟨g, off, none⟩) n c6) (stR ks)) := HO2.out.on hbC
    replace OP : Hid (Owns w3 wr.heap.size 56 2 (.slice Au pl cu) (ptR hp)) := OP.out.on hbC
    replace B2 : Hid (Below w.heap.size w w3) := B2.out.trans (hbC.mono B2.out.size)
    clear hbC cC e2
    have Z2 : w.heap.size ≤ w3.heap.size := B2.out.size
    have L2 : Hid ((srR L).length ≤ 2097152) := by have := HLn.out; unfold Hid; rw [srR_length]; omega
    go_wp2_with (at_builtin; refine wpList_append_row rfl (.tmp 23) (.tmp 28) 28 58 (.agg #[.string ⟨#[]⟩, .slice none 0 0]) 2 40 rfl Tryz.underlying28 Tryz.infoSr rfl (by omega) w.heap.size _ (srR L) rfl HS2.out.1 [.string key, .slice Au pl cu] rfl (sr_cells key rfl) rfl L2.out (by omega) Z2 ?_; intro v' w5 hO5 hb5 hk5 hw5; obtain ⟨A7, n7, c7, rfl⟩ := hO5.shape; refine Shut.out ?_)
    unfold Shut
    have hne5 : ∀ (v : Value) (b : Nat) (e : TypeId) (sz : Nat) (r : List (List Value)), Owns w3 b e sz v r → e ≠ 58 → Owns w5 b e sz v r := fun v b e sz r ho hne => ho.kept fun gg hg hv => hk5 gg hg (fun hu => ho.apartT HS2.out.1 hne gg hv hu)
    have S5 : Hid (SerO w5 w.heap.size (.slice A7 n7 c7) (L ++ [(⟨key, hp⟩, .slice Au pl cu)])) := SerO.snoc (w1 := w3) (v := .slice A5 n5 c5) hO5 (fun q hq => hne5 _ _ _ _ _ (HS2.out.2.1 q hq) (by decide)) HS2.out.2.2 (hne5 _ _ _ _ _ (OP.out.mono Z.out) (by decide)) AP.out
    have O5 : Hid (Owns w5 w.heap.size 9 1 (.slice (some ⟨g, off, none⟩) n c6) (stR ks)) := hne5 _ _ _ _ _ HO2.out (by decide)
    have B5 : Hid (Below w.heap.size w w5) := B2.out.trans hb5
    have HL5 : Hid ((L ++ [((⟨key, hp⟩ : Ser), Value.slice Au pl cu)]).map Prod.fst = plainK ls f (ks.take (i + 1))) := by unfold Hid; rw [HE.out, List.map_append, HL.out]; rfl
    clear hO5 hb5 hk5 hw5 hne5
    go_wp2_with fail
    go_roundw
    case rel => exact ⟨i + 1, _, by omega, by go_num, HL5.out, S5.out, O5.out, B5.out⟩
    case measure => simp [intOf]; omega
  ·obtain rfl : i = n := by omega
   have HE : Hid (plainK ls f (ks.take i) = plainR ls f) := by unfold Hid plainR; rw [HKS.out, ← HN.out, List.take_length]
   go_wp2_with fail
   go_ret
   exact ⟨⟨_, L, rfl, HL.out.trans HE.out, HS.out⟩, HBr.out⟩
end Go.Proofs.YtpmgndgkmffcnaaGreatDoor
namespace Go.Proofs.YtpmgndgkmffcnaaGreatDoor
open Go.ChangeShapes Go.WideShapes Go.ChangeAt Go.RowKit Go.PlainAid
set_option linter.unusedVariables false
theorem infoSrc : (Tryz.prog.info? 121).map (fun i => (i.zero, i.size, i.bytes)) = some (some .nilIface, 1, 16) := by kernel_rfl
def SrcO (w : World) (base : Nat) (us : List Value) (fs : List ByteArray) : Prop := us.length = fs.length ∧ ∀ j, j < fs.length → ∃ u, us.getD j default = .iface 105 (.agg #[.string (fs.getD j default), u]) ∧ (fs.getD j default).size ≤ 1048576 ∧ isF (fs.getD j default) ∧ Owns w base 116 5 u (spR (idxF (fileM (fs.getD j default))))
theorem SrcO.nil (w : World) (base : Nat) : SrcO w base [] [] := ⟨rfl, fun j hj => by simp at hj⟩
theorem SrcO.on {w w' : World} {base : Nat} {us : List Value} {fs : List ByteArray} (h : SrcO w base us fs) (hb : Below w.heap.size w w') : SrcO w' base us fs := ⟨h.1, fun j hj => by obtain ⟨u, h1, h2, h3, h4⟩ := h.2 j hj; exact ⟨u, h1, h2, h3, h4.on hb⟩⟩
theorem SrcO.kept {w w' : World} {base : Nat} {us : List Value} {fs : List ByteArray} (h : SrcO w base us fs) (hk : ∀ (v : Value) (b : Nat) (e : TypeId) (sz : Nat) (r : List (List Value)), Owns w b e sz v r → e ≠ 121 → Owns w' b e sz v r) : SrcO w' base us fs :=
 ⟨h.1, fun j hj => by obtain ⟨u, h1, h2, h3, h4⟩ := h.2 j hj; exact ⟨u, h1, h2, h3, hk _ _ _ _ _ h4 (by decide)⟩⟩
theorem SrcO.snoc {w : World} {base : Nat} {us : List Value} {fs : List ByteArray} (h : SrcO w base us fs) {u : Value} {s : ByteArray} (h1 : s.size ≤ 1048576) (h2 : isF s) (h3 : Owns w base 116 5 u (spR (idxF (fileM s)))) : SrcO w base (us ++ [.iface 105 (.agg #[.string s, u])]) (fs ++ [s]) := by
 refine ⟨by simp [h.1], fun j hj => ?_⟩
 rw [List.length_append, List.length_singleton] at hj
 by_cases e : j < fs.length
 ·have e1 : (fs ++ [s]).getD j default = fs.getD j default := by rw [List.getD_eq_getElem?_getD, List.getD_eq_getElem?_getD, List.getElem?_append_left e]
  have e2 : (us ++ [Value.iface 105 (.agg #[.string s, u])]).getD j default = us.getD j default := by rw [List.getD_eq_getElem?_getD, List.getD_eq_getElem?_getD, List.getElem?_append_left (by rw [h.1]; exact e)]
  rw [e1, e2]
  exact h.2 j e
 ·obtain rfl : j = fs.length := by omega
  have e1 : (fs ++ [s]).getD fs.length default = s := by rw [List.getD_eq_getElem?_getD, List.getElem?_append_right (Nat.le_refl _), Nat.sub_self]; rfl
  have e2 : (us ++ [Value.iface 105 (.agg #[.string s, u])]).getD fs.length default = .iface 105 (.agg #[.string s, u]) := by rw [List.getD_eq_getElem?_getD, List.getElem?_append_right (by rw [h.1]; exact Nat.le_refl _), h.1, Nat.sub_self]; rfl
  rw [e1, e2]
  exact ⟨u, rfl, h1, h2, h3⟩
theorem SrcO.srcs {w : World} {base : Nat} {us : List Value} {fs : List ByteArray} (h : SrcO w base us fs) : SrcL w w.heap.size us (laysF fs) := by
 refine ⟨by unfold laysF; rw [List.length_map]; exact h.1, fun j hj => ?_⟩
 unfold laysF at hj ⊢
 rw [List.length_map] at hj
 obtain ⟨u, h1, h2, h3, h4⟩ := h.2 j hj
 have e1 : (fs.map fileM).getD j [] = fileM (fs.getD j default) := by rw [← getD_at fs j hj, List.getD_eq_getElem?_getD, List.getElem?_map, List.getElem?_eq_getElem hj]; rfl
 rw [e1, h1]
 exact .inr ⟨_, u, rfl, h2, h3.good, h4.lies⟩
def SoAns (e : Eng) (w' : World) (b : Ending) : Prop := ∃ u ok, b = .returned (.tuple #[u, .bool ok]) ∧ ((ok = true ∧ PreOk e ∧ (∀ s ∈ e.files, isF s) ∧ SrcsV w' w'.heap.size u (lays e)) ∨ (ok = false ∧ ¬ EOk e))
theorem ixI_yes {s : ByteArray} {P : List Spot} (h : IxI s P) (h0 : P ≠ []) : isF s ∧ P = idxF (fileM s) := by
 rcases h with ⟨m, h1, h2⟩ | ⟨_, h2⟩
 ·exact ⟨⟨m, h1⟩, by rw [fileM_is h1]; exact h2⟩
 ·exact absurd h2 h0
theorem ixI_no {s : ByteArray} {P : List Spot} (h : IxI s P) (h0 : P = []) : ¬ isF s := by
 rintro ⟨m, hm⟩
 rcases h with ⟨m', h1, h2⟩ | ⟨h1, _⟩
 ·have := congrArg List.length h2
  rw [h0, List.length_map, List.length_range] at this
  have := h1.1
  simp at *
  omega
 ·exact h1 m hm
set_option maxHeartbeats 4000000 in
theorem implSources (e : Eng) (v : Value) (w : World) (B : Nat) (hv : EngV w B v e) (hs : EShort e) (hB : B ≤ w.heap.size) (hst : SumTab w) (a0 a1 a2 : Addr) (he : Errs w a0 a1 a2) :
  Calls Tryz.prog 73 #[v] w fun b w' => SoAns e w' b ∧ Below w.heap.size w w' := by
 obtain ⟨vc, vf, rfl, hc, hl⟩ := hv
 unfold vE
 obtain ⟨Ac, cc, rfl, _⟩ := hc.look
 obtain ⟨A, cap, rfl, _⟩ := st_look hl
 have ST : Hid (SumTab w) := hst
 have ER : Hid (Errs w a0 a1 a2) := he
 have HV : Hid (EngV w B (vE e.floor (.slice Ac e.cache.length cc) (.slice A e.files.length cap)) e) := ⟨_, _, rfl, hc, hl⟩
 have HC : Hid (SerV w B (.slice Ac e.cache.length cc) e.cache) := hc
 have HB : Hid (B ≤ w.heap.size) := hB
 have HSh : Hid (EShort e) := hs
 obtain ⟨X0, hX0⟩ : ∃ X0, X0 = w.alloc (.cells #[.int .i64 e.floor, .slice Ac e.cache.length cc, .slice A e.files.length cap] 30) := ⟨_, rfl⟩
 have BX : Hid (Below w.heap.size w X0) := by unfold Hid; rw [hX0]; exact (Below.refl _ w).alloc (Nat.le_refl _) _
 have KX : Hid (Blk X0 w.heap.size #[.int .i64 e.floor, .slice Ac e.cache.length cc, .slice A e.files.length cap] 30) := by unfold Hid; rw [hX0]; exact Blk.new w _ _
 have ZB : Hid (B ≤ X0.heap.size) := Nat.le_trans hB BX.out.size
 have c1 := implCacheOk e.cache e.floor _ X0 B (HC.out.on (BX.out.mono hB)) hs.1 hs.2.1 ZB.out
 have k0 := KX.out.cell 0 _ rfl
 have k1 := KX.out.cell 1 _ rfl
 have k2 := KX.out.cell 2 _ rfl
 have q2 : (e.files.length : Int) ≤ 1048576 := by have := hs.2.2.1; omega
 have HL : Hid (∀ wx, Below w.heap.size w wx → ∀ j, j < e.files.length → ∃ g off, A = some ⟨g, off, none⟩ ∧ g < B ∧ wx.cell? ⟨g, off + j, none⟩ = some (.string (e.files.getD j default))) := fun wx hx => st_cells (hl.on (hx.mono hB))
 have HSz : Hid (∀ j, j < e.files.length → (e.files.getD j default).size ≤ 1048576) := fun j hj => hs.2.2.2 _ (getD_mem _ j hj)
 have HTk : Hid (∀ i, i < e.files.length → e.files.take (i + 1) = e.files.take i ++ [e.files.getD i default]) := fun i hi => take_getD _ i hi
 have HM : Hid (∀ i, i < e.files.length → e.files.getD i default ∈ e.files) := fun i hi => getD_mem _ i hi
 have HTn : Hid (e.files.take e.files.length = e.files) := List.take_length
 by_cases hlow : e.floor < 0
 ·have HN : Hid (¬ EOk e) := fun h => by have := h.1.1.1; omega
  clear hc hl hB hs hst he c1
  generalize e.floor = f at *
  go_enter Tryz.func73, Tryz.ntmps73
  go_wp2_with fail
  rw [← hX0]
  refine bodyPost_ret (results_tmp2 rfl _ _ _) rfl ?_
  exact ⟨⟨_, false, rfl, .inr ⟨rfl, HN.out⟩⟩, BX.out⟩
 by_cases hhigh : 1099511627776 < e.floor
 ·have HN : Hid (¬ EOk e) := fun h => by have := h.1.1.2; omega
  clear hc hl hB hs hst he c1
  generalize e.floor = f at *
  go_enter Tryz.func73, Tryz.ntmps73
  go_wp2_with fail
  rw [← hX0]
  refine bodyPost_ret (results_tmp2 rfl _ _ _) rfl ?_
  exact ⟨⟨_, false, rfl, .inr ⟨rfl, HN.out⟩⟩, BX.out⟩
 by_cases hmany : 4 < e.files.length
 ·have HN : Hid (¬ EOk e) := fun h => by have := h.1.2.1; omega
  have q5 : (4 : Int) < (e.files.length : Int) := by omega
  clear hc hl hB hs hst he c1
  generalize e.floor = f at *
  generalize e.files.length = fn at *
  go_enter Tryz.func73, Tryz.ntmps73
  go_wp2_with fail
  rw [← hX0]
  refine bodyPost_ret (results_tmp2 rfl _ _ _) rfl ?_
  exact ⟨⟨_, false, rfl, .inr ⟨rfl, HN.out⟩⟩, BX.out⟩
 have q5 : ¬ (4 : Int) < (e.files.length : Int) := by omega
 by_cases hca : CaOk e.cache e.floor
 ·rw [decide_eq_true hca] at c1
  have HPre : Hid (PreOk e) := ⟨by omega, by omega, hca⟩
  clear hc hl hB hs hst he hca
  have HLys : Hid (lays e = laysF e.files ++ [e.cache]) := rfl
  generalize hfl : e.floor = f at *
  have HFl : Hid (e.floor = f) := hfl
  clear hfl
  generalize hN : e.files.length = n at *
  have HN : Hid (e.files.length = n) := hN
  clear hN
  generalize e.cache.length = nc at *
  go_enter Tryz.func73, Tryz.ntmps73
  go_wp2_with fail
  rw [← hX0]
  clear hX0
  refine c1.mono ?_
  rintro b X1 ⟨rfl, hb1⟩
  have K1 := KX.out.on hb1 KX.out.lt
  have HK1 : Hid (Blk X1 w.heap.size #[.int .i64 f, .slice Ac nc cc, .slice A n cap] 30) := K1
  have m0 := K1.cell 0 _ rfl
  have m1 := K1.cell 1 _ rfl
  have m2 := K1.cell 2 _ rfl
  have B1 : Hid (Below w.heap.size w X1) := BX.out.trans (hb1.mono BX.out.size)
  clear hb1 c1 K1 k0 k1 k2
  go_wp2_with fail
  go_loopw [4, 33] (fun v4 v33 wr => ∃ (i : Nat) (us : List Value), i ≤ n ∧ v33 = .int .i64 (i : Int) ∧ Owns wr X1.heap.size 121 1 v4 (laR us) ∧ SrcO wr X1.heap.size us (e.files.take i) ∧ us.length = i ∧ Hid (∀ s ∈ e.files.take i, isF s) ∧ Below X1.heap.size X1 wr) (fun _ i _ => n - (intOf i).toNat)
  case atStart => exact ⟨0, [], by omega, rfl, Owns.nil _ _ _ _, SrcO.nil _ _, rfl, fun s hs => (by simp at hs), Below.refl _ _⟩
  case round =>
   obtain ⟨i, us, hi, rfl, hO, hLy, hul, HI, hb⟩ := hrel
   have HO : Hid (Owns wr X1.heap.size 121 1 u4 (laR us)) := hO
   have HLy : Hid (SrcO wr X1.heap.size us (e.files.take i)) := hLy
   have HUl : Hid (us.length = i) := hul
   have HBr : Hid (Below X1.heap.size X1 wr) := hb
   obtain ⟨A4, n4, c4, rfl⟩ := hO.shape
   have BW : Hid (Below w.heap.size w wr) := B1.out.trans (hb.mono B1.out.size)
   have KR : Hid (Blk wr w.heap.size #[.int .i64 f, .slice Ac nc cc, .slice A n cap] 30) := HK1.out.on hb HK1.out.lt
   have k1 := KR.out.cell 1 _ rfl
   clear hO hLy hul hb m0 m1 m2
   by_cases hlt : i < n
   ·have q4 : (i : Int) < (n : Int) := by omega
    obtain ⟨g, off, rfl, hg, e1⟩ := HL.out wr BW.out i hlt
    have c1 := indexOfV (e.files.getD i default) wr (HSz.out i hlt) (ST.out.on BW.out) a0 a1 a2 (ER.out.on BW.out)
    have HSi : Hid ((e.files.getD i default).size ≤ 1048576) := HSz.out i hlt
    have HTi : Hid (e.files.take (i + 1) = e.files.take i ++ [e.files.getD i default]) := HTk.out i hlt
    have HMi : Hid (e.files.getD i default ∈ e.files) := HM.out i hlt
    generalize e.files.getD i default = s at *
    go_wp2_with fail
    refine c1.mono ?_
    rintro b w2 ⟨⟨u, P, rfl, hI, hOx⟩, hb2⟩
    have HIx : Hid (IxI s P) := hI
    have OX : Hid (Owns w2 wr.heap.size 116 5 u (spR P)) := hOx
    have B2 : Hid (Below X1.heap.size X1 w2) := HBr.out.trans (hb2.mono HBr.out.size)
    have BW2 : Hid (Below w.heap.size w w2) := B1.out.trans (B2.out.mono B1.out.size)
    have O2 : Hid (Owns w2 X1.heap.size 121 1 (.slice A4 n4 c4) (laR us)) := HO.out.on hb2
    have L2 : Hid (SrcO w2 X1.heap.size us (e.files.take i)) := HLy.out.on hb2
    have Z : Hid (X1.heap.size ≤ wr.heap.size) := HBr.out.size
    have hPl : P.length ≤ 5 := by
     rcases hI with ⟨m', h1, h2⟩ | ⟨_, h2⟩
     ·rw [h2, List.length_map, List.length_range]; exact h1.2.1.1
     ·rw [h2]; simp
    obtain ⟨Au, cu, rfl, _⟩ := sp_look hOx.lies
    clear hI hOx hb2 c1 e1 k1
    by_cases h0 : P = []
    ·have HNo : Hid (¬ EOk e) := fun h => ixI_no HIx.out h0 (h.2.1 s HMi.out)
     subst h0
     go_wp2_with fail
     refine bodyPost_ret (results_tmp2 rfl _ _ _) rfl ?_
     exact ⟨⟨_, false, rfl, .inr ⟨rfl, HNo.out⟩⟩, BW2.out⟩
    ·obtain ⟨hF, hPe⟩ := ixI_yes HIx.out h0
     have HF : Hid (isF s) := hF
     have OX2 : Hid (Owns w2 wr.heap.size 116 5 (.slice Au P.length cu) (spR (idxF (fileM s)))) := by unfold Hid; rw [← hPe]; exact OX.out
     have q6 : 0 < P.length := len_pos h0
     have q7 : (P.length : Int) ≤ 5 := by omega
     have q8 : ((P.length : Int) == 0) = false := beq_eq_false_iff_ne.2 (by omega)
     have q9 : ¬ ((P.length : Int) = 0) := by omega
     have Z2 : X1.heap.size ≤ w2.heap.size := B2.out.size
     have L3 : Hid ((laR us).length ≤ 2097152) := by have := HUl.out; unfold Hid; rw [laR_length]; omega
     clear hF hPe h0 OX HIx
     generalize P.length = pl at *
     go_wp2_with (at_builtin; refine wpList_append_row rfl (.tmp 42) (.tmp 47) 88 121 .nilIface 1 16 rfl Tryz.underlying88 infoSrc rfl (by omega) X1.heap.size _ (laR us) rfl O2.out [.iface 105 (.agg #[.string s, .slice Au pl cu])] rfl (la_cell _ rfl) rfl L3.out (by omega) Z2 ?_; intro v' w5 hO5 hb5 hk5 hw5; obtain ⟨A7, n7, c7, rfl⟩ := hO5.shape; refine Shut.out ?_)
     unfold Shut
     have hne5 : ∀ (v : Value) (b : Nat) (e : TypeId) (sz : Nat) (r : List (List Value)), Owns w2 b e sz v r → e ≠ 121 → Owns w5 b e sz v r := fun v b e sz r ho hne => ho.kept fun gg hg hv => hk5 gg hg (fun hu => ho.apartT O2.out hne gg hv hu)
     have O5 : Hid (Owns w5 X1.heap.size 121 1 (.slice A7 n7 c7) (laR (us ++ [.iface 105 (.agg #[.string s, .slice Au pl cu])]))) := by unfold Hid; rw [laR_append]; exact hO5
     have L5 : Hid (SrcO w5 X1.heap.size (us ++ [.iface 105 (.agg #[.string s, .slice Au pl cu])]) (e.files.take (i + 1))) := by
      unfold Hid
      rw [HTi.out]
      exact (L2.out.kept hne5).snoc HSi.out HF.out (hne5 _ _ _ _ _ (OX2.out.mono Z.out) (by decide))
     have B5 : Hid (Below X1.heap.size X1 w5) := B2.out.trans hb5
     have HI5 : Hid (∀ s ∈ e.files.take (i + 1), isF s) := fun x hx => by
      rw [HTi.out] at hx
      rcases List.mem_append.1 hx with h | h
      ·exact HI.out x h
      ·rw [List.mem_singleton.1 h]; exact HF.out
     have HU5 : Hid ((us ++ [Value.iface 105 (.agg #[.string s, .slice Au pl cu])]).length = i + 1) := by unfold Hid; rw [List.length_append, HUl.out]; rfl
     clear hO5 hb5 hk5 hw5 hne5
     go_wp2_with fail
     go_roundw
     case rel => exact ⟨i + 1, _, by omega, by go_num, O5.out, L5.out, HU5.out, HI5, B5.out⟩
     case measure => simp [intOf]; omega
   ·obtain rfl : i = n := by omega
    have Z2 : X1.heap.size ≤ wr.heap.size := HBr.out.size
    have L3 : Hid ((laR us).length ≤ 2097152) := by have := HUl.out; unfold Hid; rw [laR_length]; omega
    go_wp2_with (at_builtin; refine wpList_append_row rfl (.tmp 50) (.tmp 54) 88 121 .nilIface 1 16 rfl Tryz.underlying88 infoSrc rfl (by omega) X1.heap.size _ (laR us) rfl HO.out [.iface 70 (.slice Ac nc cc)] rfl (la_cell _ rfl) rfl L3.out (by omega) Z2 ?_; intro v' w5 hO5 hb5 hk5 hw5; obtain ⟨A7, n7, c7, rfl⟩ := hO5.shape; refine Shut.out ?_)
    unfold Shut
    have hne5 : ∀ (v : Value) (b : Nat) (e : TypeId) (sz : Nat) (r : List (List Value)), Owns wr b e sz v r → e ≠ 121 → Owns w5 b e sz v r := fun v b e sz r ho hne => ho.kept fun gg hg hv => hk5 gg hg (fun hu => ho.apartT HO.out hne gg hv hu)
    have B5 : Hid (Below X1.heap.size X1 w5) := HBr.out.trans hb5
    have BW5 : Hid (Below w.heap.size w w5) := B1.out.trans (B5.out.mono B1.out.size)
    have HAns : Hid (SrcsV w5 w5.heap.size (.slice A7 n7 c7) (lays e)) := by
     unfold Hid
     rw [HLys.out]
     refine ⟨us ++ [.iface 70 (.slice Ac nc cc)], by rw [laR_append]; exact hO5.lies, ?_⟩
     have h1 := (HLy.out.kept hne5).srcs
     rw [HTn.out] at h1
     exact h1.snoc (.inl ⟨_, rfl, (HC.out.on (BW5.out.mono HB.out)).mono (Nat.le_trans HB.out BW5.out.size)⟩)
    have HIa : Hid (∀ s ∈ e.files, isF s) := by have := HI.out; rw [HTn.out] at this; exact this
    clear hO5 hb5 hk5 hw5 hne5
    go_wp2_with fail
    refine bodyPost_ret (results_tmp2 rfl _ _ _) rfl ?_
    exact ⟨⟨_, true, rfl, .inl ⟨rfl, HPre.out, HIa.out, HAns.out⟩⟩, BW5.out⟩
 ·rw [decide_eq_false hca] at c1
  have HN : Hid (¬ EOk e) := fun h => hca h.1.2.2
  clear hc hl hB hs hst he hca
  generalize e.floor = f at *
  generalize e.files.length = fn at *
  go_enter Tryz.func73, Tryz.ntmps73
  go_wp2_with fail
  rw [← hX0]
  clear hX0
  refine c1.mono ?_
  rintro b X1 ⟨rfl, hb1⟩
  have B1 : Hid (Below w.heap.size w X1) := BX.out.trans (hb1.mono BX.out.size)
  clear hb1 c1 k0 k1 k2
  go_wp2_with fail
  refine bodyPost_ret (results_tmp2 rfl _ _ _) rfl ?_
  exact ⟨⟨_, false, rfl, .inr ⟨rfl, HN.out⟩⟩, B1.out⟩
set_option maxHeartbeats 4000000 in
theorem implContents (e : Eng) (v : Value) (w : World) (B : Nat) (hv : EngV w B v e) (hs : EShort e) (hB : B ≤ w.heap.size) (hst : SumTab w) (a0 a1 a2 : Addr) (he : Errs w a0 a1 a2) :
  Calls Tryz.prog 43 #[v] w fun b w' => (∃ u L, b = .returned (.tuple #[u, .bool (decide (EOk e))]) ∧ L.map Prod.fst = plainX e ∧ SerO w' w.heap.size u L) ∧ Below w.heap.size w w' := by
 obtain ⟨vc, vf, rfl, hc, hl⟩ := hv
 unfold vE
 obtain ⟨Ac, cc, rfl, _⟩ := hc.look
 obtain ⟨A, cap, rfl, _⟩ := st_look hl
 have ST : Hid (SumTab w) := hst
 have ER : Hid (Errs w a0 a1 a2) := he
 have HV : Hid (EngV w B (vE e.floor (.slice Ac e.cache.length cc) (.slice A e.files.length cap)) e) := ⟨_, _, rfl, hc, hl⟩
 have HC : Hid (SerV w B (.slice Ac e.cache.length cc) e.cache) := hc
 have HB : Hid (B ≤ w.heap.size) := hB
 have HSh : Hid (EShort e) := hs
 obtain ⟨X0, hX0⟩ : ∃ X0, X0 = w.alloc (.cells #[.int .i64 e.floor, .slice Ac e.cache.length cc, .slice A e.files.length cap] 30) := ⟨_, rfl⟩
 have BX : Hid (Below w.heap.size w X0) := by unfold Hid; rw [hX0]; exact (Below.refl _ w).alloc (Nat.le_refl _) _
 have KX : Hid (Blk X0 w.heap.size #[.int .i64 e.floor, .slice Ac e.cache.length cc, .slice A e.files.length cap] 30) := by unfold Hid; rw [hX0]; exact Blk.new w _ _
 have ZB : Hid (B ≤ X0.heap.size) := Nat.le_trans hB BX.out.size
 have c1 := implSources e _ X0 B (HV.out.on (BX.out.mono hB)) hs ZB.out (hst.on BX.out) a0 a1 a2 (he.on BX.out)
 unfold vE at c1
 have k0 := KX.out.cell 0 _ rfl
 have k1 := KX.out.cell 1 _ rfl
 have k2 := KX.out.cell 2 _ rfl
 clear hc hl hB hs hst he
 go_enter Tryz.func43, Tryz.ntmps43
 go_wp2_with fail
 rw [← hX0]
 clear hX0
 refine c1.mono ?_
 rintro b X1 ⟨⟨u, ok, rfl, hA⟩, hb1⟩
 have K1 := KX.out.on hb1 KX.out.lt
 have m0 := K1.cell 0 _ rfl
 have B1 : Hid (Below w.heap.size w X1) := BX.out.trans (hb1.mono BX.out.size)
 clear hb1 c1 K1 k0 k1 k2
 rcases hA with ⟨rfl, hP, hF, hS⟩ | ⟨rfl, hN⟩
 ·have HCol : Hid (∀ l ∈ lays e, COk l) := lays_col hP.2.2.1.col hF
  have HLok : Hid (LOk (lays e)) := lays_ok (by have := hP.2.1; omega) hP.2.2.1.col hF
  have c2 := implGathered (lays e) e.floor u X1 X1.heap.size hS HLok.out HCol.out (Nat.le_refl _) (ST.out.on B1.out) a0 a1 a2 (ER.out.on B1.out)
  have HD : Hid (decide (SOk (plainE e)) = decide (EOk e)) := by
   unfold Hid
   rw [decide_eq_decide]
   exact ⟨fun h => ⟨hP, hF, h⟩, fun h => h.2.2⟩
  have HShp : Hid (SShort (plainE e)) := plainE_short HLok.out
  obtain ⟨Au, cu, rfl, _⟩ := hS.look
  clear hP hF hS
  go_wp2_with fail
  refine c2.mono ?_
  rintro b X2 ⟨⟨u2, L, rfl, hL, hS2⟩, hb2⟩
  have B2 : Hid (Below w.heap.size w X2) := B1.out.trans (hb2.mono B1.out.size)
  have S2 : Hid (SerO X2 w.heap.size u2 L) := hS2.mono B1.out.size
  have HL : Hid (L.map Prod.fst = plainE e) := hL
  have c3 := implSeriesOk (plainE e) u2 X2 X2.heap.size (by rw [← HL.out]; exact hS2.view) HShp.out (plain_keys HCol.out) (Nat.le_refl _)
  rw [HD.out] at c3
  obtain ⟨A2, n2, c2', rfl⟩ := hS2.1.shape
  clear hL hS2 hb2 c2 m0
  go_wp2_with fail
  refine c3.mono ?_
  rintro b X3 ⟨rfl, hb3⟩
  have B3 : Hid (Below w.heap.size w X3) := B2.out.trans (hb3.mono B2.out.size)
  have S3 : Hid (SerO X3 w.heap.size (.slice A2 n2 c2') L) := S2.out.on hb3
  clear hb3 c3
  by_cases hok : EOk e
  ·have HX : Hid (plainX e = plainE e) := by unfold Hid plainX; rw [if_pos hok]
   have hd : decide (EOk e) = true := decide_eq_true hok
   rw [hd]
   clear hok
   go_wp2_with fail
   refine bodyPost_ret (results_tmp2 rfl _ _ _) rfl ?_
   exact ⟨⟨_, L, by rw [hd]; rfl, HL.out.trans HX.out.symm, S3.out⟩, B3.out⟩
  ·have HX : Hid (plainX e = []) := by unfold Hid plainX; rw [if_neg hok]
   have hd : decide (EOk e) = false := decide_eq_false hok
   rw [hd]
   clear hok
   go_wp2_with fail
   refine bodyPost_ret (results_tmp2 rfl _ _ _) rfl ?_
   exact ⟨⟨_, [], by rw [hd]; rfl, by rw [HX.out]; rfl, ⟨Owns.nil _ _ _ _, fun p hp => (by cases hp), List.Pairwise.nil⟩⟩, B3.out⟩
 ·have HX : Hid (plainX e = []) := by unfold Hid plainX; rw [if_neg hN]
  have HD : Hid (decide (EOk e) = false) := decide_eq_false hN
  clear hN
  go_wp2_with fail
  refine bodyPost_ret (results_tmp2 rfl _ _ _) rfl ?_
  exact ⟨⟨_, [], by rw [HD.out]; rfl, by rw [HX.out]; rfl, ⟨Owns.nil _ _ _ _, fun p hp => (by cases hp), List.Pairwise.nil⟩⟩, B1.out⟩
end Go.Proofs.YtpmgndgkmffcnaaGreatDoor
