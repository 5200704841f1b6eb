/- ChImpl -/
import Derived.Test.YtfmannphobjgpaaRows
import Derived.Test.YtfmannphobjgpaaQc6
namespace Go.Proofs.Ytfmannphobjgpaa
open Go.ChangeShapes Go.WideShapes Go.ChangeAt Go.RowKit Go.PlainAid
set_option linter.unusedVariables false
theorem Try.infoRcd : (Try.prog.info? 35).map (fun i => (i.zero, i.size, i.bytes)) = some (some (.agg #[.int .i64 0, .int .i64 0, .int .i64 0, .int .i64 0, .string ⟨#[]⟩]), 5, 48) := by kernel_rfl
set_option maxRecDepth 20000 in
set_option maxHeartbeats 16000000 in
theorem implChanges (a b : Wl) (v v1 : Value) (w : World) (B : Nat) (hv : WalV w B v a) (hv1 : WalV w B v1 b) (hf : FitsW a) (hf1 : FitsW b) (hB : B ≤ w.heap.size) :
  Calls Try.prog 6 #[v, v1] w fun e w' => ∃ l ok u, ChAns a b l ok ∧ e = .returned (.tuple #[u, .bool ok]) ∧ Owns w' w.heap.size 35 5 u (rcdR l) ∧ Below w.heap.size w w' := by
 have HV : Hid (WalV w B v a) := hv
 have HV1 : Hid (WalV w B v1 b) := hv1
 have HB : Hid (B ≤ w.heap.size) := hB
 have cA := fun wx hx hb => implWalOk a v wx B hx hf hb
 have cB := fun wx hx hb => implWalOk b v1 wx B hx hf1 hb
 obtain ⟨u, rfl, hl⟩ := hv
 obtain ⟨u1, rfl, hl1⟩ := hv1
 have HL : Hid (Lies w B 2 u (entR a.ents)) := hl
 have HL1 : Hid (Lies w B 2 u1 (entR b.ents)) := hl1
 obtain ⟨A, cap, rfl, _⟩ := ent_look hl
 obtain ⟨A1, cap1, rfl, _⟩ := ent_look hl1
 clear hl hl1 hB hf hf1
 generalize hn : a.ents.length = n at *
 generalize hm : b.ents.length = m at *
 have hb0 : Below w.heap.size w ((w.alloc (.cells #[.int .i64 a.term, .int .i64 a.vote, .int .i64 a.base, .int .i64 a.bterm, .slice A n cap] 26)).alloc (.cells #[.int .i64 b.term, .int .i64 b.vote, .int .i64 b.base, .int .i64 b.bterm, .slice A1 m cap1] 26)) := ((Below.refl _ w).alloc (Nat.le_refl _) _).alloc (by simp) _
 have ka := (Blk.new w #[.int .i64 a.term, .int .i64 a.vote, .int .i64 a.base, .int .i64 a.bterm, .slice A n cap] 26).alloc (.cells #[.int .i64 b.term, .int .i64 b.vote, .int .i64 b.base, .int .i64 b.bterm, .slice A1 m cap1] 26)
 have kb := Blk.new (w.alloc (.cells #[.int .i64 a.term, .int .i64 a.vote, .int .i64 a.base, .int .i64 a.bterm, .slice A n cap] 26)) #[.int .i64 b.term, .int .i64 b.vote, .int .i64 b.base, .int .i64 b.bterm, .slice A1 m cap1] 26
 have hsz : ((w.alloc (.cells #[.int .i64 a.term, .int .i64 a.vote, .int .i64 a.base, .int .i64 a.bterm, .slice A n cap] 26)).alloc (.cells #[.int .i64 b.term, .int .i64 b.vote, .int .i64 b.base, .int .i64 b.bterm, .slice A1 m cap1] 26)).heap.size = w.heap.size + 1 + 1 := by simp
 simp only [World.size_alloc] at kb
 go_enter Try.func6, Try.ntmps6
 go_wp2_with fail
 generalize (w.alloc (.cells #[.int .i64 a.term, .int .i64 a.vote, .int .i64 a.base, .int .i64 a.bterm, .slice A n cap] 26)).alloc (.cells #[.int .i64 b.term, .int .i64 b.vote, .int .i64 b.base, .int .i64 b.bterm, .slice A1 m cap1] 26) = w0 at *
 have D0 : Hid (Below w.heap.size w w0) := hb0
 have KA : Hid (Blk w0 w.heap.size #[.int .i64 a.term, .int .i64 a.vote, .int .i64 a.base, .int .i64 a.bterm, .slice A n cap] 26) := ka
 have KB : Hid (Blk w0 (w.heap.size + 1) #[.int .i64 b.term, .int .i64 b.vote, .int .i64 b.base, .int .i64 b.bterm, .slice A1 m cap1] 26) := kb
 have Z0 : Hid (w0.heap.size = w.heap.size + 2) := hsz
 have E0 : Hid (Below (w.heap.size + 2) w0 w0) := Below.refl _ _
 clear hb0 ka kb hsz
 refine (cA w0 (HV.out.on (D0.out.mono HB.out)) (Nat.le_trans HB.out D0.out.size)).mono ?_
 rintro e w1 ⟨rfl, hb1⟩
 have D1 : Hid (Below w.heap.size w w1) := D0.out.trans (hb1.mono D0.out.size)
 have E1 : Hid (Below (w.heap.size + 2) w0 w1) := by unfold Hid; rw [← Z0.out]; exact hb1
 clear hb1 cA
 have a0 := (KA.out.on E1.out (by omega)).cell 0 (.int .i64 a.term) rfl
 have a1 := (KA.out.on E1.out (by omega)).cell 1 (.int .i64 a.vote) rfl
 have a2 := (KA.out.on E1.out (by omega)).cell 2 (.int .i64 a.base) rfl
 have a3 := (KA.out.on E1.out (by omega)).cell 3 (.int .i64 a.bterm) rfl
 have a4 := (KA.out.on E1.out (by omega)).cell 4 (.slice A n cap) rfl
 have b0 := (KB.out.on E1.out (by omega)).cell 0 (.int .i64 b.term) rfl
 have b1 := (KB.out.on E1.out (by omega)).cell 1 (.int .i64 b.vote) rfl
 have b2 := (KB.out.on E1.out (by omega)).cell 2 (.int .i64 b.base) rfl
 have b3 := (KB.out.on E1.out (by omega)).cell 3 (.int .i64 b.bterm) rfl
 have b4 := (KB.out.on E1.out (by omega)).cell 4 (.slice A1 m cap1) rfl
 cases ha : walOk a
 ·go_wp2_with fail
  exact bodyPost_ret (v := .tuple #[.slice none 0 0, .bool false]) (by simp [results, go_sem]) rfl ⟨[], false, _, .inr ⟨rfl, (fun h => by rw [h.1] at ha; cases ha), rfl⟩, rfl, Owns.nil _ _ _ _, D1.out⟩
 go_wp2_with fail
 refine (cB w1 (HV1.out.on (D1.out.mono HB.out)) (Nat.le_trans HB.out D1.out.size)).mono ?_
 rintro e w2 ⟨rfl, hb2⟩
 have D2 : Hid (Below w.heap.size w w2) := D1.out.trans (hb2.mono D1.out.size)
 have E2 : Hid (Below (w.heap.size + 2) w0 w2) := E1.out.trans (hb2.mono (by have := E1.out.size; have := Z0.out; omega))
 clear hb2 cB a0 a1 a2 a3 a4 b0 b1 b2 b3 b4
 have a0 := (KA.out.on E2.out (by omega)).cell 0 (.int .i64 a.term) rfl
 have a1 := (KA.out.on E2.out (by omega)).cell 1 (.int .i64 a.vote) rfl
 have a2 := (KA.out.on E2.out (by omega)).cell 2 (.int .i64 a.base) rfl
 have a3 := (KA.out.on E2.out (by omega)).cell 3 (.int .i64 a.bterm) rfl
 have a4 := (KA.out.on E2.out (by omega)).cell 4 (.slice A n cap) rfl
 have b0 := (KB.out.on E2.out (by omega)).cell 0 (.int .i64 b.term) rfl
 have b1 := (KB.out.on E2.out (by omega)).cell 1 (.int .i64 b.vote) rfl
 have b2 := (KB.out.on E2.out (by omega)).cell 2 (.int .i64 b.base) rfl
 have b3 := (KB.out.on E2.out (by omega)).cell 3 (.int .i64 b.bterm) rfl
 have b4 := (KB.out.on E2.out (by omega)).cell 4 (.slice A1 m cap1) rfl
 cases hbk : walOk b
 ·go_wp2_with fail
  exact bodyPost_ret (v := .tuple #[.slice none 0 0, .bool false]) (by simp [results, go_sem]) rfl ⟨[], false, _, .inr ⟨rfl, (fun h => by rw [h.2.1] at hbk; cases hbk), rfl⟩, rfl, Owns.nil _ _ _ _, D2.out⟩
 obtain ⟨n60, ⟨base0, base1⟩, hda⟩ := ok_in a ha
 obtain ⟨n60b, ⟨base0b, base1b⟩, hdb0⟩ := ok_in b hbk
 have hdb : ∀ e ∈ b.ents, e.data.size ≤ 1048576 := fun e he => Nat.le_trans (hdb0 e he) (by omega)
 have cE := fun wx k hk hx hb => entriesAny b (.agg #[.int .i64 b.term, .int .i64 b.vote, .int .i64 b.base, .int .i64 b.bterm, .slice A1 m cap1]) wx B k hk hx n60b base0b base1b hb
 have HCO : Hid (∀ (q1 : a.base = b.base) (q2 : a.bterm = b.bterm) (q3 : (a.term = b.term ∧ a.vote = b.vote) ∨ recFits a ⟨1, b.term, 0, b.vote, ⟨#[]⟩⟩ = true), chOk a b) := fun q1 q2 q3 => ⟨ha, hbk, q1, q2, q3⟩
 have HNO : Hid (chOk a b → a.base = b.base ∧ a.bterm = b.bterm ∧ ((a.term = b.term ∧ a.vote = b.vote) ∨ recFits a ⟨1, b.term, 0, b.vote, ⟨#[]⟩⟩ = true)) := fun h => ⟨h.2.2.1, h.2.2.2.1, h.2.2.2.2⟩
 have HHS : Hid (a.term = b.term → a.vote = b.vote → hardR a b = []) := fun q1 q2 => by unfold hardR; rw [if_pos ⟨q1, q2⟩]
 have HHD : Hid (¬ (a.term = b.term ∧ a.vote = b.vote) → hardR a b = [⟨1, b.term, 0, b.vote, ⟨#[]⟩⟩]) := fun q => by unfold hardR; rw [if_neg q]
 clear hda hdb0 ha hbk base0b base1b
 generalize b.base = bb at *
 generalize b.bterm = bq at *
 generalize b.term = bt at *
 generalize b.vote = bv at *
 by_cases hbase : a.base = bb
 case neg =>
  have z : (a.base == bb) = false := by simpa using hbase
  go_wp2_with fail
  exact bodyPost_ret (v := .tuple #[.slice none 0 0, .bool false]) (by simp [results, go_sem]) rfl ⟨[], false, _, .inr ⟨rfl, (fun h => hbase (HNO.out h).1), rfl⟩, rfl, Owns.nil _ _ _ _, D2.out⟩
 subst hbase
 by_cases hbt : a.bterm = bq
 case neg =>
  have z : (a.bterm == bq) = false := by simpa using hbt
  go_wp2_with fail
  exact bodyPost_ret (v := .tuple #[.slice none 0 0, .bool false]) (by simp [results, go_sem]) rfl ⟨[], false, _, .inr ⟨rfl, (fun h => hbt (HNO.out h).2.1), rfl⟩, rfl, Owns.nil _ _ _ _, D2.out⟩
 subst hbt
 by_cases ht : a.term = bt
 ·subst ht
  by_cases hvv : a.vote = bv
  ·subst hvv
   have D3 : Hid (Below w.heap.size w (w2.alloc (.cells #[.int .i64 a.term, .int .i64 a.vote] 48))) := D2.out.alloc D2.out.size _
   have E3 : Hid (Below (w.heap.size + 2) w0 (w2.alloc (.cells #[.int .i64 a.term, .int .i64 a.vote] 48))) := E2.out.alloc (by have := E2.out.size; have := Z0.out; omega) _
   have H3 : Hid (Blk (w2.alloc (.cells #[.int .i64 a.term, .int .i64 a.vote] 48)) w2.heap.size #[.int .i64 a.term, .int .i64 a.vote] 48) := Blk.new _ _ _
   have h0 := H3.out.cell 0 (.int .i64 a.term) rfl
   have h1 := H3.out.cell 1 (.int .i64 a.vote) rfl
   have x0 := (KA.out.on E3.out (by omega)).cell 0 (.int .i64 a.term) rfl
   have x1 := (KA.out.on E3.out (by omega)).cell 1 (.int .i64 a.vote) rfl
   have x2 := (KA.out.on E3.out (by omega)).cell 2 (.int .i64 a.base) rfl
   have x3 := (KA.out.on E3.out (by omega)).cell 3 (.int .i64 a.bterm) rfl
   have x4 := (KA.out.on E3.out (by omega)).cell 4 (.slice A n cap) rfl
   have X0 := (KB.out.on E3.out (by omega)).cell 0 (.int .i64 a.term) rfl
   have X1 := (KB.out.on E3.out (by omega)).cell 1 (.int .i64 a.vote) rfl
   have X2 := (KB.out.on E3.out (by omega)).cell 2 (.int .i64 a.base) rfl
   have X3 := (KB.out.on E3.out (by omega)).cell 3 (.int .i64 a.bterm) rfl
   have X4 := (KB.out.on E3.out (by omega)).cell 4 (.slice A1 m cap1) rfl
   have hok : chOk a b := HCO.out rfl rfl (.inl ⟨rfl, rfl⟩)
   have hh : hardR a b = [] := HHS.out rfl rfl
   go_wp2_with fail
   clear h0 h1 x0 x1 x2 x3 x4 X0 X1 X2 X3 X4 H3
   generalize w2.alloc (.cells #[.int .i64 a.term, .int .i64 a.vote] 48) = w3 at *
   have L3 : Hid (Owns w3 (w.heap.size + 2) 54 1 (.slice none 0 0) (kindR ([] : List Rcd))) := Owns.nil _ _ _ _
   refine (alikeV a.ents b.ents _ _ w3 B (HL.out.on (D3.out.mono HB.out)) (HL1.out.on (D3.out.mono HB.out)) n60 n60b (Nat.le_trans HB.out D3.out.size)).mono ?_
   rintro e w4 ⟨k, hpre, rfl, hb⟩
   have D4 : Hid (Below w.heap.size w w4) := D3.out.trans (hb.mono D3.out.size)
   have E4 : Hid (Below (w.heap.size + 2) w0 w4) := E3.out.trans (hb.mono (by have := E3.out.size; have := Z0.out; omega))
   have L4 : Hid (Owns w4 (w.heap.size + 2) 54 1 (.slice none 0 0) (kindR (([] : List Rcd)))) := L3.out.on hb
   clear hb a0 a1 a2 a3 a4 b0 b1 b2 b3 b4
   have a0 := (KA.out.on E4.out (by omega)).cell 0 (.int .i64 a.term) rfl
   have a1 := (KA.out.on E4.out (by omega)).cell 1 (.int .i64 a.vote) rfl
   have a2 := (KA.out.on E4.out (by omega)).cell 2 (.int .i64 a.base) rfl
   have a3 := (KA.out.on E4.out (by omega)).cell 3 (.int .i64 a.bterm) rfl
   have a4 := (KA.out.on E4.out (by omega)).cell 4 (.slice A n cap) rfl
   have b0 := (KB.out.on E4.out (by omega)).cell 0 (.int .i64 a.term) rfl
   have b1 := (KB.out.on E4.out (by omega)).cell 1 (.int .i64 a.vote) rfl
   have b2 := (KB.out.on E4.out (by omega)).cell 2 (.int .i64 a.base) rfl
   have b3 := (KB.out.on E4.out (by omega)).cell 3 (.int .i64 a.bterm) rfl
   have b4 := (KB.out.on E4.out (by omega)).cell 4 (.slice A1 m cap1) rfl
   have HHR : Hid (hardR a b = ([] : List Rcd)) := hh
   have hka := hpre.ka
   by_cases hkn : k < n
   ·have q6 : (k : Int) < (n : Int) := by omega
    have hca : cutR a k = [⟨3, 0, a.base + (k : Int) + 1, 0, ⟨#[]⟩⟩] := by unfold cutR; rw [if_pos (by omega)]
    have y1 : wrap64 (a.base + (k : Int)) = a.base + (k : Int) := by unfold wrap64; omega
    have y2 : wrap64 (a.base + (k : Int) + 1) = a.base + (k : Int) + 1 := by unfold wrap64; omega
    have Y4 : w.heap.size + 2 ≤ w4.heap.size := by have h1 := E4.out.size; have h2 := Z0.out; omega
    have HLC : Hid ((kindR (([] : List Rcd))).length ≤ 2097152) := by unfold Hid; rw [kindR_length]; simp
    have HKK : Hid (kindR (([] : List Rcd)) ++ [[.iface 51 (.agg #[.int .i64 (a.base + (k : Int) + 1)])]] = kindR (([] : List Rcd) ++ cutR a k)) := by unfold Hid; rw [hca, kindR_append]; rfl
    clear hca
    go_wp2_with (at_builtin; refine wpList_append_row rfl (.tmp 65) (.tmp 73) 46 54 .nilIface 1 16 rfl Try.underlying46 Try.infoRec rfl (by omega) (w.heap.size + 2) _ (kindR (([] : List Rcd))) rfl L4.out [.iface 51 (.agg #[.int .i64 (a.base + (k : Int) + 1)])] rfl (by intro y hy; simp at hy; subst hy; rfl) rfl HLC.out (by omega) Y4 ?_; intro lvc w5 hO hb hk hw; have E5 : Hid (Below (w.heap.size + 2) w0 w5) := E4.out.trans hb; have c0 := (KB.out.on E5.out (by omega)).cell 0 (.int .i64 a.term) rfl; have c1 := (KB.out.on E5.out (by omega)).cell 1 (.int .i64 a.vote) rfl; have c2 := (KB.out.on E5.out (by omega)).cell 2 (.int .i64 a.base) rfl; have c3 := (KB.out.on E5.out (by omega)).cell 3 (.int .i64 a.bterm) rfl; have c4 := (KB.out.on E5.out (by omega)).cell 4 (.slice A1 m cap1) rfl)
    have D5 : Hid (Below w.heap.size w w5) := D4.out.trans (hb.mono (by omega))
    have L5 : Hid (Owns w5 (w.heap.size + 2) 54 1 lvc (kindR (([] : List Rcd) ++ cutR a k))) := by unfold Hid; rw [← HKK.out]; exact hO
    clear hO hb hk hw c0 c1 c2 c3 c4 HKK HLC y1 y2
    have HCH : Hid (chList a b k = ([] : List Rcd) ++ cutR a k ++ entFrom b k (b.ents.length - k)) := by unfold Hid chList; rw [HHR.out]
    refine (cE w5 k hpre.kb (HV1.out.on (D5.out.mono HB.out)) (Nat.le_trans HB.out D5.out.size)).mono ?_
    rintro e w6 ⟨ue, rfl, hOe, hbq⟩
    have D6 : Hid (Below w.heap.size w w6) := D5.out.trans (hbq.mono D5.out.size)
    have L6 : Hid (Owns w6 (w.heap.size + 2) 54 1 (lvc) (kindR (([] : List Rcd) ++ cutR a k))) := L5.out.on hbq
    have U6 : Hid (Lies w6 w6.heap.size 1 ue (kindR (entFrom b k (b.ents.length - k)))) := hOe.lies
    have Y6 : Hid (w.heap.size + 2 ≤ w6.heap.size) := by have h1 := E5.out.size; have h2 := Z0.out; have h3 := hbq.size; unfold Hid; omega
    have HLN : Hid ((kindR (([] : List Rcd) ++ cutR a k)).length + (kindR (entFrom b k (b.ents.length - k))).length ≤ 2097152) := by
     have h1 := chList_length a b k n60b
     rw [HCH.out, List.length_append] at h1
     unfold Hid
     rw [kindR_length, kindR_length]
     omega
    have HON : Hid (∀ r ∈ kindR (entFrom b k (b.ents.length - k)), ∀ y ∈ r, y.oneCell' = true) := by
     intro r hr y hy
     obtain ⟨q, hq, rfl⟩ := List.mem_map.1 hr
     obtain ⟨i, _, rfl⟩ := List.mem_map.1 hq
     simp only [List.mem_cons, List.not_mem_nil, or_false] at hy
     subst hy
     rw [kindV_at]
     rfl
    have HKC : Hid (kindR (([] : List Rcd) ++ cutR a k) ++ kindR (entFrom b k (b.ents.length - k)) = kindR (chList a b k)) := by unfold Hid; rw [HCH.out]; exact (kindR_append _ _).symm
    have qc : ((chList a b k).length : Int) ≤ 62 := by have := chList_length a b k n60b; omega
    clear hOe hbq a0 a1 a2 a3 a4 b0 b1 b2 b3 b4
    go_wp2_with (at_builtin; refine wpList_append_all rfl (.tmp 75) (.tmp 78) 46 54 .nilIface 1 16 rfl Try.underlying46 Try.infoRec rfl (by omega) (w.heap.size + 2) _ ue (kindR (([] : List Rcd) ++ cutR a k)) (kindR (entFrom b k (b.ents.length - k))) w6.heap.size rfl L6.out U6.out HON.out rfl HLN.out (by omega) Y6.out ?_; intro lv w7 hO hb hk hw; rw [HKC.out] at hO; obtain ⟨lA, lc, rfl, hlook⟩ := kind_look hO)
    have D7 : Hid (Below w.heap.size w w7) := D6.out.trans (hb.mono (by omega))
    have L7 : Hid (Owns w7 (w.heap.size + 2) 54 1 (.slice lA (chList a b k).length lc) (kindR (chList a b k))) := hO
    have RR : Hid (∀ r ∈ chList a b k, ChRec r) := chList_rec a b k hdb hpre.kb
    have HK : Hid (ChAns a b (chList a b k) true) := .inl ⟨rfl, hok, k, hpre, rfl⟩
    clear hO hb hk hw hlook HLN HON HKC HCH D6 L6 U6 Y6 L5 E5 D5
    generalize hN : chList a b k = cl at *
    generalize hNN : cl.length = N at *
    have DX : Hid (Below w7.heap.size w7 w7) := Below.refl _ _
    go_loopw [9, 81] (fun v9 v81 wr => ∃ j : Nat, j ≤ N ∧ v81 = .int .i64 (j : Int) ∧ Owns wr w7.heap.size 35 5 v9 (rcdR (cl.take j)) ∧ Below w7.heap.size w7 wr) (fun _ i _ => N - (intOf i).toNat)
    case atStart => exact ⟨0, by omega, rfl, Owns.nil _ _ _ _, DX.out⟩
    case round =>
     obtain ⟨j, hj, rfl, hO, hX⟩ := hrel
     have OR : Hid (Owns wr w7.heap.size 35 5 _ (rcdR (cl.take j))) := hO
     have XR : Hid (Below w7.heap.size w7 wr) := hX
     obtain ⟨sA, sm, sc, rfl⟩ := hO.shape
     clear hO hX
     by_cases hlt : j < N
     ·have q4 : (j : Int) < (N : Int) := by omega
      obtain ⟨A', cap', e', hlook⟩ := kind_look L7.out
      injection e' with ea eb ec
      subst ea
      subst ec
      obtain ⟨g, rfl, hg, _, hcell⟩ := hlook j (by omega)
      rw [← XR.out.cell (p := ⟨_, _, none⟩) hg] at hcell
      have hrec := RR.out (cl.getD j ⟨0, 0, 0, 0, ByteArray.empty⟩) (by rw [List.getD_eq_getElem?_getD, List.getElem?_eq_getElem (show j < cl.length by omega)]; exact List.getElem_mem _)
      have HTK : Hid (rcdR (cl.take (j + 1)) = rcdR (cl.take j) ++ [rcdC (cl.getD j ⟨0, 0, 0, 0, ByteArray.empty⟩)]) := rcdR_take cl j (by omega)
      have HTL : Hid ((rcdR (cl.take j)).length ≤ 2097152) := by unfold Hid rcdR; rw [List.length_map, List.length_take]; omega
      generalize cl.getD j ⟨0, 0, 0, 0, ByteArray.empty⟩ = r at *
      have cT := fun wx => told_any r hrec wx
      generalize hkv : kindV r = kv at *
      unfold vRcd at cT
      clear hlook eb hg hrec hkv
      go_wp2_with fail
      refine (cT _).mono ?_
      rintro e wt ⟨rfl, hbt⟩
      have OT : Hid (Owns wt w7.heap.size 35 5 (.slice sA sm sc) (rcdR (cl.take j))) := OR.out.on hbt
      have XT : Hid (Below w7.heap.size w7 wt) := XR.out.trans (hbt.mono XR.out.size)
      have hsz := XT.out.size
      clear hbt hcell
      go_wp2_with (at_builtin; refine wpList_append_row rfl (.tmp 85) (.tmp 88) 29 35 (.agg #[.int .i64 0, .int .i64 0, .int .i64 0, .int .i64 0, .string ⟨#[]⟩]) 5 48 rfl Try.underlying29 Try.infoRcd rfl (by omega) w7.heap.size _ (rcdR (cl.take j)) rfl OT.out (rcdC r) rfl (by intro y hy; simp [rcdC] at hy; rcases hy with rfl | rfl | rfl | rfl | rfl <;> rfl) rfl HTL.out (by omega) hsz ?_; intro v' w4 hO4 hb4 _ _)
      have hX4 : Below w7.heap.size w7 w4 := XT.out.trans hb4
      rw [← HTK.out] at hO4
      go_roundw
      case rel => exact ⟨j + 1, by omega, by go_num, hO4, hX4⟩
      case measure => simp [intOf]; omega
     ·obtain rfl : j = N := by omega
      have HTT : Hid (rcdR (cl.take j) = rcdR cl) := by unfold Hid; rw [List.take_of_length_le (by omega)]
      rw [HTT.out] at OR
      go_wp2_with fail
      exact bodyPost_ret (v := .tuple #[.slice sA sm sc, .bool true]) (by simp [results, go_sem]) rfl ⟨cl, true, _, HK.out, rfl, OR.out.mono D7.out.size, D7.out.trans (XR.out.mono D7.out.size)⟩
   ·have q6 : (n : Int) ≤ (k : Int) := by omega
    have q7 : decide ((k : Int) < (n : Int)) = false := decide_eq_false (by omega)
    have hca : cutR a k = [] := by unfold cutR; rw [if_neg (by omega)]
    go_wp2_with fail
    have HCH : Hid (chList a b k = ([] : List Rcd) ++ entFrom b k (b.ents.length - k)) := by unfold Hid chList; rw [HHR.out, hca, List.append_nil]
    refine (cE w4 k hpre.kb (HV1.out.on (D4.out.mono HB.out)) (Nat.le_trans HB.out D4.out.size)).mono ?_
    rintro e w5 ⟨ue, rfl, hOe, hbq⟩
    have D5 : Hid (Below w.heap.size w w5) := D4.out.trans (hbq.mono D4.out.size)
    have L5 : Hid (Owns w5 (w.heap.size + 2) 54 1 (.slice none 0 0) (kindR (([] : List Rcd)))) := L4.out.on hbq
    have U5 : Hid (Lies w5 w5.heap.size 1 ue (kindR (entFrom b k (b.ents.length - k)))) := hOe.lies
    have Y5 : Hid (w.heap.size + 2 ≤ w5.heap.size) := by have h1 := E4.out.size; have h2 := Z0.out; have h3 := hbq.size; unfold Hid; omega
    have HLN : Hid ((kindR (([] : List Rcd))).length + (kindR (entFrom b k (b.ents.length - k))).length ≤ 2097152) := by
     have h1 := chList_length a b k n60b
     rw [HCH.out, List.length_append] at h1
     unfold Hid
     rw [kindR_length, kindR_length]
     omega
    have HON : Hid (∀ r ∈ kindR (entFrom b k (b.ents.length - k)), ∀ y ∈ r, y.oneCell' = true) := by
     intro r hr y hy
     obtain ⟨q, hq, rfl⟩ := List.mem_map.1 hr
     obtain ⟨i, _, rfl⟩ := List.mem_map.1 hq
     simp only [List.mem_cons, List.not_mem_nil, or_false] at hy
     subst hy
     rw [kindV_at]
     rfl
    have HKC : Hid (kindR (([] : List Rcd)) ++ kindR (entFrom b k (b.ents.length - k)) = kindR (chList a b k)) := by unfold Hid; rw [HCH.out]; exact (kindR_append _ _).symm
    have qc : ((chList a b k).length : Int) ≤ 62 := by have := chList_length a b k n60b; omega
    clear hOe hbq a0 a1 a2 a3 a4 b0 b1 b2 b3 b4
    go_wp2_with (at_builtin; refine wpList_append_all rfl (.tmp 75) (.tmp 78) 46 54 .nilIface 1 16 rfl Try.underlying46 Try.infoRec rfl (by omega) (w.heap.size + 2) _ ue (kindR (([] : List Rcd))) (kindR (entFrom b k (b.ents.length - k))) w5.heap.size rfl L5.out U5.out HON.out rfl HLN.out (by omega) Y5.out ?_; intro lv w6 hO hb hk hw; rw [HKC.out] at hO; obtain ⟨lA, lc, rfl, hlook⟩ := kind_look hO)
    have D6 : Hid (Below w.heap.size w w6) := D5.out.trans (hb.mono (by omega))
    have L6 : Hid (Owns w6 (w.heap.size + 2) 54 1 (.slice lA (chList a b k).length lc) (kindR (chList a b k))) := hO
    have RR : Hid (∀ r ∈ chList a b k, ChRec r) := chList_rec a b k hdb hpre.kb
    have HK : Hid (ChAns a b (chList a b k) true) := .inl ⟨rfl, hok, k, hpre, rfl⟩
    clear hO hb hk hw hlook HLN HON HKC HCH D5 L5 U5 Y5 L4 E4 D4
    generalize hN : chList a b k = cl at *
    generalize hNN : cl.length = N at *
    have DX : Hid (Below w6.heap.size w6 w6) := Below.refl _ _
    go_loopw [9, 81] (fun v9 v81 wr => ∃ j : Nat, j ≤ N ∧ v81 = .int .i64 (j : Int) ∧ Owns wr w6.heap.size 35 5 v9 (rcdR (cl.take j)) ∧ Below w6.heap.size w6 wr) (fun _ i _ => N - (intOf i).toNat)
    case atStart => exact ⟨0, by omega, rfl, Owns.nil _ _ _ _, DX.out⟩
    case round =>
     obtain ⟨j, hj, rfl, hO, hX⟩ := hrel
     have OR : Hid (Owns wr w6.heap.size 35 5 _ (rcdR (cl.take j))) := hO
     have XR : Hid (Below w6.heap.size w6 wr) := hX
     obtain ⟨sA, sm, sc, rfl⟩ := hO.shape
     clear hO hX
     by_cases hlt : j < N
     ·have q4 : (j : Int) < (N : Int) := by omega
      obtain ⟨A', cap', e', hlook⟩ := kind_look L6.out
      injection e' with ea eb ec
      subst ea
      subst ec
      obtain ⟨g, rfl, hg, _, hcell⟩ := hlook j (by omega)
      rw [← XR.out.cell (p := ⟨_, _, none⟩) hg] at hcell
      have hrec := RR.out (cl.getD j ⟨0, 0, 0, 0, ByteArray.empty⟩) (by rw [List.getD_eq_getElem?_getD, List.getElem?_eq_getElem (show j < cl.length by omega)]; exact List.getElem_mem _)
      have HTK : Hid (rcdR (cl.take (j + 1)) = rcdR (cl.take j) ++ [rcdC (cl.getD j ⟨0, 0, 0, 0, ByteArray.empty⟩)]) := rcdR_take cl j (by omega)
      have HTL : Hid ((rcdR (cl.take j)).length ≤ 2097152) := by unfold Hid rcdR; rw [List.length_map, List.length_take]; omega
      generalize cl.getD j ⟨0, 0, 0, 0, ByteArray.empty⟩ = r at *
      have cT := fun wx => told_any r hrec wx
      generalize hkv : kindV r = kv at *
      unfold vRcd at cT
      clear hlook eb hg hrec hkv
      go_wp2_with fail
      refine (cT _).mono ?_
      rintro e wt ⟨rfl, hbt⟩
      have OT : Hid (Owns wt w6.heap.size 35 5 (.slice sA sm sc) (rcdR (cl.take j))) := OR.out.on hbt
      have XT : Hid (Below w6.heap.size w6 wt) := XR.out.trans (hbt.mono XR.out.size)
      have hsz := XT.out.size
      clear hbt hcell
      go_wp2_with (at_builtin; refine wpList_append_row rfl (.tmp 85) (.tmp 88) 29 35 (.agg #[.int .i64 0, .int .i64 0, .int .i64 0, .int .i64 0, .string ⟨#[]⟩]) 5 48 rfl Try.underlying29 Try.infoRcd rfl (by omega) w6.heap.size _ (rcdR (cl.take j)) rfl OT.out (rcdC r) rfl (by intro y hy; simp [rcdC] at hy; rcases hy with rfl | rfl | rfl | rfl | rfl <;> rfl) rfl HTL.out (by omega) hsz ?_; intro v' w4 hO4 hb4 _ _)
      have hX4 : Below w6.heap.size w6 w4 := XT.out.trans hb4
      rw [← HTK.out] at hO4
      go_roundw
      case rel => exact ⟨j + 1, by omega, by go_num, hO4, hX4⟩
      case measure => simp [intOf]; omega
     ·obtain rfl : j = N := by omega
      have HTT : Hid (rcdR (cl.take j) = rcdR cl) := by unfold Hid; rw [List.take_of_length_le (by omega)]
      rw [HTT.out] at OR
      go_wp2_with fail
      exact bodyPost_ret (v := .tuple #[.slice sA sm sc, .bool true]) (by simp [results, go_sem]) rfl ⟨cl, true, _, HK.out, rfl, OR.out.mono D6.out.size, D6.out.trans (XR.out.mono D6.out.size)⟩
  ·have hsame : ¬ (a.term = a.term ∧ a.vote = bv) := fun h => hvv h.2
   have z5 : (bv == a.vote) = false := by rw [beq_eq_false_iff_ne]; exact fun e => hvv e.symm
   clear hvv
   have D3 : Hid (Below w.heap.size w (w2.alloc (.cells #[.int .i64 a.term, .int .i64 bv] 48))) := D2.out.alloc D2.out.size _
   have E3 : Hid (Below (w.heap.size + 2) w0 (w2.alloc (.cells #[.int .i64 a.term, .int .i64 bv] 48))) := E2.out.alloc (by have := E2.out.size; have := Z0.out; omega) _
   have H3 : Hid (Blk (w2.alloc (.cells #[.int .i64 a.term, .int .i64 bv] 48)) w2.heap.size #[.int .i64 a.term, .int .i64 bv] 48) := Blk.new _ _ _
   have h0 := H3.out.cell 0 (.int .i64 a.term) rfl
   have h1 := H3.out.cell 1 (.int .i64 bv) rfl
   have x0 := (KA.out.on E3.out (by omega)).cell 0 (.int .i64 a.term) rfl
   have x1 := (KA.out.on E3.out (by omega)).cell 1 (.int .i64 a.vote) rfl
   have x2 := (KA.out.on E3.out (by omega)).cell 2 (.int .i64 a.base) rfl
   have x3 := (KA.out.on E3.out (by omega)).cell 3 (.int .i64 a.bterm) rfl
   have x4 := (KA.out.on E3.out (by omega)).cell 4 (.slice A n cap) rfl
   have X0 := (KB.out.on E3.out (by omega)).cell 0 (.int .i64 a.term) rfl
   have X1 := (KB.out.on E3.out (by omega)).cell 1 (.int .i64 bv) rfl
   have X2 := (KB.out.on E3.out (by omega)).cell 2 (.int .i64 a.base) rfl
   have X3 := (KB.out.on E3.out (by omega)).cell 3 (.int .i64 a.bterm) rfl
   have X4 := (KB.out.on E3.out (by omega)).cell 4 (.slice A1 m cap1) rfl
   have hh : hardR a b = [⟨1, a.term, 0, bv, ⟨#[]⟩⟩] := HHD.out hsame
   have cF := fun wx hx hb => hardFits (a.term) 0 (bv) ⟨#[]⟩ a (.agg #[.int .i64 a.term, .int .i64 a.vote, .int .i64 a.base, .int .i64 a.bterm, .slice A n cap]) wx B hx n60 base0 base1 hb
   cases hfit : recFits a ⟨1, a.term, 0, bv, ⟨#[]⟩⟩
   ·rw [hfit] at cF
    have hno : ¬ chOk a b := fun h => (HNO.out h).2.2.elim hsame fun g => by rw [hfit] at g; cases g
    go_wp2_with fail
    clear h0 h1 x0 x1 x2 x3 x4 X0 X1 X2 X3 X4 hsame hfit
    generalize w2.alloc (.cells #[.int .i64 a.term, .int .i64 bv] 48) = w3 at *
    refine (cF w3 (HV.out.on (D3.out.mono HB.out)) (Nat.le_trans HB.out D3.out.size)).mono ?_
    rintro e w4 ⟨rfl, hb4⟩
    have D4 : Hid (Below w.heap.size w w4) := D3.out.trans (hb4.mono D3.out.size)
    go_wp2_with fail
    exact bodyPost_ret (v := .tuple #[.slice none 0 0, .bool false]) (by simp [results, go_sem]) rfl ⟨[], false, _, .inr ⟨rfl, (hno), rfl⟩, rfl, Owns.nil _ _ _ _, D4.out⟩
   ·rw [hfit] at cF
    have hok : chOk a b := HCO.out rfl rfl (.inr hfit)
    go_wp2_with fail
    clear h0 h1 x0 x1 x2 x3 x4 X0 X1 X2 X3 X4 hsame hfit z5 a0 a1 a2 a3 a4 b0 b1 b2 b3 b4
    generalize w2.alloc (.cells #[.int .i64 a.term, .int .i64 bv] 48) = w3 at *
    generalize w2.heap.size = gh at *
    refine (cF w3 (HV.out.on (D3.out.mono HB.out)) (Nat.le_trans HB.out D3.out.size)).mono ?_
    rintro e w4 ⟨rfl, hb4⟩
    have D4 : Hid (Below w.heap.size w w4) := D3.out.trans (hb4.mono D3.out.size)
    have E4 : Hid (Below (w.heap.size + 2) w0 w4) := E3.out.trans (hb4.mono (by have := E3.out.size; have := Z0.out; omega))
    have H4 : Hid (Blk w4 gh #[.int .i64 a.term, .int .i64 bv] 48) := H3.out.on hb4 H3.out.lt
    clear hb4 cF
    have h0 := H4.out.cell 0 (.int .i64 a.term) rfl
    have h1 := H4.out.cell 1 (.int .i64 bv) rfl
    have Y4 : w.heap.size + 2 ≤ w4.heap.size := by have h1 := E4.out.size; have h2 := Z0.out; omega
    have L4 : Hid (Owns w4 (w.heap.size + 2) 54 1 (.slice none 0 0) (kindR ([] : List Rcd))) := Owns.nil _ _ _ _
    go_wp2_with (at_builtin; refine wpList_append_row rfl (.tmp 50) (.tmp 53) 46 54 .nilIface 1 16 rfl Try.underlying46 Try.infoRec rfl (by omega) (w.heap.size + 2) _ (kindR ([] : List Rcd)) rfl L4.out [.iface 48 (.agg #[.int .i64 a.term, .int .i64 bv])] rfl (by intro y hy; simp at hy; subst hy; rfl) rfl (Nat.zero_le _) (by omega) Y4 ?_; intro lvh w5 hO hb hk hw; have E5 : Hid (Below (w.heap.size + 2) w0 w5) := E4.out.trans hb; have a0 := (KA.out.on E5.out (by omega)).cell 0 (.int .i64 a.term) rfl; have a1 := (KA.out.on E5.out (by omega)).cell 1 (.int .i64 a.vote) rfl; have a2 := (KA.out.on E5.out (by omega)).cell 2 (.int .i64 a.base) rfl; have a3 := (KA.out.on E5.out (by omega)).cell 3 (.int .i64 a.bterm) rfl; have a4 := (KA.out.on E5.out (by omega)).cell 4 (.slice A n cap) rfl; have b0 := (KB.out.on E5.out (by omega)).cell 0 (.int .i64 a.term) rfl; have b1 := (KB.out.on E5.out (by omega)).cell 1 (.int .i64 bv) rfl; have b2 := (KB.out.on E5.out (by omega)).cell 2 (.int .i64 a.base) rfl; have b3 := (KB.out.on E5.out (by omega)).cell 3 (.int .i64 a.bterm) rfl; have b4 := (KB.out.on E5.out (by omega)).cell 4 (.slice A1 m cap1) rfl)
    have D5 : Hid (Below w.heap.size w w5) := D4.out.trans (hb.mono (by omega))
    have L5 : Hid (Owns w5 (w.heap.size + 2) 54 1 lvh (kindR [⟨1, a.term, 0, bv, ⟨#[]⟩⟩])) := hO
    clear hO hb hk hw h0 h1
    refine (alikeV a.ents b.ents _ _ w5 B (HL.out.on (D5.out.mono HB.out)) (HL1.out.on (D5.out.mono HB.out)) n60 n60b (Nat.le_trans HB.out D5.out.size)).mono ?_
    rintro e w6 ⟨k, hpre, rfl, hb⟩
    have D6 : Hid (Below w.heap.size w w6) := D5.out.trans (hb.mono D5.out.size)
    have E6 : Hid (Below (w.heap.size + 2) w0 w6) := E5.out.trans (hb.mono (by have := E5.out.size; have := Z0.out; omega))
    have L6 : Hid (Owns w6 (w.heap.size + 2) 54 1 (lvh) (kindR ([(⟨1, a.term, 0, bv, ⟨#[]⟩⟩ : Rcd)]))) := L5.out.on hb
    clear hb a0 a1 a2 a3 a4 b0 b1 b2 b3 b4
    have a0 := (KA.out.on E6.out (by omega)).cell 0 (.int .i64 a.term) rfl
    have a1 := (KA.out.on E6.out (by omega)).cell 1 (.int .i64 a.vote) rfl
    have a2 := (KA.out.on E6.out (by omega)).cell 2 (.int .i64 a.base) rfl
    have a3 := (KA.out.on E6.out (by omega)).cell 3 (.int .i64 a.bterm) rfl
    have a4 := (KA.out.on E6.out (by omega)).cell 4 (.slice A n cap) rfl
    have b0 := (KB.out.on E6.out (by omega)).cell 0 (.int .i64 a.term) rfl
    have b1 := (KB.out.on E6.out (by omega)).cell 1 (.int .i64 bv) rfl
    have b2 := (KB.out.on E6.out (by omega)).cell 2 (.int .i64 a.base) rfl
    have b3 := (KB.out.on E6.out (by omega)).cell 3 (.int .i64 a.bterm) rfl
    have b4 := (KB.out.on E6.out (by omega)).cell 4 (.slice A1 m cap1) rfl
    have HHR : Hid (hardR a b = [(⟨1, a.term, 0, bv, ⟨#[]⟩⟩ : Rcd)]) := hh
    have hka := hpre.ka
    by_cases hkn : k < n
    ·have q6 : (k : Int) < (n : Int) := by omega
     have hca : cutR a k = [⟨3, 0, a.base + (k : Int) + 1, 0, ⟨#[]⟩⟩] := by unfold cutR; rw [if_pos (by omega)]
     have y1 : wrap64 (a.base + (k : Int)) = a.base + (k : Int) := by unfold wrap64; omega
     have y2 : wrap64 (a.base + (k : Int) + 1) = a.base + (k : Int) + 1 := by unfold wrap64; omega
     have Y6 : w.heap.size + 2 ≤ w6.heap.size := by have h1 := E6.out.size; have h2 := Z0.out; omega
     have HLC : Hid ((kindR ([(⟨1, a.term, 0, bv, ⟨#[]⟩⟩ : Rcd)])).length ≤ 2097152) := by unfold Hid; rw [kindR_length]; simp
     have HKK : Hid (kindR ([(⟨1, a.term, 0, bv, ⟨#[]⟩⟩ : Rcd)]) ++ [[.iface 51 (.agg #[.int .i64 (a.base + (k : Int) + 1)])]] = kindR ([(⟨1, a.term, 0, bv, ⟨#[]⟩⟩ : Rcd)] ++ cutR a k)) := by unfold Hid; rw [hca, kindR_append]; rfl
     clear hca
     go_wp2_with (at_builtin; refine wpList_append_row rfl (.tmp 65) (.tmp 73) 46 54 .nilIface 1 16 rfl Try.underlying46 Try.infoRec rfl (by omega) (w.heap.size + 2) _ (kindR ([(⟨1, a.term, 0, bv, ⟨#[]⟩⟩ : Rcd)])) rfl L6.out [.iface 51 (.agg #[.int .i64 (a.base + (k : Int) + 1)])] rfl (by intro y hy; simp at hy; subst hy; rfl) rfl HLC.out (by omega) Y6 ?_; intro lvc w7 hO hb hk hw; have E7 : Hid (Below (w.heap.size + 2) w0 w7) := E6.out.trans hb; have c0 := (KB.out.on E7.out (by omega)).cell 0 (.int .i64 a.term) rfl; have c1 := (KB.out.on E7.out (by omega)).cell 1 (.int .i64 bv) rfl; have c2 := (KB.out.on E7.out (by omega)).cell 2 (.int .i64 a.base) rfl; have c3 := (KB.out.on E7.out (by omega)).cell 3 (.int .i64 a.bterm) rfl; have c4 := (KB.out.on E7.out (by omega)).cell 4 (.slice A1 m cap1) rfl)
     have D7 : Hid (Below w.heap.size w w7) := D6.out.trans (hb.mono (by omega))
     have L7 : Hid (Owns w7 (w.heap.size + 2) 54 1 lvc (kindR ([(⟨1, a.term, 0, bv, ⟨#[]⟩⟩ : Rcd)] ++ cutR a k))) := by unfold Hid; rw [← HKK.out]; exact hO
     clear hO hb hk hw c0 c1 c2 c3 c4 HKK HLC y1 y2
     have HCH : Hid (chList a b k = [(⟨1, a.term, 0, bv, ⟨#[]⟩⟩ : Rcd)] ++ cutR a k ++ entFrom b k (b.ents.length - k)) := by unfold Hid chList; rw [HHR.out]
     refine (cE w7 k hpre.kb (HV1.out.on (D7.out.mono HB.out)) (Nat.le_trans HB.out D7.out.size)).mono ?_
     rintro e w8 ⟨ue, rfl, hOe, hbq⟩
     have D8 : Hid (Below w.heap.size w w8) := D7.out.trans (hbq.mono D7.out.size)
     have L8 : Hid (Owns w8 (w.heap.size + 2) 54 1 (lvc) (kindR ([(⟨1, a.term, 0, bv, ⟨#[]⟩⟩ : Rcd)] ++ cutR a k))) := L7.out.on hbq
     have U8 : Hid (Lies w8 w8.heap.size 1 ue (kindR (entFrom b k (b.ents.length - k)))) := hOe.lies
     have Y8 : Hid (w.heap.size + 2 ≤ w8.heap.size) := by have h1 := E7.out.size; have h2 := Z0.out; have h3 := hbq.size; unfold Hid; omega
     have HLN : Hid ((kindR ([(⟨1, a.term, 0, bv, ⟨#[]⟩⟩ : Rcd)] ++ cutR a k)).length + (kindR (entFrom b k (b.ents.length - k))).length ≤ 2097152) := by
      have h1 := chList_length a b k n60b
      rw [HCH.out, List.length_append] at h1
      unfold Hid
      rw [kindR_length, kindR_length]
      omega
     have HON : Hid (∀ r ∈ kindR (entFrom b k (b.ents.length - k)), ∀ y ∈ r, y.oneCell' = true) := by
      intro r hr y hy
      obtain ⟨q, hq, rfl⟩ := List.mem_map.1 hr
      obtain ⟨i, _, rfl⟩ := List.mem_map.1 hq
      simp only [List.mem_cons, List.not_mem_nil, or_false] at hy
      subst hy
      rw [kindV_at]
      rfl
     have HKC : Hid (kindR ([(⟨1, a.term, 0, bv, ⟨#[]⟩⟩ : Rcd)] ++ cutR a k) ++ kindR (entFrom b k (b.ents.length - k)) = kindR (chList a b k)) := by unfold Hid; rw [HCH.out]; exact (kindR_append _ _).symm
     have qc : ((chList a b k).length : Int) ≤ 62 := by have := chList_length a b k n60b; omega
     clear hOe hbq a0 a1 a2 a3 a4 b0 b1 b2 b3 b4
     go_wp2_with (at_builtin; refine wpList_append_all rfl (.tmp 75) (.tmp 78) 46 54 .nilIface 1 16 rfl Try.underlying46 Try.infoRec rfl (by omega) (w.heap.size + 2) _ ue (kindR ([(⟨1, a.term, 0, bv, ⟨#[]⟩⟩ : Rcd)] ++ cutR a k)) (kindR (entFrom b k (b.ents.length - k))) w8.heap.size rfl L8.out U8.out HON.out rfl HLN.out (by omega) Y8.out ?_; intro lv w9 hO hb hk hw; rw [HKC.out] at hO; obtain ⟨lA, lc, rfl, hlook⟩ := kind_look hO)
     have D9 : Hid (Below w.heap.size w w9) := D8.out.trans (hb.mono (by omega))
     have L9 : Hid (Owns w9 (w.heap.size + 2) 54 1 (.slice lA (chList a b k).length lc) (kindR (chList a b k))) := hO
     have RR : Hid (∀ r ∈ chList a b k, ChRec r) := chList_rec a b k hdb hpre.kb
     have HK : Hid (ChAns a b (chList a b k) true) := .inl ⟨rfl, hok, k, hpre, rfl⟩
     clear hO hb hk hw hlook HLN HON HKC HCH D8 L8 U8 Y8 L7 E7 D7
     generalize hN : chList a b k = cl at *
     generalize hNN : cl.length = N at *
     have DX : Hid (Below w9.heap.size w9 w9) := Below.refl _ _
     go_loopw [9, 81] (fun v9 v81 wr => ∃ j : Nat, j ≤ N ∧ v81 = .int .i64 (j : Int) ∧ Owns wr w9.heap.size 35 5 v9 (rcdR (cl.take j)) ∧ Below w9.heap.size w9 wr) (fun _ i _ => N - (intOf i).toNat)
     case atStart => exact ⟨0, by omega, rfl, Owns.nil _ _ _ _, DX.out⟩
     case round =>
      obtain ⟨j, hj, rfl, hO, hX⟩ := hrel
      have OR : Hid (Owns wr w9.heap.size 35 5 _ (rcdR (cl.take j))) := hO
      have XR : Hid (Below w9.heap.size w9 wr) := hX
      obtain ⟨sA, sm, sc, rfl⟩ := hO.shape
      clear hO hX
      by_cases hlt : j < N
      ·have q4 : (j : Int) < (N : Int) := by omega
       obtain ⟨A', cap', e', hlook⟩ := kind_look L9.out
       injection e' with ea eb ec
       subst ea
       subst ec
       obtain ⟨g, rfl, hg, _, hcell⟩ := hlook j (by omega)
       rw [← XR.out.cell (p := ⟨_, _, none⟩) hg] at hcell
       have hrec := RR.out (cl.getD j ⟨0, 0, 0, 0, ByteArray.empty⟩) (by rw [List.getD_eq_getElem?_getD, List.getElem?_eq_getElem (show j < cl.length by omega)]; exact List.getElem_mem _)
       have HTK : Hid (rcdR (cl.take (j + 1)) = rcdR (cl.take j) ++ [rcdC (cl.getD j ⟨0, 0, 0, 0, ByteArray.empty⟩)]) := rcdR_take cl j (by omega)
       have HTL : Hid ((rcdR (cl.take j)).length ≤ 2097152) := by unfold Hid rcdR; rw [List.length_map, List.length_take]; omega
       generalize cl.getD j ⟨0, 0, 0, 0, ByteArray.empty⟩ = r at *
       have cT := fun wx => told_any r hrec wx
       generalize hkv : kindV r = kv at *
       unfold vRcd at cT
       clear hlook eb hg hrec hkv
       go_wp2_with fail
       refine (cT _).mono ?_
       rintro e wt ⟨rfl, hbt⟩
       have OT : Hid (Owns wt w9.heap.size 35 5 (.slice sA sm sc) (rcdR (cl.take j))) := OR.out.on hbt
       have XT : Hid (Below w9.heap.size w9 wt) := XR.out.trans (hbt.mono XR.out.size)
       have hsz := XT.out.size
       clear hbt hcell
       go_wp2_with (at_builtin; refine wpList_append_row rfl (.tmp 85) (.tmp 88) 29 35 (.agg #[.int .i64 0, .int .i64 0, .int .i64 0, .int .i64 0, .string ⟨#[]⟩]) 5 48 rfl Try.underlying29 Try.infoRcd rfl (by omega) w9.heap.size _ (rcdR (cl.take j)) rfl OT.out (rcdC r) rfl (by intro y hy; simp [rcdC] at hy; rcases hy with rfl | rfl | rfl | rfl | rfl <;> rfl) rfl HTL.out (by omega) hsz ?_; intro v' w4 hO4 hb4 _ _)
       have hX4 : Below w9.heap.size w9 w4 := XT.out.trans hb4
       rw [← HTK.out] at hO4
       go_roundw
       case rel => exact ⟨j + 1, by omega, by go_num, hO4, hX4⟩
       case measure => simp [intOf]; omega
      ·obtain rfl : j = N := by omega
       have HTT : Hid (rcdR (cl.take j) = rcdR cl) := by unfold Hid; rw [List.take_of_length_le (by omega)]
       rw [HTT.out] at OR
       go_wp2_with fail
       exact bodyPost_ret (v := .tuple #[.slice sA sm sc, .bool true]) (by simp [results, go_sem]) rfl ⟨cl, true, _, HK.out, rfl, OR.out.mono D9.out.size, D9.out.trans (XR.out.mono D9.out.size)⟩
    ·have q6 : (n : Int) ≤ (k : Int) := by omega
     have q7 : decide ((k : Int) < (n : Int)) = false := decide_eq_false (by omega)
     have hca : cutR a k = [] := by unfold cutR; rw [if_neg (by omega)]
     go_wp2_with fail
     have HCH : Hid (chList a b k = [(⟨1, a.term, 0, bv, ⟨#[]⟩⟩ : Rcd)] ++ entFrom b k (b.ents.length - k)) := by unfold Hid chList; rw [HHR.out, hca, List.append_nil]
     refine (cE w6 k hpre.kb (HV1.out.on (D6.out.mono HB.out)) (Nat.le_trans HB.out D6.out.size)).mono ?_
     rintro e w7 ⟨ue, rfl, hOe, hbq⟩
     have D7 : Hid (Below w.heap.size w w7) := D6.out.trans (hbq.mono D6.out.size)
     have L7 : Hid (Owns w7 (w.heap.size + 2) 54 1 (lvh) (kindR ([(⟨1, a.term, 0, bv, ⟨#[]⟩⟩ : Rcd)]))) := L6.out.on hbq
     have U7 : Hid (Lies w7 w7.heap.size 1 ue (kindR (entFrom b k (b.ents.length - k)))) := hOe.lies
     have Y7 : Hid (w.heap.size + 2 ≤ w7.heap.size) := by have h1 := E6.out.size; have h2 := Z0.out; have h3 := hbq.size; unfold Hid; omega
     have HLN : Hid ((kindR ([(⟨1, a.term, 0, bv, ⟨#[]⟩⟩ : Rcd)])).length + (kindR (entFrom b k (b.ents.length - k))).length ≤ 2097152) := by
      have h1 := chList_length a b k n60b
      rw [HCH.out, List.length_append] at h1
      unfold Hid
      rw [kindR_length, kindR_length]
      omega
     have HON : Hid (∀ r ∈ kindR (entFrom b k (b.ents.length - k)), ∀ y ∈ r, y.oneCell' = true) := by
      intro r hr y hy
      obtain ⟨q, hq, rfl⟩ := List.mem_map.1 hr
      obtain ⟨i, _, rfl⟩ := List.mem_map.1 hq
      simp only [List.mem_cons, List.not_mem_nil, or_false] at hy
      subst hy
      rw [kindV_at]
      rfl
     have HKC : Hid (kindR ([(⟨1, a.term, 0, bv, ⟨#[]⟩⟩ : Rcd)]) ++ kindR (entFrom b k (b.ents.length - k)) = kindR (chList a b k)) := by unfold Hid; rw [HCH.out]; exact (kindR_append _ _).symm
     have qc : ((chList a b k).length : Int) ≤ 62 := by have := chList_length a b k n60b; omega
     clear hOe hbq a0 a1 a2 a3 a4 b0 b1 b2 b3 b4
     go_wp2_with (at_builtin; refine wpList_append_all rfl (.tmp 75) (.tmp 78) 46 54 .nilIface 1 16 rfl Try.underlying46 Try.infoRec rfl (by omega) (w.heap.size + 2) _ ue (kindR ([(⟨1, a.term, 0, bv, ⟨#[]⟩⟩ : Rcd)])) (kindR (entFrom b k (b.ents.length - k))) w7.heap.size rfl L7.out U7.out HON.out rfl HLN.out (by omega) Y7.out ?_; intro lv w8 hO hb hk hw; rw [HKC.out] at hO; obtain ⟨lA, lc, rfl, hlook⟩ := kind_look hO)
     have D8 : Hid (Below w.heap.size w w8) := D7.out.trans (hb.mono (by omega))
     have L8 : Hid (Owns w8 (w.heap.size + 2) 54 1 (.slice lA (chList a b k).length lc) (kindR (chList a b k))) := hO
     have RR : Hid (∀ r ∈ chList a b k, ChRec r) := chList_rec a b k hdb hpre.kb
     have HK : Hid (ChAns a b (chList a b k) true) := .inl ⟨rfl, hok, k, hpre, rfl⟩
     clear hO hb hk hw hlook HLN HON HKC HCH D7 L7 U7 Y7 L6 E6 D6
     generalize hN : chList a b k = cl at *
     generalize hNN : cl.length = N at *
     have DX : Hid (Below w8.heap.size w8 w8) := Below.refl _ _
     go_loopw [9, 81] (fun v9 v81 wr => ∃ j : Nat, j ≤ N ∧ v81 = .int .i64 (j : Int) ∧ Owns wr w8.heap.size 35 5 v9 (rcdR (cl.take j)) ∧ Below w8.heap.size w8 wr) (fun _ i _ => N - (intOf i).toNat)
     case atStart => exact ⟨0, by omega, rfl, Owns.nil _ _ _ _, DX.out⟩
     case round =>
      obtain ⟨j, hj, rfl, hO, hX⟩ := hrel
      have OR : Hid (Owns wr w8.heap.size 35 5 _ (rcdR (cl.take j))) := hO
      have XR : Hid (Below w8.heap.size w8 wr) := hX
      obtain ⟨sA, sm, sc, rfl⟩ := hO.shape
      clear hO hX
      by_cases hlt : j < N
      ·have q4 : (j : Int) < (N : Int) := by omega
       obtain ⟨A', cap', e', hlook⟩ := kind_look L8.out
       injection e' with ea eb ec
       subst ea
       subst ec
       obtain ⟨g, rfl, hg, _, hcell⟩ := hlook j (by omega)
       rw [← XR.out.cell (p := ⟨_, _, none⟩) hg] at hcell
       have hrec := RR.out (cl.getD j ⟨0, 0, 0, 0, ByteArray.empty⟩) (by rw [List.getD_eq_getElem?_getD, List.getElem?_eq_getElem (show j < cl.length by omega)]; exact List.getElem_mem _)
       have HTK : Hid (rcdR (cl.take (j + 1)) = rcdR (cl.take j) ++ [rcdC (cl.getD j ⟨0, 0, 0, 0, ByteArray.empty⟩)]) := rcdR_take cl j (by omega)
       have HTL : Hid ((rcdR (cl.take j)).length ≤ 2097152) := by unfold Hid rcdR; rw [List.length_map, List.length_take]; omega
       generalize cl.getD j ⟨0, 0, 0, 0, ByteArray.empty⟩ = r at *
       have cT := fun wx => told_any r hrec wx
       generalize hkv : kindV r = kv at *
       unfold vRcd at cT
       clear hlook eb hg hrec hkv
       go_wp2_with fail
       refine (cT _).mono ?_
       rintro e wt ⟨rfl, hbt⟩
       have OT : Hid (Owns wt w8.heap.size 35 5 (.slice sA sm sc) (rcdR (cl.take j))) := OR.out.on hbt
       have XT : Hid (Below w8.heap.size w8 wt) := XR.out.trans (hbt.mono XR.out.size)
       have hsz := XT.out.size
       clear hbt hcell
       go_wp2_with (at_builtin; refine wpList_append_row rfl (.tmp 85) (.tmp 88) 29 35 (.agg #[.int .i64 0, .int .i64 0, .int .i64 0, .int .i64 0, .string ⟨#[]⟩]) 5 48 rfl Try.underlying29 Try.infoRcd rfl (by omega) w8.heap.size _ (rcdR (cl.take j)) rfl OT.out (rcdC r) rfl (by intro y hy; simp [rcdC] at hy; rcases hy with rfl | rfl | rfl | rfl | rfl <;> rfl) rfl HTL.out (by omega) hsz ?_; intro v' w4 hO4 hb4 _ _)
       have hX4 : Below w8.heap.size w8 w4 := XT.out.trans hb4
       rw [← HTK.out] at hO4
       go_roundw
       case rel => exact ⟨j + 1, by omega, by go_num, hO4, hX4⟩
       case measure => simp [intOf]; omega
      ·obtain rfl : j = N := by omega
       have HTT : Hid (rcdR (cl.take j) = rcdR cl) := by unfold Hid; rw [List.take_of_length_le (by omega)]
       rw [HTT.out] at OR
       go_wp2_with fail
       exact bodyPost_ret (v := .tuple #[.slice sA sm sc, .bool true]) (by simp [results, go_sem]) rfl ⟨cl, true, _, HK.out, rfl, OR.out.mono D8.out.size, D8.out.trans (XR.out.mono D8.out.size)⟩
 ·have hsame : ¬ (a.term = bt ∧ a.vote = bv) := fun h => ht h.1
  have z5 : (bt == a.term) = false := by rw [beq_eq_false_iff_ne]; exact fun e => ht e.symm
  clear ht
  have D3 : Hid (Below w.heap.size w (w2.alloc (.cells #[.int .i64 bt, .int .i64 bv] 48))) := D2.out.alloc D2.out.size _
  have E3 : Hid (Below (w.heap.size + 2) w0 (w2.alloc (.cells #[.int .i64 bt, .int .i64 bv] 48))) := E2.out.alloc (by have := E2.out.size; have := Z0.out; omega) _
  have H3 : Hid (Blk (w2.alloc (.cells #[.int .i64 bt, .int .i64 bv] 48)) w2.heap.size #[.int .i64 bt, .int .i64 bv] 48) := Blk.new _ _ _
  have h0 := H3.out.cell 0 (.int .i64 bt) rfl
  have h1 := H3.out.cell 1 (.int .i64 bv) rfl
  have x0 := (KA.out.on E3.out (by omega)).cell 0 (.int .i64 a.term) rfl
  have x1 := (KA.out.on E3.out (by omega)).cell 1 (.int .i64 a.vote) rfl
  have x2 := (KA.out.on E3.out (by omega)).cell 2 (.int .i64 a.base) rfl
  have x3 := (KA.out.on E3.out (by omega)).cell 3 (.int .i64 a.bterm) rfl
  have x4 := (KA.out.on E3.out (by omega)).cell 4 (.slice A n cap) rfl
  have X0 := (KB.out.on E3.out (by omega)).cell 0 (.int .i64 bt) rfl
  have X1 := (KB.out.on E3.out (by omega)).cell 1 (.int .i64 bv) rfl
  have X2 := (KB.out.on E3.out (by omega)).cell 2 (.int .i64 a.base) rfl
  have X3 := (KB.out.on E3.out (by omega)).cell 3 (.int .i64 a.bterm) rfl
  have X4 := (KB.out.on E3.out (by omega)).cell 4 (.slice A1 m cap1) rfl
  have hh : hardR a b = [⟨1, bt, 0, bv, ⟨#[]⟩⟩] := HHD.out hsame
  have cF := fun wx hx hb => hardFits (bt) 0 (bv) ⟨#[]⟩ a (.agg #[.int .i64 a.term, .int .i64 a.vote, .int .i64 a.base, .int .i64 a.bterm, .slice A n cap]) wx B hx n60 base0 base1 hb
  cases hfit : recFits a ⟨1, bt, 0, bv, ⟨#[]⟩⟩
  ·rw [hfit] at cF
   have hno : ¬ chOk a b := fun h => (HNO.out h).2.2.elim hsame fun g => by rw [hfit] at g; cases g
   go_wp2_with fail
   clear h0 h1 x0 x1 x2 x3 x4 X0 X1 X2 X3 X4 hsame hfit
   generalize w2.alloc (.cells #[.int .i64 bt, .int .i64 bv] 48) = w3 at *
   refine (cF w3 (HV.out.on (D3.out.mono HB.out)) (Nat.le_trans HB.out D3.out.size)).mono ?_
   rintro e w4 ⟨rfl, hb4⟩
   have D4 : Hid (Below w.heap.size w w4) := D3.out.trans (hb4.mono D3.out.size)
   go_wp2_with fail
   exact bodyPost_ret (v := .tuple #[.slice none 0 0, .bool false]) (by simp [results, go_sem]) rfl ⟨[], false, _, .inr ⟨rfl, (hno), rfl⟩, rfl, Owns.nil _ _ _ _, D4.out⟩
  ·rw [hfit] at cF
   have hok : chOk a b := HCO.out rfl rfl (.inr hfit)
   go_wp2_with fail
   clear h0 h1 x0 x1 x2 x3 x4 X0 X1 X2 X3 X4 hsame hfit z5 a0 a1 a2 a3 a4 b0 b1 b2 b3 b4
   generalize w2.alloc (.cells #[.int .i64 bt, .int .i64 bv] 48) = w3 at *
   generalize w2.heap.size = gh at *
   refine (cF w3 (HV.out.on (D3.out.mono HB.out)) (Nat.le_trans HB.out D3.out.size)).mono ?_
   rintro e w4 ⟨rfl, hb4⟩
   have D4 : Hid (Below w.heap.size w w4) := D3.out.trans (hb4.mono D3.out.size)
   have E4 : Hid (Below (w.heap.size + 2) w0 w4) := E3.out.trans (hb4.mono (by have := E3.out.size; have := Z0.out; omega))
   have H4 : Hid (Blk w4 gh #[.int .i64 bt, .int .i64 bv] 48) := H3.out.on hb4 H3.out.lt
   clear hb4 cF
   have h0 := H4.out.cell 0 (.int .i64 bt) rfl
   have h1 := H4.out.cell 1 (.int .i64 bv) rfl
   have Y4 : w.heap.size + 2 ≤ w4.heap.size := by have h1 := E4.out.size; have h2 := Z0.out; omega
   have L4 : Hid (Owns w4 (w.heap.size + 2) 54 1 (.slice none 0 0) (kindR ([] : List Rcd))) := Owns.nil _ _ _ _
   go_wp2_with (at_builtin; refine wpList_append_row rfl (.tmp 50) (.tmp 53) 46 54 .nilIface 1 16 rfl Try.underlying46 Try.infoRec rfl (by omega) (w.heap.size + 2) _ (kindR ([] : List Rcd)) rfl L4.out [.iface 48 (.agg #[.int .i64 bt, .int .i64 bv])] rfl (by intro y hy; simp at hy; subst hy; rfl) rfl (Nat.zero_le _) (by omega) Y4 ?_; intro lvh w5 hO hb hk hw; have E5 : Hid (Below (w.heap.size + 2) w0 w5) := E4.out.trans hb; have a0 := (KA.out.on E5.out (by omega)).cell 0 (.int .i64 a.term) rfl; have a1 := (KA.out.on E5.out (by omega)).cell 1 (.int .i64 a.vote) rfl; have a2 := (KA.out.on E5.out (by omega)).cell 2 (.int .i64 a.base) rfl; have a3 := (KA.out.on E5.out (by omega)).cell 3 (.int .i64 a.bterm) rfl; have a4 := (KA.out.on E5.out (by omega)).cell 4 (.slice A n cap) rfl; have b0 := (KB.out.on E5.out (by omega)).cell 0 (.int .i64 bt) rfl; have b1 := (KB.out.on E5.out (by omega)).cell 1 (.int .i64 bv) rfl; have b2 := (KB.out.on E5.out (by omega)).cell 2 (.int .i64 a.base) rfl; have b3 := (KB.out.on E5.out (by omega)).cell 3 (.int .i64 a.bterm) rfl; have b4 := (KB.out.on E5.out (by omega)).cell 4 (.slice A1 m cap1) rfl)
   have D5 : Hid (Below w.heap.size w w5) := D4.out.trans (hb.mono (by omega))
   have L5 : Hid (Owns w5 (w.heap.size + 2) 54 1 lvh (kindR [⟨1, bt, 0, bv, ⟨#[]⟩⟩])) := hO
   clear hO hb hk hw h0 h1
   refine (alikeV a.ents b.ents _ _ w5 B (HL.out.on (D5.out.mono HB.out)) (HL1.out.on (D5.out.mono HB.out)) n60 n60b (Nat.le_trans HB.out D5.out.size)).mono ?_
   rintro e w6 ⟨k, hpre, rfl, hb⟩
   have D6 : Hid (Below w.heap.size w w6) := D5.out.trans (hb.mono D5.out.size)
   have E6 : Hid (Below (w.heap.size + 2) w0 w6) := E5.out.trans (hb.mono (by have := E5.out.size; have := Z0.out; omega))
   have L6 : Hid (Owns w6 (w.heap.size + 2) 54 1 (lvh) (kindR ([(⟨1, bt, 0, bv, ⟨#[]⟩⟩ : Rcd)]))) := L5.out.on hb
   clear hb a0 a1 a2 a3 a4 b0 b1 b2 b3 b4
   have a0 := (KA.out.on E6.out (by omega)).cell 0 (.int .i64 a.term) rfl
   have a1 := (KA.out.on E6.out (by omega)).cell 1 (.int .i64 a.vote) rfl
   have a2 := (KA.out.on E6.out (by omega)).cell 2 (.int .i64 a.base) rfl
   have a3 := (KA.out.on E6.out (by omega)).cell 3 (.int .i64 a.bterm) rfl
   have a4 := (KA.out.on E6.out (by omega)).cell 4 (.slice A n cap) rfl
   have b0 := (KB.out.on E6.out (by omega)).cell 0 (.int .i64 bt) rfl
   have b1 := (KB.out.on E6.out (by omega)).cell 1 (.int .i64 bv) rfl
   have b2 := (KB.out.on E6.out (by omega)).cell 2 (.int .i64 a.base) rfl
   have b3 := (KB.out.on E6.out (by omega)).cell 3 (.int .i64 a.bterm) rfl
   have b4 := (KB.out.on E6.out (by omega)).cell 4 (.slice A1 m cap1) rfl
   have HHR : Hid (hardR a b = [(⟨1, bt, 0, bv, ⟨#[]⟩⟩ : Rcd)]) := hh
   have hka := hpre.ka
   by_cases hkn : k < n
   ·have q6 : (k : Int) < (n : Int) := by omega
    have hca : cutR a k = [⟨3, 0, a.base + (k : Int) + 1, 0, ⟨#[]⟩⟩] := by unfold cutR; rw [if_pos (by omega)]
    have y1 : wrap64 (a.base + (k : Int)) = a.base + (k : Int) := by unfold wrap64; omega
    have y2 : wrap64 (a.base + (k : Int) + 1) = a.base + (k : Int) + 1 := by unfold wrap64; omega
    have Y6 : w.heap.size + 2 ≤ w6.heap.size := by have h1 := E6.out.size; have h2 := Z0.out; omega
    have HLC : Hid ((kindR ([(⟨1, bt, 0, bv, ⟨#[]⟩⟩ : Rcd)])).length ≤ 2097152) := by unfold Hid; rw [kindR_length]; simp
    have HKK : Hid (kindR ([(⟨1, bt, 0, bv, ⟨#[]⟩⟩ : Rcd)]) ++ [[.iface 51 (.agg #[.int .i64 (a.base + (k : Int) + 1)])]] = kindR ([(⟨1, bt, 0, bv, ⟨#[]⟩⟩ : Rcd)] ++ cutR a k)) := by unfold Hid; rw [hca, kindR_append]; rfl
    clear hca
    go_wp2_with (at_builtin; refine wpList_append_row rfl (.tmp 65) (.tmp 73) 46 54 .nilIface 1 16 rfl Try.underlying46 Try.infoRec rfl (by omega) (w.heap.size + 2) _ (kindR ([(⟨1, bt, 0, bv, ⟨#[]⟩⟩ : Rcd)])) rfl L6.out [.iface 51 (.agg #[.int .i64 (a.base + (k : Int) + 1)])] rfl (by intro y hy; simp at hy; subst hy; rfl) rfl HLC.out (by omega) Y6 ?_; intro lvc w7 hO hb hk hw; have E7 : Hid (Below (w.heap.size + 2) w0 w7) := E6.out.trans hb; have c0 := (KB.out.on E7.out (by omega)).cell 0 (.int .i64 bt) rfl; have c1 := (KB.out.on E7.out (by omega)).cell 1 (.int .i64 bv) rfl; have c2 := (KB.out.on E7.out (by omega)).cell 2 (.int .i64 a.base) rfl; have c3 := (KB.out.on E7.out (by omega)).cell 3 (.int .i64 a.bterm) rfl; have c4 := (KB.out.on E7.out (by omega)).cell 4 (.slice A1 m cap1) rfl)
    have D7 : Hid (Below w.heap.size w w7) := D6.out.trans (hb.mono (by omega))
    have L7 : Hid (Owns w7 (w.heap.size + 2) 54 1 lvc (kindR ([(⟨1, bt, 0, bv, ⟨#[]⟩⟩ : Rcd)] ++ cutR a k))) := by unfold Hid; rw [← HKK.out]; exact hO
    clear hO hb hk hw c0 c1 c2 c3 c4 HKK HLC y1 y2
    have HCH : Hid (chList a b k = [(⟨1, bt, 0, bv, ⟨#[]⟩⟩ : Rcd)] ++ cutR a k ++ entFrom b k (b.ents.length - k)) := by unfold Hid chList; rw [HHR.out]
    refine (cE w7 k hpre.kb (HV1.out.on (D7.out.mono HB.out)) (Nat.le_trans HB.out D7.out.size)).mono ?_
    rintro e w8 ⟨ue, rfl, hOe, hbq⟩
    have D8 : Hid (Below w.heap.size w w8) := D7.out.trans (hbq.mono D7.out.size)
    have L8 : Hid (Owns w8 (w.heap.size + 2) 54 1 (lvc) (kindR ([(⟨1, bt, 0, bv, ⟨#[]⟩⟩ : Rcd)] ++ cutR a k))) := L7.out.on hbq
    have U8 : Hid (Lies w8 w8.heap.size 1 ue (kindR (entFrom b k (b.ents.length - k)))) := hOe.lies
    have Y8 : Hid (w.heap.size + 2 ≤ w8.heap.size) := by have h1 := E7.out.size; have h2 := Z0.out; have h3 := hbq.size; unfold Hid; omega
    have HLN : Hid ((kindR ([(⟨1, bt, 0, bv, ⟨#[]⟩⟩ : Rcd)] ++ cutR a k)).length + (kindR (entFrom b k (b.ents.length - k))).length ≤ 2097152) := by
     have h1 := chList_length a b k n60b
     rw [HCH.out, List.length_append] at h1
     unfold Hid
     rw [kindR_length, kindR_length]
     omega
    have HON : Hid (∀ r ∈ kindR (entFrom b k (b.ents.length - k)), ∀ y ∈ r, y.oneCell' = true) := by
     intro r hr y hy
     obtain ⟨q, hq, rfl⟩ := List.mem_map.1 hr
     obtain ⟨i, _, rfl⟩ := List.mem_map.1 hq
     simp only [List.mem_cons, List.not_mem_nil, or_false] at hy
     subst hy
     rw [kindV_at]
     rfl
    have HKC : Hid (kindR ([(⟨1, bt, 0, bv, ⟨#[]⟩⟩ : Rcd)] ++ cutR a k) ++ kindR (entFrom b k (b.ents.length - k)) = kindR (chList a b k)) := by unfold Hid; rw [HCH.out]; exact (kindR_append _ _).symm
    have qc : ((chList a b k).length : Int) ≤ 62 := by have := chList_length a b k n60b; omega
    clear hOe hbq a0 a1 a2 a3 a4 b0 b1 b2 b3 b4
    go_wp2_with (at_builtin; refine wpList_append_all rfl (.tmp 75) (.tmp 78) 46 54 .nilIface 1 16 rfl Try.underlying46 Try.infoRec rfl (by omega) (w.heap.size + 2) _ ue (kindR ([(⟨1, bt, 0, bv, ⟨#[]⟩⟩ : Rcd)] ++ cutR a k)) (kindR (entFrom b k (b.ents.length - k))) w8.heap.size rfl L8.out U8.out HON.out rfl HLN.out (by omega) Y8.out ?_; intro lv w9 hO hb hk hw; rw [HKC.out] at hO; obtain ⟨lA, lc, rfl, hlook⟩ := kind_look hO)
    have D9 : Hid (Below w.heap.size w w9) := D8.out.trans (hb.mono (by omega))
    have L9 : Hid (Owns w9 (w.heap.size + 2) 54 1 (.slice lA (chList a b k).length lc) (kindR (chList a b k))) := hO
    have RR : Hid (∀ r ∈ chList a b k, ChRec r) := chList_rec a b k hdb hpre.kb
    have HK : Hid (ChAns a b (chList a b k) true) := .inl ⟨rfl, hok, k, hpre, rfl⟩
    clear hO hb hk hw hlook HLN HON HKC HCH D8 L8 U8 Y8 L7 E7 D7
    generalize hN : chList a b k = cl at *
    generalize hNN : cl.length = N at *
    have DX : Hid (Below w9.heap.size w9 w9) := Below.refl _ _
    go_loopw [9, 81] (fun v9 v81 wr => ∃ j : Nat, j ≤ N ∧ v81 = .int .i64 (j : Int) ∧ Owns wr w9.heap.size 35 5 v9 (rcdR (cl.take j)) ∧ Below w9.heap.size w9 wr) (fun _ i _ => N - (intOf i).toNat)
    case atStart => exact ⟨0, by omega, rfl, Owns.nil _ _ _ _, DX.out⟩
    case round =>
     obtain ⟨j, hj, rfl, hO, hX⟩ := hrel
     have OR : Hid (Owns wr w9.heap.size 35 5 _ (rcdR (cl.take j))) := hO
     have XR : Hid (Below w9.heap.size w9 wr) := hX
     obtain ⟨sA, sm, sc, rfl⟩ := hO.shape
     clear hO hX
     by_cases hlt : j < N
     ·have q4 : (j : Int) < (N : Int) := by omega
      obtain ⟨A', cap', e', hlook⟩ := kind_look L9.out
      injection e' with ea eb ec
      subst ea
      subst ec
      obtain ⟨g, rfl, hg, _, hcell⟩ := hlook j (by omega)
      rw [← XR.out.cell (p := ⟨_, _, none⟩) hg] at hcell
      have hrec := RR.out (cl.getD j ⟨0, 0, 0, 0, ByteArray.empty⟩) (by rw [List.getD_eq_getElem?_getD, List.getElem?_eq_getElem (show j < cl.length by omega)]; exact List.getElem_mem _)
      have HTK : Hid (rcdR (cl.take (j + 1)) = rcdR (cl.take j) ++ [rcdC (cl.getD j ⟨0, 0, 0, 0, ByteArray.empty⟩)]) := rcdR_take cl j (by omega)
      have HTL : Hid ((rcdR (cl.take j)).length ≤ 2097152) := by unfold Hid rcdR; rw [List.length_map, List.length_take]; omega
      generalize cl.getD j ⟨0, 0, 0, 0, ByteArray.empty⟩ = r at *
      have cT := fun wx => told_any r hrec wx
      generalize hkv : kindV r = kv at *
      unfold vRcd at cT
      clear hlook eb hg hrec hkv
      go_wp2_with fail
      refine (cT _).mono ?_
      rintro e wt ⟨rfl, hbt⟩
      have OT : Hid (Owns wt w9.heap.size 35 5 (.slice sA sm sc) (rcdR (cl.take j))) := OR.out.on hbt
      have XT : Hid (Below w9.heap.size w9 wt) := XR.out.trans (hbt.mono XR.out.size)
      have hsz := XT.out.size
      clear hbt hcell
      go_wp2_with (at_builtin; refine wpList_append_row rfl (.tmp 85) (.tmp 88) 29 35 (.agg #[.int .i64 0, .int .i64 0, .int .i64 0, .int .i64 0, .string ⟨#[]⟩]) 5 48 rfl Try.underlying29 Try.infoRcd rfl (by omega) w9.heap.size _ (rcdR (cl.take j)) rfl OT.out (rcdC r) rfl (by intro y hy; simp [rcdC] at hy; rcases hy with rfl | rfl | rfl | rfl | rfl <;> rfl) rfl HTL.out (by omega) hsz ?_; intro v' w4 hO4 hb4 _ _)
      have hX4 : Below w9.heap.size w9 w4 := XT.out.trans hb4
      rw [← HTK.out] at hO4
      go_roundw
      case rel => exact ⟨j + 1, by omega, by go_num, hO4, hX4⟩
      case measure => simp [intOf]; omega
     ·obtain rfl : j = N := by omega
      have HTT : Hid (rcdR (cl.take j) = rcdR cl) := by unfold Hid; rw [List.take_of_length_le (by omega)]
      rw [HTT.out] at OR
      go_wp2_with fail
      exact bodyPost_ret (v := .tuple #[.slice sA sm sc, .bool true]) (by simp [results, go_sem]) rfl ⟨cl, true, _, HK.out, rfl, OR.out.mono D9.out.size, D9.out.trans (XR.out.mono D9.out.size)⟩
   ·have q6 : (n : Int) ≤ (k : Int) := by omega
    have q7 : decide ((k : Int) < (n : Int)) = false := decide_eq_false (by omega)
    have hca : cutR a k = [] := by unfold cutR; rw [if_neg (by omega)]
    go_wp2_with fail
    have HCH : Hid (chList a b k = [(⟨1, bt, 0, bv, ⟨#[]⟩⟩ : Rcd)] ++ entFrom b k (b.ents.length - k)) := by unfold Hid chList; rw [HHR.out, hca, List.append_nil]
    refine (cE w6 k hpre.kb (HV1.out.on (D6.out.mono HB.out)) (Nat.le_trans HB.out D6.out.size)).mono ?_
    rintro e w7 ⟨ue, rfl, hOe, hbq⟩
    have D7 : Hid (Below w.heap.size w w7) := D6.out.trans (hbq.mono D6.out.size)
    have L7 : Hid (Owns w7 (w.heap.size + 2) 54 1 (lvh) (kindR ([(⟨1, bt, 0, bv, ⟨#[]⟩⟩ : Rcd)]))) := L6.out.on hbq
    have U7 : Hid (Lies w7 w7.heap.size 1 ue (kindR (entFrom b k (b.ents.length - k)))) := hOe.lies
    have Y7 : Hid (w.heap.size + 2 ≤ w7.heap.size) := by have h1 := E6.out.size; have h2 := Z0.out; have h3 := hbq.size; unfold Hid; omega
    have HLN : Hid ((kindR ([(⟨1, bt, 0, bv, ⟨#[]⟩⟩ : Rcd)])).length + (kindR (entFrom b k (b.ents.length - k))).length ≤ 2097152) := by
     have h1 := chList_length a b k n60b
     rw [HCH.out, List.length_append] at h1
     unfold Hid
     rw [kindR_length, kindR_length]
     omega
    have HON : Hid (∀ r ∈ kindR (entFrom b k (b.ents.length - k)), ∀ y ∈ r, y.oneCell' = true) := by
     intro r hr y hy
     obtain ⟨q, hq, rfl⟩ := List.mem_map.1 hr
     obtain ⟨i, _, rfl⟩ := List.mem_map.1 hq
     simp only [List.mem_cons, List.not_mem_nil, or_false] at hy
     subst hy
     rw [kindV_at]
     rfl
    have HKC : Hid (kindR ([(⟨1, bt, 0, bv, ⟨#[]⟩⟩ : Rcd)]) ++ kindR (entFrom b k (b.ents.length - k)) = kindR (chList a b k)) := by unfold Hid; rw [HCH.out]; exact (kindR_append _ _).symm
    have qc : ((chList a b k).length : Int) ≤ 62 := by have := chList_length a b k n60b; omega
    clear hOe hbq a0 a1 a2 a3 a4 b0 b1 b2 b3 b4
    go_wp2_with (at_builtin; refine wpList_append_all rfl (.tmp 75) (.tmp 78) 46 54 .nilIface 1 16 rfl Try.underlying46 Try.infoRec rfl (by omega) (w.heap.size + 2) _ ue (kindR ([(⟨1, bt, 0, bv, ⟨#[]⟩⟩ : Rcd)])) (kindR (entFrom b k (b.ents.length - k))) w7.heap.size rfl L7.out U7.out HON.out rfl HLN.out (by omega) Y7.out ?_; intro lv w8 hO hb hk hw; rw [HKC.out] at hO; obtain ⟨lA, lc, rfl, hlook⟩ := kind_look hO)
    have D8 : Hid (Below w.heap.size w w8) := D7.out.trans (hb.mono (by omega))
    have L8 : Hid (Owns w8 (w.heap.size + 2) 54 1 (.slice lA (chList a b k).length lc) (kindR (chList a b k))) := hO
    have RR : Hid (∀ r ∈ chList a b k, ChRec r) := chList_rec a b k hdb hpre.kb
    have HK : Hid (ChAns a b (chList a b k) true) := .inl ⟨rfl, hok, k, hpre, rfl⟩
    clear hO hb hk hw hlook HLN HON HKC HCH D7 L7 U7 Y7 L6 E6 D6
    generalize hN : chList a b k = cl at *
    generalize hNN : cl.length = N at *
    have DX : Hid (Below w8.heap.size w8 w8) := Below.refl _ _
    go_loopw [9, 81] (fun v9 v81 wr => ∃ j : Nat, j ≤ N ∧ v81 = .int .i64 (j : Int) ∧ Owns wr w8.heap.size 35 5 v9 (rcdR (cl.take j)) ∧ Below w8.heap.size w8 wr) (fun _ i _ => N - (intOf i).toNat)
    case atStart => exact ⟨0, by omega, rfl, Owns.nil _ _ _ _, DX.out⟩
    case round =>
     obtain ⟨j, hj, rfl, hO, hX⟩ := hrel
     have OR : Hid (Owns wr w8.heap.size 35 5 _ (rcdR (cl.take j))) := hO
     have XR : Hid (Below w8.heap.size w8 wr) := hX
     obtain ⟨sA, sm, sc, rfl⟩ := hO.shape
     clear hO hX
     by_cases hlt : j < N
     ·have q4 : (j : Int) < (N : Int) := by omega
      obtain ⟨A', cap', e', hlook⟩ := kind_look L8.out
      injection e' with ea eb ec
      subst ea
      subst ec
      obtain ⟨g, rfl, hg, _, hcell⟩ := hlook j (by omega)
      rw [← XR.out.cell (p := ⟨_, _, none⟩) hg] at hcell
      have hrec := RR.out (cl.getD j ⟨0, 0, 0, 0, ByteArray.empty⟩) (by rw [List.getD_eq_getElem?_getD, List.getElem?_eq_getElem (show j < cl.length by omega)]; exact List.getElem_mem _)
      have HTK : Hid (rcdR (cl.take (j + 1)) = rcdR (cl.take j) ++ [rcdC (cl.getD j ⟨0, 0, 0, 0, ByteArray.empty⟩)]) := rcdR_take cl j (by omega)
      have HTL : Hid ((rcdR (cl.take j)).length ≤ 2097152) := by unfold Hid rcdR; rw [List.length_map, List.length_take]; omega
      generalize cl.getD j ⟨0, 0, 0, 0, ByteArray.empty⟩ = r at *
      have cT := fun wx => told_any r hrec wx
      generalize hkv : kindV r = kv at *
      unfold vRcd at cT
      clear hlook eb hg hrec hkv
      go_wp2_with fail
      refine (cT _).mono ?_
      rintro e wt ⟨rfl, hbt⟩
      have OT : Hid (Owns wt w8.heap.size 35 5 (.slice sA sm sc) (rcdR (cl.take j))) := OR.out.on hbt
      have XT : Hid (Below w8.heap.size w8 wt) := XR.out.trans (hbt.mono XR.out.size)
      have hsz := XT.out.size
      clear hbt hcell
      go_wp2_with (at_builtin; refine wpList_append_row rfl (.tmp 85) (.tmp 88) 29 35 (.agg #[.int .i64 0, .int .i64 0, .int .i64 0, .int .i64 0, .string ⟨#[]⟩]) 5 48 rfl Try.underlying29 Try.infoRcd rfl (by omega) w8.heap.size _ (rcdR (cl.take j)) rfl OT.out (rcdC r) rfl (by intro y hy; simp [rcdC] at hy; rcases hy with rfl | rfl | rfl | rfl | rfl <;> rfl) rfl HTL.out (by omega) hsz ?_; intro v' w4 hO4 hb4 _ _)
      have hX4 : Below w8.heap.size w8 w4 := XT.out.trans hb4
      rw [← HTK.out] at hO4
      go_roundw
      case rel => exact ⟨j + 1, by omega, by go_num, hO4, hX4⟩
      case measure => simp [intOf]; omega
     ·obtain rfl : j = N := by omega
      have HTT : Hid (rcdR (cl.take j) = rcdR cl) := by unfold Hid; rw [List.take_of_length_le (by omega)]
      rw [HTT.out] at OR
      go_wp2_with fail
      exact bodyPost_ret (v := .tuple #[.slice sA sm sc, .bool true]) (by simp [results, go_sem]) rfl ⟨cl, true, _, HK.out, rfl, OR.out.mono D8.out.size, D8.out.trans (XR.out.mono D8.out.size)⟩
end Go.Proofs.Ytfmannphobjgpaa
