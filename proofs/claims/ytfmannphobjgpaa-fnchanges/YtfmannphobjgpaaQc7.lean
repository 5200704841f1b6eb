/- ChSpec -/
import Derived.Test.YtfmannphobjgpaaRows
import Derived.Test.YtfmannphobjgpaaQc6
import Derived.Test.YtfmannphobjgpaaQc5
import Derived.Test.YtfmannphobjgpaaQc4
import Derived.Test.YtfmannphobjgpaaQc0
import Derived.Deep.RegionHeld3
import Derived.Laws.StructEq
open List (setIfInBounds_toArray set_cons_zero set_cons_succ)
namespace Go.Proofs.Ytfmannphobjgpaa
open Go.ChangeShapes Go.WideShapes Go.ChangeAt Go.RowKit Go.PlainAid
set_option linter.unusedVariables false
theorem cell_alloc_keep {w : World} {p : Addr} {x : Value} (h : w.cell? p = some x) (o : Obj) : (w.alloc o).cell? p = some x := by
 rw [((Below.refl w.heap.size w).alloc (Nat.le_refl _) o).cell (World.block_lt_of_cell? _ _ h)]
 exact h
theorem rcd_cells (k t i v : Int) (d : ByteArray) : ∀ u ∈ ([.int .i64 k, .int .i64 t, .int .i64 i, .int .i64 v, .string d] : List Value), u.oneCell' = true := by
 intro u hu
 simp at hu
 rcases hu with rfl | rfl | rfl | rfl | rfl <;> rfl
theorem rcdR_snoc' (l : List Rcd) (r : Rcd) : rcdR (l ++ [r]) = rcdR l ++ [[.int .i64 r.kind, .int .i64 r.term, .int .i64 r.index, .int .i64 r.vote, .string r.data]] := rcdR_append l [r]
theorem Try.infoRcdS : (Try.prog.info? 35).map (fun i => (i.zero, i.size, i.bytes)) = some (some (.agg #[.int .i64 0, .int .i64 0, .int .i64 0, .int .i64 0, .string ⟨#[]⟩]), 5, 48) := by kernel_rfl
set_option maxRecDepth 20000 in
set_option maxHeartbeats 16000000 in
theorem specChanges (a b : Wl) (v v1 : Value) (w : World) (B : Nat) (hv : WalV w B v a) (hv1 : WalV w B v1 b) (hf : FitsW a) (hf1 : FitsW b) (hB : B ≤ w.heap.size) :
  Calls Try.prog 7 #[v, v1] w fun e w' => ∃ l ok u, ChAns a b l ok ∧ e = .returned (.tuple #[u, .bool ok]) ∧ Owns w' w.heap.size 35 5 u (rcdR l) ∧ Below w.heap.size w w' := by
 have HV : Hid (WalV w B v a) := hv
 have HV1 : Hid (WalV w B v1 b) := hv1
 have HB : Hid (B ≤ w.heap.size) := hB
 have cA := fun wx hx hb => specWalOk a v wx B hx hf hb
 have cB := fun wx hx hb => specWalOk b v1 wx B hx hf1 hb
 obtain ⟨u, rfl, hl⟩ := hv
 obtain ⟨u1, rfl, hl1⟩ := hv1
 obtain ⟨A, cap, rfl, hlk⟩ := ent_look hl
 obtain ⟨A1, cap1, rfl, hlk1⟩ := ent_look hl1
 have HL : Hid (∀ j, j < a.ents.length → ∃ g off, A = some ⟨g, off, none⟩ ∧ g < B ∧ _) := hlk
 have HL1 : Hid (∀ j, j < b.ents.length → ∃ g off, A1 = some ⟨g, off, none⟩ ∧ g < B ∧ _) := hlk1
 clear hl hl1 hB hf hf1 hlk hlk1
 generalize hn : a.ents.length = n at *
 generalize hm : b.ents.length = m at *
 have hb0 : Below w.heap.size w ((w.alloc (.cells #[.int .i64 a.term, .int .i64 a.vote, .int .i64 a.base, .int .i64 a.bterm, .slice A n cap] 26)).alloc (.cells #[.int .i64 b.term, .int .i64 b.vote, .int .i64 b.base, .int .i64 b.bterm, .slice A1 m cap1] 26)) := ((Below.refl _ w).alloc (Nat.le_refl _) _).alloc (by simp) _
 have ka := (Blk.new w #[.int .i64 a.term, .int .i64 a.vote, .int .i64 a.base, .int .i64 a.bterm, .slice A n cap] 26).alloc (.cells #[.int .i64 b.term, .int .i64 b.vote, .int .i64 b.base, .int .i64 b.bterm, .slice A1 m cap1] 26)
 have kb := Blk.new (w.alloc (.cells #[.int .i64 a.term, .int .i64 a.vote, .int .i64 a.base, .int .i64 a.bterm, .slice A n cap] 26)) #[.int .i64 b.term, .int .i64 b.vote, .int .i64 b.base, .int .i64 b.bterm, .slice A1 m cap1] 26
 have hsz : ((w.alloc (.cells #[.int .i64 a.term, .int .i64 a.vote, .int .i64 a.base, .int .i64 a.bterm, .slice A n cap] 26)).alloc (.cells #[.int .i64 b.term, .int .i64 b.vote, .int .i64 b.base, .int .i64 b.bterm, .slice A1 m cap1] 26)).heap.size = w.heap.size + 1 + 1 := by simp
 simp only [World.size_alloc] at kb
 have he := Owns.empty ((w.alloc (.cells #[.int .i64 a.term, .int .i64 a.vote, .int .i64 a.base, .int .i64 a.bterm, .slice A n cap] 26)).alloc (.cells #[.int .i64 b.term, .int .i64 b.vote, .int .i64 b.base, .int .i64 b.bterm, .slice A1 m cap1] 26)) (w.heap.size + 2) 35 5 (by simp)
 have b00 : Below (w.heap.size + 2) ((w.alloc (.cells #[.int .i64 a.term, .int .i64 a.vote, .int .i64 a.base, .int .i64 a.bterm, .slice A n cap] 26)).alloc (.cells #[.int .i64 b.term, .int .i64 b.vote, .int .i64 b.base, .int .i64 b.bterm, .slice A1 m cap1] 26)) (((w.alloc (.cells #[.int .i64 a.term, .int .i64 a.vote, .int .i64 a.base, .int .i64 a.bterm, .slice A n cap] 26)).alloc (.cells #[.int .i64 b.term, .int .i64 b.vote, .int .i64 b.base, .int .i64 b.bterm, .slice A1 m cap1] 26)).alloc (.cells #[] 35)) := (Below.refl _ _).alloc (by simp) _
 rw [hsz] at he
 go_enter Try.func7, Try.ntmps7
 go_wp2_with fail
 generalize (w.alloc (.cells #[.int .i64 a.term, .int .i64 a.vote, .int .i64 a.base, .int .i64 a.bterm, .slice A n cap] 26)).alloc (.cells #[.int .i64 b.term, .int .i64 b.vote, .int .i64 b.base, .int .i64 b.bterm, .slice A1 m cap1] 26) = w0 at *
 have D0 : Hid (Below w.heap.size w w0) := hb0
 have KA : Hid (Blk w0 w.heap.size #[.int .i64 a.term, .int .i64 a.vote, .int .i64 a.base, .int .i64 a.bterm, .slice A n cap] 26) := ka
 have KB : Hid (Blk w0 (w.heap.size + 1) #[.int .i64 b.term, .int .i64 b.vote, .int .i64 b.base, .int .i64 b.bterm, .slice A1 m cap1] 26) := kb
 have Z0 : Hid (w0.heap.size = w.heap.size + 2) := hsz
 have D9 : Hid (Below w.heap.size w (w0.alloc (.cells #[] 35))) := D0.out.alloc D0.out.size _
 have E9 : Hid (Below (w.heap.size + 2) w0 (w0.alloc (.cells #[] 35))) := b00
 have L9 : Hid (Owns (w0.alloc (.cells #[] 35)) (w.heap.size + 2) 35 5 (.slice (some ⟨w.heap.size + 2, 0, none⟩) 0 0) (rcdR ([] : List Rcd))) := he
 clear hb0 ka kb hsz he b00
 generalize w0.alloc (.cells #[] 35) = w9 at *
 refine (cA w9 (HV.out.on (D9.out.mono HB.out)) (Nat.le_trans HB.out D9.out.size)).mono ?_
 rintro e w1 ⟨rfl, hb1⟩
 have D1 : Hid (Below w.heap.size w w1) := D9.out.trans (hb1.mono D9.out.size)
 have E1 : Hid (Below (w.heap.size + 2) w0 w1) := E9.out.trans (hb1.mono (by have := E9.out.size; have := Z0.out; omega))
 have L1 : Hid (Owns w1 (w.heap.size + 2) 35 5 (.slice (some ⟨w.heap.size + 2, 0, none⟩) 0 0) (rcdR (([] : List Rcd)))) := L9.out.on hb1
 clear hb1 cA
 have a0 := (KA.out.on E1.out (by omega)).cell 0 (.int .i64 a.term) rfl
 have a1 := (KA.out.on E1.out (by omega)).cell 1 (.int .i64 a.vote) rfl
 have a2 := (KA.out.on E1.out (by omega)).cell 2 (.int .i64 a.base) rfl
 have a3 := (KA.out.on E1.out (by omega)).cell 3 (.int .i64 a.bterm) rfl
 have a4 := (KA.out.on E1.out (by omega)).cell 4 (.slice A n cap) rfl
 have b0 := (KB.out.on E1.out (by omega)).cell 0 (.int .i64 b.term) rfl
 have b1 := (KB.out.on E1.out (by omega)).cell 1 (.int .i64 b.vote) rfl
 have b2 := (KB.out.on E1.out (by omega)).cell 2 (.int .i64 b.base) rfl
 have b3 := (KB.out.on E1.out (by omega)).cell 3 (.int .i64 b.bterm) rfl
 have b4 := (KB.out.on E1.out (by omega)).cell 4 (.slice A1 m cap1) rfl
 cases ha : walOk a
 ·go_wp2_with fail
  exact bodyPost_ret (v := .tuple #[.slice (some ⟨w.heap.size + 2, 0, none⟩) 0 0, .bool false]) (by simp [results, go_sem]) rfl ⟨[], false, _, .inr ⟨rfl, (fun h => by rw [h.1] at ha; cases ha), rfl⟩, rfl, L1.out.mono (by omega), D1.out⟩
 go_wp2_with fail
 refine (cB w1 (HV1.out.on (D1.out.mono HB.out)) (Nat.le_trans HB.out D1.out.size)).mono ?_
 rintro e w2 ⟨rfl, hb2⟩
 have D2 : Hid (Below w.heap.size w w2) := D1.out.trans (hb2.mono D1.out.size)
 have E2 : Hid (Below (w.heap.size + 2) w0 w2) := E1.out.trans (hb2.mono (by have := E1.out.size; have := Z0.out; omega))
 have L2 : Hid (Owns w2 (w.heap.size + 2) 35 5 (.slice (some ⟨w.heap.size + 2, 0, none⟩) 0 0) (rcdR (([] : List Rcd)))) := L1.out.on hb2
 clear hb2 cB a0 a1 a2 a3 a4 b0 b1 b2 b3 b4
 have a0 := (KA.out.on E2.out (by omega)).cell 0 (.int .i64 a.term) rfl
 have a1 := (KA.out.on E2.out (by omega)).cell 1 (.int .i64 a.vote) rfl
 have a2 := (KA.out.on E2.out (by omega)).cell 2 (.int .i64 a.base) rfl
 have a3 := (KA.out.on E2.out (by omega)).cell 3 (.int .i64 a.bterm) rfl
 have a4 := (KA.out.on E2.out (by omega)).cell 4 (.slice A n cap) rfl
 have b0 := (KB.out.on E2.out (by omega)).cell 0 (.int .i64 b.term) rfl
 have b1 := (KB.out.on E2.out (by omega)).cell 1 (.int .i64 b.vote) rfl
 have b2 := (KB.out.on E2.out (by omega)).cell 2 (.int .i64 b.base) rfl
 have b3 := (KB.out.on E2.out (by omega)).cell 3 (.int .i64 b.bterm) rfl
 have b4 := (KB.out.on E2.out (by omega)).cell 4 (.slice A1 m cap1) rfl
 cases hbk : walOk b
 ·go_wp2_with fail
  exact bodyPost_ret (v := .tuple #[.slice (some ⟨w.heap.size + 2, 0, none⟩) 0 0, .bool false]) (by simp [results, go_sem]) rfl ⟨[], false, _, .inr ⟨rfl, (fun h => by rw [h.2.1] at hbk; cases hbk), rfl⟩, rfl, L2.out.mono (by omega), D2.out⟩
 obtain ⟨n60, ⟨base0, base1⟩, hda⟩ := ok_in a ha
 obtain ⟨n60b, ⟨base0b, base1b⟩, hdb0⟩ := ok_in b hbk
 have HBB : Hid (0 ≤ b.base ∧ b.base ≤ 100000) := ⟨base0b, base1b⟩
 have HREC : Hid (∀ i : Nat, recAt b i = ⟨2, (b.ents.getD i default).term, b.base + 1 + (i : Int), 0, (b.ents.getD i default).data⟩) := fun i => rfl
 have HCO : Hid (∀ (q1 : a.base = b.base) (q2 : a.bterm = b.bterm) (q3 : (a.term = b.term ∧ a.vote = b.vote) ∨ recFits a ⟨1, b.term, 0, b.vote, ⟨#[]⟩⟩ = true), chOk a b) := fun q1 q2 q3 => ⟨ha, hbk, q1, q2, q3⟩
 have HNO : Hid (chOk a b → a.base = b.base ∧ a.bterm = b.bterm ∧ ((a.term = b.term ∧ a.vote = b.vote) ∨ recFits a ⟨1, b.term, 0, b.vote, ⟨#[]⟩⟩ = true)) := fun h => ⟨h.2.2.1, h.2.2.2.1, h.2.2.2.2⟩
 have HHS : Hid (a.term = b.term → a.vote = b.vote → hardR a b = []) := fun q1 q2 => by unfold hardR; rw [if_pos ⟨q1, q2⟩]
 have HHD : Hid (¬ (a.term = b.term ∧ a.vote = b.vote) → hardR a b = [⟨1, b.term, 0, b.vote, ⟨#[]⟩⟩]) := fun q => by unfold hardR; rw [if_neg q]
 have HNA : Hid (a.ents.length = n ∧ n ≤ 60) := ⟨hn, by omega⟩
 have HNB0 : Hid (b.ents.length = m ∧ m ≤ 60) := ⟨hm, by omega⟩
 have HNB : Hid (b.ents.length = m) := hm
 have qn : (n : Int) ≤ 60 := by have := HNA.out; omega
 have qm : (m : Int) ≤ 60 := by have := HNB0.out; omega
 clear hda hdb0 ha hbk base0b base1b
 generalize b.base = bb at *
 generalize b.bterm = bq at *
 generalize b.term = bt at *
 generalize b.vote = bv at *
 by_cases hbase : a.base = bb
 case neg =>
  have z : (a.base == bb) = false := by simpa using hbase
  go_wp2_with fail
  exact bodyPost_ret (v := .tuple #[.slice (some ⟨w.heap.size + 2, 0, none⟩) 0 0, .bool false]) (by simp [results, go_sem]) rfl ⟨[], false, _, .inr ⟨rfl, (fun h => hbase (HNO.out h).1), rfl⟩, rfl, L2.out.mono (by omega), D2.out⟩
 subst hbase
 by_cases hbt : a.bterm = bq
 case neg =>
  have z : (a.bterm == bq) = false := by simpa using hbt
  go_wp2_with fail
  exact bodyPost_ret (v := .tuple #[.slice (some ⟨w.heap.size + 2, 0, none⟩) 0 0, .bool false]) (by simp [results, go_sem]) rfl ⟨[], false, _, .inr ⟨rfl, (fun h => hbt (HNO.out h).2.1), rfl⟩, rfl, L2.out.mono (by omega), D2.out⟩
 subst hbt
 clear hn hm
 by_cases ht : a.term = bt
 ·subst ht
  by_cases hvv : a.vote = bv
  ·subst hvv
   have HOK : Hid (chOk a b) := HCO.out rfl rfl (.inl ⟨rfl, rfl⟩)
   have HH : Hid (hardR a b = []) := HHS.out rfl rfl
   go_wp2_with fail
   clear a0 a1 a2 a3 a4 b0 b1 b2 b3 b4
   have st : Below w.heap.size w w2 ∧ Below (w.heap.size + 2) w0 w2 ∧ Owns w2 (w.heap.size + 2) 35 5 (.slice (some ⟨w.heap.size + 2, 0, none⟩) 0 0) (rcdR ([] : List Rcd)) := ⟨D2.out, E2.out, L2.out⟩
   have HRL : Hid (([] : List Rcd).length ≤ 1) := by unfold Hid; simp
   clear D2 E2 L2
   generalize hrows : ([] : List Rcd) = rows at *
   generalize hlv : (.slice (some ⟨w.heap.size + 2, 0, none⟩) 0 0 : Value) = lv at *
   clear hlv hrows
   go_loopw [8] (fun v8 wr => ∃ k : Nat, k ≤ n ∧ k ≤ m ∧ v8 = .int .i64 (k : Int) ∧ Hid (∀ j, j < k → a.ents.getD j default = b.ents.getD j default) ∧ Below w.heap.size w wr ∧ Below (w.heap.size + 2) w0 wr ∧ Owns wr (w.heap.size + 2) 35 5 lv (rcdR rows)) (fun i _ => n - (intOf i).toNat)
   case atStart => exact ⟨0, by omega, by omega, rfl, fun j hj => by omega, st⟩
   case round =>
    obtain ⟨k, hk, hk', rfl, HS, hD, hE, hLo⟩ := hrel
    have DR : Hid (Below w.heap.size w wr) := hD
    have ER : Hid (Below (w.heap.size + 2) w0 wr) := hE
    have LR : Hid (Owns wr (w.heap.size + 2) 35 5 lv (rcdR rows)) := hLo
    clear hD hE hLo st
    by_cases h1 : k < n
    ·have q3 : (k : Int) < (n : Int) := by omega
     by_cases h2 : k < m
     ·have q4 : (k : Int) < (m : Int) := by omega
      obtain ⟨g, off, rfl, hg, hc0, hc1⟩ := HL.out k (by omega)
      obtain ⟨g', off', rfl, hg', hd0, hd1⟩ := HL1.out k (by omega)
      have G1 : g < w.heap.size := Nat.lt_of_lt_of_le hg HB.out
      have G2 : g' < w.heap.size := Nat.lt_of_lt_of_le hg' HB.out
      rw [← DR.out.cell (p := ⟨_, _, none⟩) G1] at hc0 hc1
      rw [← DR.out.cell (p := ⟨_, _, none⟩) G2] at hd0 hd1
      generalize hya : a.ents.getD k default = ya at *
      generalize hyb : b.ents.getD k default = yb at *
      have HYA : Hid (a.ents.getD k default = ya) := hya
      have HYB : Hid (b.ents.getD k default = yb) := hyb
      clear hya hyb hg hg' G1 G2
      obtain ⟨t, d⟩ := ya
      obtain ⟨t', d'⟩ := yb
      simp only at hc0 hc1 hd0 hd1
      by_cases hq : t = t' ∧ d = d'
      ·obtain ⟨rfl, rfl⟩ := hq
       have S0 : Hid (wr.drew.cell? ⟨w.heap.size, 4, none⟩ = some (.slice (some ⟨g, off, none⟩) n cap) ∧ wr.drew.cell? ⟨w.heap.size + 1, 4, none⟩ = some (.slice (some ⟨g', off', none⟩) m cap1) ∧ wr.drew.cell? ⟨g, off + k * 2, none⟩ = some (.int .i64 t) ∧ wr.drew.cell? ⟨g, off + k * 2 + 1, none⟩ = some (.string d) ∧ wr.drew.cell? ⟨g', off' + k * 2, none⟩ = some (.int .i64 t) ∧ wr.drew.cell? ⟨g', off' + k * 2 + 1, none⟩ = some (.string d)) := ⟨(KA.out.on ER.out (by omega)).cell 4 _ rfl, (KB.out.on ER.out (by omega)).cell 4 _ rfl, hc0, hc1, hd0, hd1⟩
       have DX : Hid (Below w.heap.size w wr.drew) := DR.out.drew
       have EX : Hid (Below (w.heap.size + 2) w0 wr.drew) := ER.out.drew
       have LX : Hid (Owns wr.drew (w.heap.size + 2) 35 5 lv (rcdR rows)) := LR.out.heap rfl
       go_wp2_with fail
       refine wp_region_until (fun w' => w'.cell? ⟨w.heap.size, 4, none⟩ = some (.slice (some ⟨g, off, none⟩) n cap) ∧ w'.cell? ⟨w.heap.size + 1, 4, none⟩ = some (.slice (some ⟨g', off', none⟩) m cap1) ∧ w'.cell? ⟨g, off + k * 2, none⟩ = some (.int .i64 t) ∧ w'.cell? ⟨g, off + k * 2 + 1, none⟩ = some (.string d) ∧ w'.cell? ⟨g', off' + k * 2, none⟩ = some (.int .i64 t) ∧ w'.cell? ⟨g', off' + k * 2 + 1, none⟩ = some (.string d)) (fun _ => false) 25 (by rfl) (by kernel_rfl) ?_
       refine until_take 0 (v := ?_) (by rfl) (by kernel_rfl) (by exact fun _ _ _ h => h) (by rfl) ?_ S0.out ?_
       rotate_left
       ·intro w hSw
        try dsimp only at hSw
        go_simp
        try with_reducible rfl
       try simp only [Act.put, setIfInBounds_toArray, set_cons_zero, set_cons_succ]
       refine until_take 1 (v := ?_) (by rfl) (by kernel_rfl) (by exact fun _ _ _ h => h) (by rfl) ?_ S0.out ?_
       rotate_left
       ·intro w hSw
        try dsimp only at hSw
        go_simp
        try with_reducible rfl
       try simp only [Act.put, setIfInBounds_toArray, set_cons_zero, set_cons_succ]
       refine until_take 2 (v := ?_) (by rfl) (by kernel_rfl) (by exact fun _ _ _ h => h) (by rfl) ?_ S0.out ?_
       rotate_left
       ·intro w hSw
        try dsimp only at hSw
        go_simp
        try with_reducible rfl
       try simp only [Act.put, setIfInBounds_toArray, set_cons_zero, set_cons_succ]
       refine until_take 3 (v := ?_) (by rfl) (by kernel_rfl) (by exact fun _ _ _ h => h) (by rfl) ?_ S0.out ?_
       rotate_left
       ·intro w hSw
        try dsimp only at hSw
        go_simp
        try with_reducible rfl
       try simp only [Act.put, setIfInBounds_toArray, set_cons_zero, set_cons_succ]
       refine until_take 4 (v := .bool true) (by rfl) (by kernel_rfl) (by exact fun _ _ _ h => h) (by rfl) ?_ S0.out ?_
       ·intro w hSw
        try dsimp only at hSw
        go_simp
        try omega
       try simp only [Act.put, setIfInBounds_toArray, set_cons_zero, set_cons_succ]
       refine until_take 5 (v := ?_) (by rfl) (by kernel_rfl) (by exact fun _ _ _ h => h) (by rfl) ?_ S0.out ?_
       rotate_left
       ·intro w hSw
        try dsimp only at hSw
        go_simp
        try with_reducible rfl
       try simp only [Act.put, setIfInBounds_toArray, set_cons_zero, set_cons_succ]
       refine until_take 6 (v := ?_) (by rfl) (by kernel_rfl) (by exact fun _ _ _ h => h) (by rfl) ?_ S0.out ?_
       rotate_left
       ·intro w hSw
        try dsimp only at hSw
        go_simp
        try with_reducible rfl
       try simp only [Act.put, setIfInBounds_toArray, set_cons_zero, set_cons_succ]
       refine until_take 7 (v := ?_) (by rfl) (by kernel_rfl) (by exact fun _ _ _ h => h) (by rfl) ?_ S0.out ?_
       rotate_left
       ·intro w hSw
        try dsimp only at hSw
        go_simp
        try with_reducible rfl
       try simp only [Act.put, setIfInBounds_toArray, set_cons_zero, set_cons_succ]
       refine until_take 8 (v := ?_) (by rfl) (by kernel_rfl) (by exact fun _ _ _ h => h) (by rfl) ?_ S0.out ?_
       rotate_left
       ·intro w hSw
        try dsimp only at hSw
        go_simp
        try with_reducible rfl
       try simp only [Act.put, setIfInBounds_toArray, set_cons_zero, set_cons_succ]
       refine until_take 9 (v := ?_) (by rfl) (by kernel_rfl) (by exact fun _ _ _ h => h) (by rfl) ?_ S0.out ?_
       rotate_left
       ·intro w hSw
        try dsimp only at hSw
        go_simp
        try with_reducible rfl
       try simp only [Act.put, setIfInBounds_toArray, set_cons_zero, set_cons_succ]
       refine until_take 10 (v := .bool true) (by rfl) (by kernel_rfl) (by exact fun _ _ _ h => h) (by rfl) ?_ S0.out ?_
       ·intro w hSw
        try dsimp only at hSw
        go_simp
        try omega
       try simp only [Act.put, setIfInBounds_toArray, set_cons_zero, set_cons_succ]
       refine until_take 11 (v := ?_) (by rfl) (by kernel_rfl) (by exact fun _ _ _ h => h) (by rfl) ?_ S0.out ?_
       rotate_left
       ·intro w hSw
        try dsimp only at hSw
        go_simp
        try with_reducible rfl
       try simp only [Act.put, setIfInBounds_toArray, set_cons_zero, set_cons_succ]
       refine until_take 12 (v := ?_) (by rfl) (by kernel_rfl) (by exact fun _ _ _ h => h) (by rfl) ?_ S0.out ?_
       rotate_left
       ·intro w hSw
        try dsimp only at hSw
        go_simp
        try with_reducible rfl
       try simp only [Act.put, setIfInBounds_toArray, set_cons_zero, set_cons_succ]
       refine until_take 13 (v := ?_) (by rfl) (by kernel_rfl) (by exact fun _ _ _ h => h) (by rfl) ?_ S0.out ?_
       rotate_left
       ·intro w hSw
        try dsimp only at hSw
        go_simp
        try with_reducible rfl
       try simp only [Act.put, setIfInBounds_toArray, set_cons_zero, set_cons_succ]
       refine until_take 14 (v := ?_) (by rfl) (by kernel_rfl) (by exact fun _ _ _ h => h) (by rfl) ?_ S0.out ?_
       rotate_left
       ·intro w hSw
        try dsimp only at hSw
        go_simp
        try with_reducible rfl
       try simp only [Act.put, setIfInBounds_toArray, set_cons_zero, set_cons_succ]
       refine until_take 15 (v := ?_) (by rfl) (by kernel_rfl) (by exact fun _ _ _ h => h) (by rfl) ?_ S0.out ?_
       rotate_left
       ·intro w hSw
        try dsimp only at hSw
        go_simp
        try with_reducible rfl
       try simp only [Act.put, setIfInBounds_toArray, set_cons_zero, set_cons_succ]
       refine until_take 16 (v := ?_) (by rfl) (by kernel_rfl) (by exact fun _ _ _ h => h) (by rfl) ?_ S0.out ?_
       rotate_left
       ·intro w hSw
        try dsimp only at hSw
        go_simp
        try with_reducible rfl
       try simp only [Act.put, setIfInBounds_toArray, set_cons_zero, set_cons_succ]
       refine until_take 17 (v := ?_) (by rfl) (by kernel_rfl) (by exact fun _ _ _ h => h) (by rfl) ?_ S0.out ?_
       rotate_left
       ·intro w hSw
        try dsimp only at hSw
        go_simp
        try with_reducible rfl
       try simp only [Act.put, setIfInBounds_toArray, set_cons_zero, set_cons_succ]
       refine until_take 18 (v := ?_) (by rfl) (by kernel_rfl) (by exact fun _ _ _ h => h) (by rfl) ?_ S0.out ?_
       rotate_left
       ·intro w hSw
        try dsimp only at hSw
        go_simp
        try with_reducible rfl
       try simp only [Act.put, setIfInBounds_toArray, set_cons_zero, set_cons_succ]
       refine until_take 19 (v := ?_) (by rfl) (by kernel_rfl) (by exact fun _ _ _ h => h) (by rfl) ?_ S0.out ?_
       rotate_left
       ·intro w hSw
        try dsimp only at hSw
        go_simp
        try with_reducible rfl
       try simp only [Act.put, setIfInBounds_toArray, set_cons_zero, set_cons_succ]
       refine until_take 20 (v := ?_) (by rfl) (by kernel_rfl) (by exact fun _ _ _ h => h) (by rfl) ?_ S0.out ?_
       rotate_left
       ·intro w hSw
        try dsimp only at hSw
        go_simp
        try with_reducible rfl
       try simp only [Act.put, setIfInBounds_toArray, set_cons_zero, set_cons_succ]
       refine until_take 21 (v := ?_) (by rfl) (by kernel_rfl) (by exact fun _ _ _ h => h) (by rfl) ?_ S0.out ?_
       rotate_left
       ·intro w hSw
        try dsimp only at hSw
        go_simp
        try with_reducible rfl
       try simp only [Act.put, setIfInBounds_toArray, set_cons_zero, set_cons_succ]
       refine until_take 22 (v := ?_) (by rfl) (by kernel_rfl) (by exact fun _ _ _ h => h) (by rfl) ?_ S0.out ?_
       rotate_left
       ·intro w hSw
        try dsimp only at hSw
        go_simp
        try with_reducible rfl
       try simp only [Act.put, setIfInBounds_toArray, set_cons_zero, set_cons_succ]
       refine until_take 23 (v := .bool true) (by rfl) (by kernel_rfl) (by exact fun _ _ _ h => h) (by rfl) ?_ S0.out ?_
       ·intro w hSw
        try dsimp only at hSw
        go_simp
       try simp only [Act.put, setIfInBounds_toArray, set_cons_zero, set_cons_succ]
       refine until_take 24 (v := ?_) (by rfl) (by kernel_rfl) (by exact fun _ _ _ h => h) (by rfl) ?_ S0.out ?_
       rotate_left
       ·intro w hSw
        try dsimp only at hSw
        go_simp
        try with_reducible rfl
       try simp only [Act.put, setIfInBounds_toArray, set_cons_zero, set_cons_succ]
       refine until_done (by kernel_rfl) ?_ _
       clear S0
       generalize wr.drew = X at *
       go_wp2_with fail
       go_roundw
       case rel => exact ⟨k + 1, by omega, by omega, by go_num, fun j hj => by
        rcases Nat.lt_succ_iff_lt_or_eq.1 hj with h | rfl
        ·exact HS.out j h
        ·rw [HYA.out, HYB.out], DX.out, EX.out, LX.out⟩
       case measure => simp [intOf]; omega
      ·have HQ : Hid (¬ (t = t' ∧ d = d')) := hq
       have HQF : Hid ((decide (t = t') && (d.toList == d'.toList)) = false) := by
        unfold Hid
        rw [toList_beq]
        by_cases e1 : t = t'
        ·have e2 : ¬ d = d' := fun e => hq ⟨e1, e⟩
         simp [e2]
        ·simp [e1]
       have HPRE : Hid (Pre a.ents b.ents k) := ⟨by have := HNA.out; omega, by have := HNB.out; omega, HS.out, fun _ _ e => by rw [HYA.out, HYB.out] at e; injection e with e1 e2; exact HQ.out ⟨e1, e2⟩⟩
       clear hq
       have S0 : Hid (wr.drew.cell? ⟨w.heap.size, 4, none⟩ = some (.slice (some ⟨g, off, none⟩) n cap) ∧ wr.drew.cell? ⟨w.heap.size + 1, 4, none⟩ = some (.slice (some ⟨g', off', none⟩) m cap1) ∧ wr.drew.cell? ⟨g, off + k * 2, none⟩ = some (.int .i64 t) ∧ wr.drew.cell? ⟨g, off + k * 2 + 1, none⟩ = some (.string d) ∧ wr.drew.cell? ⟨g', off' + k * 2, none⟩ = some (.int .i64 t') ∧ wr.drew.cell? ⟨g', off' + k * 2 + 1, none⟩ = some (.string d')) := ⟨(KA.out.on ER.out (by omega)).cell 4 _ rfl, (KB.out.on ER.out (by omega)).cell 4 _ rfl, hc0, hc1, hd0, hd1⟩
       have DX : Hid (Below w.heap.size w wr.drew) := DR.out.drew
       have EX : Hid (Below (w.heap.size + 2) w0 wr.drew) := ER.out.drew
       have LX : Hid (Owns wr.drew (w.heap.size + 2) 35 5 lv (rcdR rows)) := LR.out.heap rfl
       go_wp2_with fail
       refine wp_region_until (fun w' => w'.cell? ⟨w.heap.size, 4, none⟩ = some (.slice (some ⟨g, off, none⟩) n cap) ∧ w'.cell? ⟨w.heap.size + 1, 4, none⟩ = some (.slice (some ⟨g', off', none⟩) m cap1) ∧ w'.cell? ⟨g, off + k * 2, none⟩ = some (.int .i64 t) ∧ w'.cell? ⟨g, off + k * 2 + 1, none⟩ = some (.string d) ∧ w'.cell? ⟨g', off' + k * 2, none⟩ = some (.int .i64 t') ∧ w'.cell? ⟨g', off' + k * 2 + 1, none⟩ = some (.string d')) (fun _ => false) 25 (by rfl) (by kernel_rfl) ?_
       refine until_take 0 (v := ?_) (by rfl) (by kernel_rfl) (by exact fun _ _ _ h => h) (by rfl) ?_ S0.out ?_
       rotate_left
       ·intro w hSw
        try dsimp only at hSw
        go_simp
        try with_reducible rfl
       try simp only [Act.put, setIfInBounds_toArray, set_cons_zero, set_cons_succ]
       refine until_take 1 (v := ?_) (by rfl) (by kernel_rfl) (by exact fun _ _ _ h => h) (by rfl) ?_ S0.out ?_
       rotate_left
       ·intro w hSw
        try dsimp only at hSw
        go_simp
        try with_reducible rfl
       try simp only [Act.put, setIfInBounds_toArray, set_cons_zero, set_cons_succ]
       refine until_take 2 (v := ?_) (by rfl) (by kernel_rfl) (by exact fun _ _ _ h => h) (by rfl) ?_ S0.out ?_
       rotate_left
       ·intro w hSw
        try dsimp only at hSw
        go_simp
        try with_reducible rfl
       try simp only [Act.put, setIfInBounds_toArray, set_cons_zero, set_cons_succ]
       refine until_take 3 (v := ?_) (by rfl) (by kernel_rfl) (by exact fun _ _ _ h => h) (by rfl) ?_ S0.out ?_
       rotate_left
       ·intro w hSw
        try dsimp only at hSw
        go_simp
        try with_reducible rfl
       try simp only [Act.put, setIfInBounds_toArray, set_cons_zero, set_cons_succ]
       refine until_take 4 (v := .bool true) (by rfl) (by kernel_rfl) (by exact fun _ _ _ h => h) (by rfl) ?_ S0.out ?_
       ·intro w hSw
        try dsimp only at hSw
        go_simp
        try omega
       try simp only [Act.put, setIfInBounds_toArray, set_cons_zero, set_cons_succ]
       refine until_take 5 (v := ?_) (by rfl) (by kernel_rfl) (by exact fun _ _ _ h => h) (by rfl) ?_ S0.out ?_
       rotate_left
       ·intro w hSw
        try dsimp only at hSw
        go_simp
        try with_reducible rfl
       try simp only [Act.put, setIfInBounds_toArray, set_cons_zero, set_cons_succ]
       refine until_take 6 (v := ?_) (by rfl) (by kernel_rfl) (by exact fun _ _ _ h => h) (by rfl) ?_ S0.out ?_
       rotate_left
       ·intro w hSw
        try dsimp only at hSw
        go_simp
        try with_reducible rfl
       try simp only [Act.put, setIfInBounds_toArray, set_cons_zero, set_cons_succ]
       refine until_take 7 (v := ?_) (by rfl) (by kernel_rfl) (by exact fun _ _ _ h => h) (by rfl) ?_ S0.out ?_
       rotate_left
       ·intro w hSw
        try dsimp only at hSw
        go_simp
        try with_reducible rfl
       try simp only [Act.put, setIfInBounds_toArray, set_cons_zero, set_cons_succ]
       refine until_take 8 (v := ?_) (by rfl) (by kernel_rfl) (by exact fun _ _ _ h => h) (by rfl) ?_ S0.out ?_
       rotate_left
       ·intro w hSw
        try dsimp only at hSw
        go_simp
        try with_reducible rfl
       try simp only [Act.put, setIfInBounds_toArray, set_cons_zero, set_cons_succ]
       refine until_take 9 (v := ?_) (by rfl) (by kernel_rfl) (by exact fun _ _ _ h => h) (by rfl) ?_ S0.out ?_
       rotate_left
       ·intro w hSw
        try dsimp only at hSw
        go_simp
        try with_reducible rfl
       try simp only [Act.put, setIfInBounds_toArray, set_cons_zero, set_cons_succ]
       refine until_take 10 (v := .bool true) (by rfl) (by kernel_rfl) (by exact fun _ _ _ h => h) (by rfl) ?_ S0.out ?_
       ·intro w hSw
        try dsimp only at hSw
        go_simp
        try omega
       try simp only [Act.put, setIfInBounds_toArray, set_cons_zero, set_cons_succ]
       refine until_take 11 (v := ?_) (by rfl) (by kernel_rfl) (by exact fun _ _ _ h => h) (by rfl) ?_ S0.out ?_
       rotate_left
       ·intro w hSw
        try dsimp only at hSw
        go_simp
        try with_reducible rfl
       try simp only [Act.put, setIfInBounds_toArray, set_cons_zero, set_cons_succ]
       refine until_take 12 (v := ?_) (by rfl) (by kernel_rfl) (by exact fun _ _ _ h => h) (by rfl) ?_ S0.out ?_
       rotate_left
       ·intro w hSw
        try dsimp only at hSw
        go_simp
        try with_reducible rfl
       try simp only [Act.put, setIfInBounds_toArray, set_cons_zero, set_cons_succ]
       refine until_take 13 (v := ?_) (by rfl) (by kernel_rfl) (by exact fun _ _ _ h => h) (by rfl) ?_ S0.out ?_
       rotate_left
       ·intro w hSw
        try dsimp only at hSw
        go_simp
        try with_reducible rfl
       try simp only [Act.put, setIfInBounds_toArray, set_cons_zero, set_cons_succ]
       refine until_take 14 (v := ?_) (by rfl) (by kernel_rfl) (by exact fun _ _ _ h => h) (by rfl) ?_ S0.out ?_
       rotate_left
       ·intro w hSw
        try dsimp only at hSw
        go_simp
        try with_reducible rfl
       try simp only [Act.put, setIfInBounds_toArray, set_cons_zero, set_cons_succ]
       refine until_take 15 (v := ?_) (by rfl) (by kernel_rfl) (by exact fun _ _ _ h => h) (by rfl) ?_ S0.out ?_
       rotate_left
       ·intro w hSw
        try dsimp only at hSw
        go_simp
        try with_reducible rfl
       try simp only [Act.put, setIfInBounds_toArray, set_cons_zero, set_cons_succ]
       refine until_take 16 (v := ?_) (by rfl) (by kernel_rfl) (by exact fun _ _ _ h => h) (by rfl) ?_ S0.out ?_
       rotate_left
       ·intro w hSw
        try dsimp only at hSw
        go_simp
        try with_reducible rfl
       try simp only [Act.put, setIfInBounds_toArray, set_cons_zero, set_cons_succ]
       refine until_take 17 (v := ?_) (by rfl) (by kernel_rfl) (by exact fun _ _ _ h => h) (by rfl) ?_ S0.out ?_
       rotate_left
       ·intro w hSw
        try dsimp only at hSw
        go_simp
        try with_reducible rfl
       try simp only [Act.put, setIfInBounds_toArray, set_cons_zero, set_cons_succ]
       refine until_take 18 (v := ?_) (by rfl) (by kernel_rfl) (by exact fun _ _ _ h => h) (by rfl) ?_ S0.out ?_
       rotate_left
       ·intro w hSw
        try dsimp only at hSw
        go_simp
        try with_reducible rfl
       try simp only [Act.put, setIfInBounds_toArray, set_cons_zero, set_cons_succ]
       refine until_take 19 (v := ?_) (by rfl) (by kernel_rfl) (by exact fun _ _ _ h => h) (by rfl) ?_ S0.out ?_
       rotate_left
       ·intro w hSw
        try dsimp only at hSw
        go_simp
        try with_reducible rfl
       try simp only [Act.put, setIfInBounds_toArray, set_cons_zero, set_cons_succ]
       refine until_take 20 (v := ?_) (by rfl) (by kernel_rfl) (by exact fun _ _ _ h => h) (by rfl) ?_ S0.out ?_
       rotate_left
       ·intro w hSw
        try dsimp only at hSw
        go_simp
        try with_reducible rfl
       try simp only [Act.put, setIfInBounds_toArray, set_cons_zero, set_cons_succ]
       refine until_take 21 (v := ?_) (by rfl) (by kernel_rfl) (by exact fun _ _ _ h => h) (by rfl) ?_ S0.out ?_
       rotate_left
       ·intro w hSw
        try dsimp only at hSw
        go_simp
        try with_reducible rfl
       try simp only [Act.put, setIfInBounds_toArray, set_cons_zero, set_cons_succ]
       refine until_take 22 (v := ?_) (by rfl) (by kernel_rfl) (by exact fun _ _ _ h => h) (by rfl) ?_ S0.out ?_
       rotate_left
       ·intro w hSw
        try dsimp only at hSw
        go_simp
        try with_reducible rfl
       try simp only [Act.put, setIfInBounds_toArray, set_cons_zero, set_cons_succ]
       refine until_take 23 (v := .bool false) (by rfl) (by kernel_rfl) (by exact fun _ _ _ h => h) (by rfl) ?_ S0.out ?_
       ·intro w hSw
        try dsimp only at hSw
        go_simp
        first | exact HQF.out | (intro h1 h2; exact HQ.out ⟨h1, h2⟩) | (intro h1; simp only [h1, true_and] at *; exact HQD.out) | simpa using HQF.out
       try simp only [Act.put, setIfInBounds_toArray, set_cons_zero, set_cons_succ]
       refine until_take 24 (v := ?_) (by rfl) (by kernel_rfl) (by exact fun _ _ _ h => h) (by rfl) ?_ S0.out ?_
       rotate_left
       ·intro w hSw
        try dsimp only at hSw
        go_simp
        try with_reducible rfl
       try simp only [Act.put, setIfInBounds_toArray, set_cons_zero, set_cons_succ]
       refine until_done (by kernel_rfl) ?_ _
       clear S0
       generalize wr.drew = X at *
       clear hc0 hc1 hd0 hd1
       have a2' := (KA.out.on EX.out (by omega)).cell 2 (.int .i64 a.base) rfl
       have a4' := (KA.out.on EX.out (by omega)).cell 4 (.slice (some ⟨g, off, none⟩) n cap) rfl
       have b4' := (KB.out.on EX.out (by omega)).cell 4 (.slice (some ⟨g', off', none⟩) m cap1) rfl
       have ZX : w.heap.size + 2 ≤ X.heap.size := by have := EX.out.size; have := Z0.out; omega
       have LE : Hid ((rcdR rows).length ≤ 2097152) := by unfold Hid; rw [rcdR_length]; have := HRL.out; omega
       have HCU : Hid (cutR a k = [⟨3, 0, a.base + (k : Int) + 1, 0, ⟨#[]⟩⟩]) := by unfold Hid cutR; rw [if_pos (by have := HNA.out; omega)]
       go_wp2_with (at_builtin; refine wpList_append_row (w := X) rfl (.tmp 92) (.tmp 99) 29 35 (.agg #[.int .i64 0, .int .i64 0, .int .i64 0, .int .i64 0, .string ⟨#[]⟩]) 5 48 rfl Try.underlying29 Try.infoRcdS rfl (by omega) (w.heap.size + 2) (lv) (rcdR (rows)) rfl LX.out [.int .i64 3, .int .i64 0, .int .i64 (a.base + (k : Int) + 1), .int .i64 0, .string ⟨#[]⟩] rfl (rcd_cells _ _ _ _ _) rfl LE.out (by omega) ZX ?_; intro lv2 wY hOY hbY _ _; refine Shut.out ?_)
       unfold Shut
       have LY : Hid (Owns wY (w.heap.size + 2) 35 5 lv2 (rcdR (rows ++ cutR a k))) := by unfold Hid; rw [HCU.out, rcdR_snoc']; exact hOY
       have DY : Hid (Below w.heap.size w wY) := DX.out.trans (hbY.mono (by omega))
       have EY : Hid (Below (w.heap.size + 2) w0 wY) := EX.out.trans hbY
       have b4y := (KB.out.on EY.out (by omega)).cell 4 (.slice (some ⟨g', off', none⟩) m cap1) rfl
       clear hOY hbY a2' a4' b4' LX
       have HC1 : Hid ((rows ++ cutR a k).length ≤ 2) := by
        unfold Hid
        rw [HCU.out, List.length_append]
        have := HRL.out
        simp
        try omega
       generalize hr2 : rows ++ cutR a k = rows2 at *
       have HR2 : Hid (rows ++ cutR a k = rows2) := hr2
       clear hr2
       go_wp2_with fail
       go_loopw [6, 9] (fun v6 v9 wr => ∃ i : Nat, k ≤ i ∧ i ≤ m ∧ v9 = .int .i64 (i : Int) ∧ Owns wr (w.heap.size + 2) 35 5 v6 (rcdR (rows2 ++ entFrom b k (i - k))) ∧ Below w.heap.size w wr ∧ Below (w.heap.size + 2) w0 wr) (fun _ i _ => m - (intOf i).toNat)
       case atStart => exact ⟨k, Nat.le_refl _, by omega, rfl, by rw [Nat.sub_self, show entFrom b k 0 = [] from rfl, List.append_nil]; exact LY.out, DY.out, EY.out⟩
       case round =>
        obtain ⟨i, hki, him, rfl, hLo, hD, hE⟩ := hrel
        have LI : Hid (Owns wr (w.heap.size + 2) 35 5 u6 (rcdR (rows2 ++ entFrom b k (i - k)))) := hLo
        have DI : Hid (Below w.heap.size w wr) := hD
        have EI : Hid (Below (w.heap.size + 2) w0 wr) := hE
        have b2i := (KB.out.on EI.out (by omega)).cell 2 (.int .i64 a.base) rfl
        have b4i := (KB.out.on EI.out (by omega)).cell 4 (.slice (some ⟨g', off', none⟩) m cap1) rfl
        clear hLo hD hE LY DY EY b4y
        by_cases hlt : i < m
        ·have q7 : (i : Int) < (m : Int) := by omega
         obtain ⟨g2, o2, eg, hg2, hc0, hc1⟩ := HL1.out i (by omega)
         cases eg
         have G2 : g' < w.heap.size := Nat.lt_of_lt_of_le hg2 HB.out
         rw [← DI.out.cell (p := ⟨_, _, none⟩) G2] at hc0 hc1
         have HEF : Hid (entFrom b k (i + 1 - k) = entFrom b k (i - k) ++ [⟨2, (b.ents.getD i default).term, a.base + 1 + (i : Int), 0, (b.ents.getD i default).data⟩]) := by
          unfold Hid
          rw [show i + 1 - k = (i - k) + 1 by omega, entFrom_succ, show k + (i - k) = i by omega, HREC.out]
         generalize b.ents.getD i default = ye at *
         obtain ⟨et, ed⟩ := ye
         simp only at hc0 hc1 HEF
         have hzz : w.heap.size + 2 ≤ wr.drew.heap.size := by have h1 := EI.out.size; have h2 := Z0.out; show w.heap.size + 2 ≤ wr.heap.size; omega
         obtain ⟨nA, nm, nc, w5, r5, hO5, hb5, hk5, _⟩ := run_append_row (P := Try.prog) wr.drew 29 29 35 (.agg #[.int .i64 0, .int .i64 0, .int .i64 0, .int .i64 0, .string ⟨#[]⟩]) 5 48 Try.underlying29 Try.infoRcdS rfl (by omega) (w.heap.size + 2) u6 (rcdR (rows2 ++ entFrom b k (i - k))) (LI.out.kept fun _ _ _ => rfl) [.int .i64 2, .int .i64 et, .int .i64 (a.base + 1 + (i : Int)), .int .i64 0, .string ed] rfl (rcd_cells _ _ _ _ _) (by rw [rcdR_length, List.length_append, entFrom_length]; have := HC1.out; omega) (by omega) hzz
         have D5 : Hid (Below w.heap.size w w5) := DI.out.drew.trans (hb5.mono (by omega))
         have E5 : Hid (Below (w.heap.size + 2) w0 w5) := EI.out.drew.trans hb5
         have L5 : Hid (Owns w5 (w.heap.size + 2) 35 5 (.slice nA nm nc) (rcdR (rows2 ++ entFrom b k (i + 1 - k)))) := by unfold Hid; rw [HEF.out, ← List.append_assoc, rcdR_snoc']; exact hO5
         have S0 : Hid (wr.drew.cell? ⟨w.heap.size + 1, 2, none⟩ = some (.int .i64 a.base) ∧ wr.drew.cell? ⟨w.heap.size + 1, 4, none⟩ = some (.slice (some ⟨g', off', none⟩) m cap1) ∧ wr.drew.cell? ⟨g', off' + i * 2, none⟩ = some (.int .i64 et) ∧ wr.drew.cell? ⟨g', off' + i * 2 + 1, none⟩ = some (.string ed)) := ⟨b2i, b4i, hc0, hc1⟩
         clear hc0 hc1 hO5 hb5 hk5 hg2 G2
         go_wp2_with fail
         have hbb1 : 0 ≤ a.base := HBB.out.1
         have hbb2 : a.base ≤ 100000 := HBB.out.2
         have qi : (i : Int) < 60 := by omega
         have hw1 : IntKind.i64.wrap (a.base + 1) = a.base + 1 := by rw [IntKind.wrap_i64]; omega
         have hw2 : IntKind.i64.wrap (a.base + 1 + (i : Int)) = a.base + 1 + (i : Int) := by rw [IntKind.wrap_i64]; omega
         refine wp_region_until (fun w' => w'.cell? ⟨w.heap.size + 1, 2, none⟩ = some (.int .i64 a.base) ∧ w'.cell? ⟨w.heap.size + 1, 4, none⟩ = some (.slice (some ⟨g', off', none⟩) m cap1) ∧ w'.cell? ⟨g', off' + i * 2, none⟩ = some (.int .i64 et) ∧ w'.cell? ⟨g', off' + i * 2 + 1, none⟩ = some (.string ed)) (fun i => i == 20 || i == 21) 22 (by rfl) (by kernel_rfl) ?_
         refine until_take 0 (v := ?_) (by rfl) (by kernel_rfl) (by exact fun _ _ _ h => h) (by rfl) ?_ S0.out ?_
         rotate_left
         ·intro w hSw
          try dsimp only at hSw
          go_simp
          try with_reducible rfl
         try simp only [Act.put, setIfInBounds_toArray, set_cons_zero, set_cons_succ]
         refine until_take 1 (v := ?_) (by rfl) (by kernel_rfl) (by exact fun _ _ _ h => h) (by rfl) ?_ S0.out ?_
         rotate_left
         ·intro w hSw
          try dsimp only at hSw
          go_simp
          try with_reducible rfl
         try simp only [Act.put, setIfInBounds_toArray, set_cons_zero, set_cons_succ]
         refine until_take 2 (v := ?_) (by rfl) (by kernel_rfl) (by exact fun _ _ _ h => h) (by rfl) ?_ S0.out ?_
         rotate_left
         ·intro w hSw
          try dsimp only at hSw
          go_simp
          try with_reducible rfl
         try simp only [Act.put, setIfInBounds_toArray, set_cons_zero, set_cons_succ]
         refine until_take 3 (v := ?_) (by rfl) (by kernel_rfl) (by exact fun _ _ _ h => h) (by rfl) ?_ S0.out ?_
         rotate_left
         ·intro w hSw
          try dsimp only at hSw
          go_simp
          try with_reducible rfl
         try simp only [Act.put, setIfInBounds_toArray, set_cons_zero, set_cons_succ]
         refine until_take 4 (v := ?_) (by rfl) (by kernel_rfl) (by exact fun _ _ _ h => h) (by rfl) ?_ S0.out ?_
         rotate_left
         ·intro w hSw
          try dsimp only at hSw
          go_simp
          try with_reducible rfl
         try simp only [Act.put, setIfInBounds_toArray, set_cons_zero, set_cons_succ]
         refine until_take 5 (v := ?_) (by rfl) (by kernel_rfl) (by exact fun _ _ _ h => h) (by rfl) ?_ S0.out ?_
         rotate_left
         ·intro w hSw
          try dsimp only at hSw
          go_simp
          try with_reducible rfl
         try simp only [Act.put, setIfInBounds_toArray, set_cons_zero, set_cons_succ]
         refine until_take 6 (v := ?_) (by rfl) (by kernel_rfl) (by exact fun _ _ _ h => h) (by rfl) ?_ S0.out ?_
         rotate_left
         ·intro w hSw
          try dsimp only at hSw
          go_simp
          try with_reducible rfl
         try simp only [Act.put, setIfInBounds_toArray, set_cons_zero, set_cons_succ]
         refine until_take 7 (v := ?_) (by rfl) (by kernel_rfl) (by exact fun _ _ _ h => h) (by rfl) ?_ S0.out ?_
         rotate_left
         ·intro w hSw
          try dsimp only at hSw
          go_simp
          try with_reducible rfl
         try simp only [Act.put, setIfInBounds_toArray, set_cons_zero, set_cons_succ]
         refine until_take 8 (v := ?_) (by rfl) (by kernel_rfl) (by exact fun _ _ _ h => h) (by rfl) ?_ S0.out ?_
         rotate_left
         ·intro w hSw
          try dsimp only at hSw
          go_simp
          try with_reducible rfl
         try simp only [Act.put, setIfInBounds_toArray, set_cons_zero, set_cons_succ]
         refine until_take 9 (v := ?_) (by rfl) (by kernel_rfl) (by exact fun _ _ _ h => h) (by rfl) ?_ S0.out ?_
         rotate_left
         ·intro w hSw
          try dsimp only at hSw
          go_simp
          try with_reducible rfl
         try simp only [Act.put, setIfInBounds_toArray, set_cons_zero, set_cons_succ]
         refine until_take 10 (v := ?_) (by rfl) (by kernel_rfl) (by exact fun _ _ _ h => h) (by rfl) ?_ S0.out ?_
         rotate_left
         ·intro w hSw
          try dsimp only at hSw
          go_simp
          try with_reducible rfl
         try simp only [Act.put, setIfInBounds_toArray, set_cons_zero, set_cons_succ]
         refine until_take 11 (v := ?_) (by rfl) (by kernel_rfl) (by exact fun _ _ _ h => h) (by rfl) ?_ S0.out ?_
         rotate_left
         ·intro w hSw
          try dsimp only at hSw
          go_simp
          try with_reducible rfl
         try simp only [Act.put, setIfInBounds_toArray, set_cons_zero, set_cons_succ]
         refine until_take 12 (v := ?_) (by rfl) (by kernel_rfl) (by exact fun _ _ _ h => h) (by rfl) ?_ S0.out ?_
         rotate_left
         ·intro w hSw
          try dsimp only at hSw
          go_simp
          try with_reducible rfl
         try simp only [Act.put, setIfInBounds_toArray, set_cons_zero, set_cons_succ]
         refine until_take 13 (v := ?_) (by rfl) (by kernel_rfl) (by exact fun _ _ _ h => h) (by rfl) ?_ S0.out ?_
         rotate_left
         ·intro w hSw
          try dsimp only at hSw
          go_simp
          try with_reducible rfl
         try simp only [Act.put, setIfInBounds_toArray, set_cons_zero, set_cons_succ]
         refine until_take 14 (v := ?_) (by rfl) (by kernel_rfl) (by exact fun _ _ _ h => h) (by rfl) ?_ S0.out ?_
         rotate_left
         ·intro w hSw
          try dsimp only at hSw
          go_simp
          try with_reducible rfl
         try simp only [Act.put, setIfInBounds_toArray, set_cons_zero, set_cons_succ]
         refine until_take 15 (v := ?_) (by rfl) (by kernel_rfl) (by exact fun _ _ _ h => h) (by rfl) ?_ S0.out ?_
         rotate_left
         ·intro w hSw
          try dsimp only at hSw
          go_simp
          try with_reducible rfl
         try simp only [Act.put, setIfInBounds_toArray, set_cons_zero, set_cons_succ]
         refine until_take 16 (v := ?_) (by rfl) (by kernel_rfl) (by exact fun _ _ _ h => h) (by rfl) ?_ S0.out ?_
         rotate_left
         ·intro w hSw
          try dsimp only at hSw
          go_simp
          try with_reducible rfl
         try simp only [Act.put, setIfInBounds_toArray, set_cons_zero, set_cons_succ]
         refine until_take 17 (v := ?_) (by rfl) (by kernel_rfl) (by exact fun _ _ _ h => h) (by rfl) ?_ S0.out ?_
         rotate_left
         ·intro w hSw
          try dsimp only at hSw
          go_simp
          try with_reducible rfl
         try simp only [Act.put, setIfInBounds_toArray, set_cons_zero, set_cons_succ]
         refine until_take 18 (v := ?_) (by rfl) (by kernel_rfl) (by exact fun _ _ _ h => h) (by rfl) ?_ S0.out ?_
         rotate_left
         ·intro w hSw
          try dsimp only at hSw
          go_simp
          try with_reducible rfl
         try simp only [Act.put, setIfInBounds_toArray, set_cons_zero, set_cons_succ]
         refine until_one 19 (by rfl) (by kernel_rfl) (fun K hK => ?_)
         go_simp
         refine hK.out _ _ (fun _ h => ⟨cell_alloc_keep h.1 _, cell_alloc_keep h.2.1 _, cell_alloc_keep h.2.2.1 _, cell_alloc_keep h.2.2.2 _⟩) ?_
         clear hK K
         try simp only [Act.put, setIfInBounds_toArray, set_cons_zero, set_cons_succ]
         refine until_one 20 (by rfl) (by kernel_rfl) (fun K hK => ?_)
         refine step_append_run (by rfl) (.tmp 109) (.tmp 128) 29 (by rfl) _ _ _ _ (by rfl) (by rfl) r5 ?_
         refine hK.out _ _ (fun h => by cases h) ?_
         clear hK K
         try simp only [Act.put, setIfInBounds_toArray, set_cons_zero, set_cons_succ]
         refine until_one 21 (by rfl) (by kernel_rfl) (fun K hK => ?_)
         go_simp
         refine hK.out _ _ (fun h => by cases h) ?_
         clear hK K
         try simp only [Act.put, setIfInBounds_toArray, set_cons_zero, set_cons_succ]
         refine until_done (by kernel_rfl) ?_ _
         go_wp2_with fail
         go_roundw
         case rel => exact ⟨i + 1, by omega, by omega, by go_num, L5.out, D5.out, E5.out⟩
         case measure => simp [intOf]; omega
        ·obtain rfl : i = m := by omega
         have HFL : Hid (rows2 ++ entFrom b k (i - k) = chList a b k) := by
          unfold Hid chList
          rw [HH.out, HNB.out, ← HR2.out]
         go_wp2_with fail
         go_ret2
         exact ⟨_, true, _, .inl ⟨rfl, HOK.out, k, HPRE.out, HFL.out⟩, rfl, LI.out.mono (by omega), DI.out⟩
     ·have HPRE : Hid (Pre a.ents b.ents k) := ⟨by have := HNA.out; omega, by have := HNB.out; omega, HS.out, fun _ hh => by have := HNB.out; omega⟩
      have q4 : (m : Int) ≤ (k : Int) := by omega
      have S0 : Hid (wr.drew.cell? ⟨w.heap.size, 4, none⟩ = some (.slice A n cap) ∧ wr.drew.cell? ⟨w.heap.size + 1, 4, none⟩ = some (.slice A1 m cap1)) := ⟨(KA.out.on ER.out (by omega)).cell 4 _ rfl, (KB.out.on ER.out (by omega)).cell 4 _ rfl⟩
      have DX : Hid (Below w.heap.size w wr.drew) := DR.out.drew
      have EX : Hid (Below (w.heap.size + 2) w0 wr.drew) := ER.out.drew
      have LX : Hid (Owns wr.drew (w.heap.size + 2) 35 5 lv (rcdR rows)) := LR.out.heap rfl
      go_wp2_with fail
      refine wp_region_until (fun w' => w'.cell? ⟨w.heap.size, 4, none⟩ = some (.slice A n cap) ∧ w'.cell? ⟨w.heap.size + 1, 4, none⟩ = some (.slice A1 m cap1)) (fun _ => false) 25 (by rfl) (by kernel_rfl) ?_
      refine until_take 0 (v := ?_) (by rfl) (by kernel_rfl) (by exact fun _ _ _ h => h) (by rfl) ?_ S0.out ?_
      rotate_left
      ·intro w hSw
       try dsimp only at hSw
       go_simp
       try with_reducible rfl
      try simp only [Act.put, setIfInBounds_toArray, set_cons_zero, set_cons_succ]
      refine until_take 1 (v := ?_) (by rfl) (by kernel_rfl) (by exact fun _ _ _ h => h) (by rfl) ?_ S0.out ?_
      rotate_left
      ·intro w hSw
       try dsimp only at hSw
       go_simp
       try with_reducible rfl
      try simp only [Act.put, setIfInBounds_toArray, set_cons_zero, set_cons_succ]
      refine until_take 2 (v := ?_) (by rfl) (by kernel_rfl) (by exact fun _ _ _ h => h) (by rfl) ?_ S0.out ?_
      rotate_left
      ·intro w hSw
       try dsimp only at hSw
       go_simp
       try with_reducible rfl
      try simp only [Act.put, setIfInBounds_toArray, set_cons_zero, set_cons_succ]
      refine until_take 3 (v := ?_) (by rfl) (by kernel_rfl) (by exact fun _ _ _ h => h) (by rfl) ?_ S0.out ?_
      rotate_left
      ·intro w hSw
       try dsimp only at hSw
       go_simp
       try with_reducible rfl
      try simp only [Act.put, setIfInBounds_toArray, set_cons_zero, set_cons_succ]
      refine until_take 4 (v := .bool true) (by rfl) (by kernel_rfl) (by exact fun _ _ _ h => h) (by rfl) ?_ S0.out ?_
      ·intro w hSw
       try dsimp only at hSw
       go_simp
       try omega
      try simp only [Act.put, setIfInBounds_toArray, set_cons_zero, set_cons_succ]
      refine until_take 5 (v := ?_) (by rfl) (by kernel_rfl) (by exact fun _ _ _ h => h) (by rfl) ?_ S0.out ?_
      rotate_left
      ·intro w hSw
       try dsimp only at hSw
       go_simp
       try with_reducible rfl
      try simp only [Act.put, setIfInBounds_toArray, set_cons_zero, set_cons_succ]
      refine until_take 6 (v := ?_) (by rfl) (by kernel_rfl) (by exact fun _ _ _ h => h) (by rfl) ?_ S0.out ?_
      rotate_left
      ·intro w hSw
       try dsimp only at hSw
       go_simp
       try with_reducible rfl
      try simp only [Act.put, setIfInBounds_toArray, set_cons_zero, set_cons_succ]
      refine until_take 7 (v := ?_) (by rfl) (by kernel_rfl) (by exact fun _ _ _ h => h) (by rfl) ?_ S0.out ?_
      rotate_left
      ·intro w hSw
       try dsimp only at hSw
       go_simp
       try with_reducible rfl
      try simp only [Act.put, setIfInBounds_toArray, set_cons_zero, set_cons_succ]
      refine until_take 8 (v := ?_) (by rfl) (by kernel_rfl) (by exact fun _ _ _ h => h) (by rfl) ?_ S0.out ?_
      rotate_left
      ·intro w hSw
       try dsimp only at hSw
       go_simp
       try with_reducible rfl
      try simp only [Act.put, setIfInBounds_toArray, set_cons_zero, set_cons_succ]
      refine until_take 9 (v := ?_) (by rfl) (by kernel_rfl) (by exact fun _ _ _ h => h) (by rfl) ?_ S0.out ?_
      rotate_left
      ·intro w hSw
       try dsimp only at hSw
       go_simp
       try with_reducible rfl
      try simp only [Act.put, setIfInBounds_toArray, set_cons_zero, set_cons_succ]
      refine until_take 10 (v := .bool false) (by rfl) (by kernel_rfl) (by exact fun _ _ _ h => h) (by rfl) ?_ S0.out ?_
      ·intro w hSw
       try dsimp only at hSw
       go_simp
       try omega
      try simp only [Act.put, setIfInBounds_toArray, set_cons_zero, set_cons_succ]
      refine until_take 11 (v := ?_) (by rfl) (by kernel_rfl) (by exact fun _ _ _ h => h) (by rfl) ?_ S0.out ?_
      rotate_left
      ·intro w hSw
       try dsimp only at hSw
       go_simp
       try with_reducible rfl
      try simp only [Act.put, setIfInBounds_toArray, set_cons_zero, set_cons_succ]
      refine until_take 12 (v := ?_) (by rfl) (by kernel_rfl) (by exact fun _ _ _ h => h) (by rfl) ?_ S0.out ?_
      rotate_left
      ·intro w hSw
       try dsimp only at hSw
       go_simp
       try with_reducible rfl
      try simp only [Act.put, setIfInBounds_toArray, set_cons_zero, set_cons_succ]
      refine until_skip 13 (by rfl) (by kernel_rfl) (by exact fun _ _ _ h => h) (by rfl) ?_
      try simp only [Act.put, setIfInBounds_toArray, set_cons_zero, set_cons_succ]
      refine until_skip 14 (by rfl) (by kernel_rfl) (by exact fun _ _ _ h => h) (by rfl) ?_
      try simp only [Act.put, setIfInBounds_toArray, set_cons_zero, set_cons_succ]
      refine until_skip 15 (by rfl) (by kernel_rfl) (by exact fun _ _ _ h => h) (by rfl) ?_
      try simp only [Act.put, setIfInBounds_toArray, set_cons_zero, set_cons_succ]
      refine until_skip 16 (by rfl) (by kernel_rfl) (by exact fun _ _ _ h => h) (by rfl) ?_
      try simp only [Act.put, setIfInBounds_toArray, set_cons_zero, set_cons_succ]
      refine until_skip 17 (by rfl) (by kernel_rfl) (by exact fun _ _ _ h => h) (by rfl) ?_
      try simp only [Act.put, setIfInBounds_toArray, set_cons_zero, set_cons_succ]
      refine until_skip 18 (by rfl) (by kernel_rfl) (by exact fun _ _ _ h => h) (by rfl) ?_
      try simp only [Act.put, setIfInBounds_toArray, set_cons_zero, set_cons_succ]
      refine until_skip 19 (by rfl) (by kernel_rfl) (by exact fun _ _ _ h => h) (by rfl) ?_
      try simp only [Act.put, setIfInBounds_toArray, set_cons_zero, set_cons_succ]
      refine until_skip 20 (by rfl) (by kernel_rfl) (by exact fun _ _ _ h => h) (by rfl) ?_
      try simp only [Act.put, setIfInBounds_toArray, set_cons_zero, set_cons_succ]
      refine until_skip 21 (by rfl) (by kernel_rfl) (by exact fun _ _ _ h => h) (by rfl) ?_
      try simp only [Act.put, setIfInBounds_toArray, set_cons_zero, set_cons_succ]
      refine until_skip 22 (by rfl) (by kernel_rfl) (by exact fun _ _ _ h => h) (by rfl) ?_
      try simp only [Act.put, setIfInBounds_toArray, set_cons_zero, set_cons_succ]
      refine until_skip 23 (by rfl) (by kernel_rfl) (by exact fun _ _ _ h => h) (by rfl) ?_
      try simp only [Act.put, setIfInBounds_toArray, set_cons_zero, set_cons_succ]
      refine until_take 24 (v := ?_) (by rfl) (by kernel_rfl) (by exact fun _ _ _ h => h) (by rfl) ?_ S0.out ?_
      rotate_left
      ·intro w hSw
       try dsimp only at hSw
       go_simp
       try with_reducible rfl
      try simp only [Act.put, setIfInBounds_toArray, set_cons_zero, set_cons_succ]
      refine until_done (by kernel_rfl) ?_ _
      clear S0
      generalize wr.drew = X at *
      have a2' := (KA.out.on EX.out (by omega)).cell 2 (.int .i64 a.base) rfl
      have a4' := (KA.out.on EX.out (by omega)).cell 4 (.slice A n cap) rfl
      have b4' := (KB.out.on EX.out (by omega)).cell 4 (.slice A1 m cap1) rfl
      have ZX : w.heap.size + 2 ≤ X.heap.size := by have := EX.out.size; have := Z0.out; omega
      have LE : Hid ((rcdR rows).length ≤ 2097152) := by unfold Hid; rw [rcdR_length]; have := HRL.out; omega
      have HCU : Hid (cutR a k = [⟨3, 0, a.base + (k : Int) + 1, 0, ⟨#[]⟩⟩]) := by unfold Hid cutR; rw [if_pos (by have := HNA.out; omega)]
      go_wp2_with (at_builtin; refine wpList_append_row (w := X) rfl (.tmp 92) (.tmp 99) 29 35 (.agg #[.int .i64 0, .int .i64 0, .int .i64 0, .int .i64 0, .string ⟨#[]⟩]) 5 48 rfl Try.underlying29 Try.infoRcdS rfl (by omega) (w.heap.size + 2) (lv) (rcdR (rows)) rfl LX.out [.int .i64 3, .int .i64 0, .int .i64 (a.base + (k : Int) + 1), .int .i64 0, .string ⟨#[]⟩] rfl (rcd_cells _ _ _ _ _) rfl LE.out (by omega) ZX ?_; intro lv2 wY hOY hbY _ _; refine Shut.out ?_)
      unfold Shut
      have LY : Hid (Owns wY (w.heap.size + 2) 35 5 lv2 (rcdR (rows ++ cutR a k))) := by unfold Hid; rw [HCU.out, rcdR_snoc']; exact hOY
      have DY : Hid (Below w.heap.size w wY) := DX.out.trans (hbY.mono (by omega))
      have EY : Hid (Below (w.heap.size + 2) w0 wY) := EX.out.trans hbY
      have b4y := (KB.out.on EY.out (by omega)).cell 4 (.slice A1 m cap1) rfl
      clear hOY hbY a2' a4' b4' LX
      have HC1 : Hid ((rows ++ cutR a k).length ≤ 2) := by
       unfold Hid
       rw [HCU.out, List.length_append]
       have := HRL.out
       simp
       try omega
      generalize hr2 : rows ++ cutR a k = rows2 at *
      have HR2 : Hid (rows ++ cutR a k = rows2) := hr2
      clear hr2
      go_wp2_with fail
      go_loopw [6, 9] (fun v6 v9 wr => ∃ i : Nat, k ≤ i ∧ i ≤ m ∧ v9 = .int .i64 (i : Int) ∧ Owns wr (w.heap.size + 2) 35 5 v6 (rcdR (rows2 ++ entFrom b k (i - k))) ∧ Below w.heap.size w wr ∧ Below (w.heap.size + 2) w0 wr) (fun _ i _ => m - (intOf i).toNat)
      case atStart => exact ⟨k, Nat.le_refl _, by omega, rfl, by rw [Nat.sub_self, show entFrom b k 0 = [] from rfl, List.append_nil]; exact LY.out, DY.out, EY.out⟩
      case round =>
       obtain ⟨i, hki, him, rfl, hLo, hD, hE⟩ := hrel
       have LI : Hid (Owns wr (w.heap.size + 2) 35 5 u6 (rcdR (rows2 ++ entFrom b k (i - k)))) := hLo
       have DI : Hid (Below w.heap.size w wr) := hD
       have EI : Hid (Below (w.heap.size + 2) w0 wr) := hE
       have b2i := (KB.out.on EI.out (by omega)).cell 2 (.int .i64 a.base) rfl
       have b4i := (KB.out.on EI.out (by omega)).cell 4 (.slice A1 m cap1) rfl
       clear hLo hD hE LY DY EY b4y
       by_cases hlt : i < m
       ·exact absurd hlt (by omega)
       ·obtain rfl : i = m := by omega
        have HFL : Hid (rows2 ++ entFrom b k (i - k) = chList a b k) := by
         unfold Hid chList
         rw [HH.out, HNB.out, ← HR2.out]
        go_wp2_with fail
        go_ret2
        exact ⟨_, true, _, .inl ⟨rfl, HOK.out, k, HPRE.out, HFL.out⟩, rfl, LI.out.mono (by omega), DI.out⟩
    ·have HPRE : Hid (Pre a.ents b.ents k) := ⟨by have := HNA.out; omega, by have := HNB.out; omega, HS.out, fun hh _ => by have := HNA.out; omega⟩
     have q3 : (n : Int) ≤ (k : Int) := by omega
     have S0 : Hid (wr.drew.cell? ⟨w.heap.size, 4, none⟩ = some (.slice A n cap) ∧ wr.drew.cell? ⟨w.heap.size + 1, 4, none⟩ = some (.slice A1 m cap1)) := ⟨(KA.out.on ER.out (by omega)).cell 4 _ rfl, (KB.out.on ER.out (by omega)).cell 4 _ rfl⟩
     have DX : Hid (Below w.heap.size w wr.drew) := DR.out.drew
     have EX : Hid (Below (w.heap.size + 2) w0 wr.drew) := ER.out.drew
     have LX : Hid (Owns wr.drew (w.heap.size + 2) 35 5 lv (rcdR rows)) := LR.out.heap rfl
     go_wp2_with fail
     refine wp_region_until (fun w' => w'.cell? ⟨w.heap.size, 4, none⟩ = some (.slice A n cap) ∧ w'.cell? ⟨w.heap.size + 1, 4, none⟩ = some (.slice A1 m cap1)) (fun _ => false) 25 (by rfl) (by kernel_rfl) ?_
     refine until_take 0 (v := ?_) (by rfl) (by kernel_rfl) (by exact fun _ _ _ h => h) (by rfl) ?_ S0.out ?_
     rotate_left
     ·intro w hSw
      try dsimp only at hSw
      go_simp
      try with_reducible rfl
     try simp only [Act.put, setIfInBounds_toArray, set_cons_zero, set_cons_succ]
     refine until_take 1 (v := ?_) (by rfl) (by kernel_rfl) (by exact fun _ _ _ h => h) (by rfl) ?_ S0.out ?_
     rotate_left
     ·intro w hSw
      try dsimp only at hSw
      go_simp
      try with_reducible rfl
     try simp only [Act.put, setIfInBounds_toArray, set_cons_zero, set_cons_succ]
     refine until_take 2 (v := ?_) (by rfl) (by kernel_rfl) (by exact fun _ _ _ h => h) (by rfl) ?_ S0.out ?_
     rotate_left
     ·intro w hSw
      try dsimp only at hSw
      go_simp
      try with_reducible rfl
     try simp only [Act.put, setIfInBounds_toArray, set_cons_zero, set_cons_succ]
     refine until_take 3 (v := ?_) (by rfl) (by kernel_rfl) (by exact fun _ _ _ h => h) (by rfl) ?_ S0.out ?_
     rotate_left
     ·intro w hSw
      try dsimp only at hSw
      go_simp
      try with_reducible rfl
     try simp only [Act.put, setIfInBounds_toArray, set_cons_zero, set_cons_succ]
     refine until_take 4 (v := .bool false) (by rfl) (by kernel_rfl) (by exact fun _ _ _ h => h) (by rfl) ?_ S0.out ?_
     ·intro w hSw
      try dsimp only at hSw
      go_simp
      try omega
     try simp only [Act.put, setIfInBounds_toArray, set_cons_zero, set_cons_succ]
     refine until_take 5 (v := ?_) (by rfl) (by kernel_rfl) (by exact fun _ _ _ h => h) (by rfl) ?_ S0.out ?_
     rotate_left
     ·intro w hSw
      try dsimp only at hSw
      go_simp
      try with_reducible rfl
     try simp only [Act.put, setIfInBounds_toArray, set_cons_zero, set_cons_succ]
     refine until_skip 6 (by rfl) (by kernel_rfl) (by exact fun _ _ _ h => h) (by rfl) ?_
     try simp only [Act.put, setIfInBounds_toArray, set_cons_zero, set_cons_succ]
     refine until_skip 7 (by rfl) (by kernel_rfl) (by exact fun _ _ _ h => h) (by rfl) ?_
     try simp only [Act.put, setIfInBounds_toArray, set_cons_zero, set_cons_succ]
     refine until_skip 8 (by rfl) (by kernel_rfl) (by exact fun _ _ _ h => h) (by rfl) ?_
     try simp only [Act.put, setIfInBounds_toArray, set_cons_zero, set_cons_succ]
     refine until_skip 9 (by rfl) (by kernel_rfl) (by exact fun _ _ _ h => h) (by rfl) ?_
     try simp only [Act.put, setIfInBounds_toArray, set_cons_zero, set_cons_succ]
     refine until_skip 10 (by rfl) (by kernel_rfl) (by exact fun _ _ _ h => h) (by rfl) ?_
     try simp only [Act.put, setIfInBounds_toArray, set_cons_zero, set_cons_succ]
     refine until_take 11 (v := ?_) (by rfl) (by kernel_rfl) (by exact fun _ _ _ h => h) (by rfl) ?_ S0.out ?_
     rotate_left
     ·intro w hSw
      try dsimp only at hSw
      go_simp
      try with_reducible rfl
     try simp only [Act.put, setIfInBounds_toArray, set_cons_zero, set_cons_succ]
     refine until_take 12 (v := ?_) (by rfl) (by kernel_rfl) (by exact fun _ _ _ h => h) (by rfl) ?_ S0.out ?_
     rotate_left
     ·intro w hSw
      try dsimp only at hSw
      go_simp
      try with_reducible rfl
     try simp only [Act.put, setIfInBounds_toArray, set_cons_zero, set_cons_succ]
     refine until_skip 13 (by rfl) (by kernel_rfl) (by exact fun _ _ _ h => h) (by rfl) ?_
     try simp only [Act.put, setIfInBounds_toArray, set_cons_zero, set_cons_succ]
     refine until_skip 14 (by rfl) (by kernel_rfl) (by exact fun _ _ _ h => h) (by rfl) ?_
     try simp only [Act.put, setIfInBounds_toArray, set_cons_zero, set_cons_succ]
     refine until_skip 15 (by rfl) (by kernel_rfl) (by exact fun _ _ _ h => h) (by rfl) ?_
     try simp only [Act.put, setIfInBounds_toArray, set_cons_zero, set_cons_succ]
     refine until_skip 16 (by rfl) (by kernel_rfl) (by exact fun _ _ _ h => h) (by rfl) ?_
     try simp only [Act.put, setIfInBounds_toArray, set_cons_zero, set_cons_succ]
     refine until_skip 17 (by rfl) (by kernel_rfl) (by exact fun _ _ _ h => h) (by rfl) ?_
     try simp only [Act.put, setIfInBounds_toArray, set_cons_zero, set_cons_succ]
     refine until_skip 18 (by rfl) (by kernel_rfl) (by exact fun _ _ _ h => h) (by rfl) ?_
     try simp only [Act.put, setIfInBounds_toArray, set_cons_zero, set_cons_succ]
     refine until_skip 19 (by rfl) (by kernel_rfl) (by exact fun _ _ _ h => h) (by rfl) ?_
     try simp only [Act.put, setIfInBounds_toArray, set_cons_zero, set_cons_succ]
     refine until_skip 20 (by rfl) (by kernel_rfl) (by exact fun _ _ _ h => h) (by rfl) ?_
     try simp only [Act.put, setIfInBounds_toArray, set_cons_zero, set_cons_succ]
     refine until_skip 21 (by rfl) (by kernel_rfl) (by exact fun _ _ _ h => h) (by rfl) ?_
     try simp only [Act.put, setIfInBounds_toArray, set_cons_zero, set_cons_succ]
     refine until_skip 22 (by rfl) (by kernel_rfl) (by exact fun _ _ _ h => h) (by rfl) ?_
     try simp only [Act.put, setIfInBounds_toArray, set_cons_zero, set_cons_succ]
     refine until_skip 23 (by rfl) (by kernel_rfl) (by exact fun _ _ _ h => h) (by rfl) ?_
     try simp only [Act.put, setIfInBounds_toArray, set_cons_zero, set_cons_succ]
     refine until_take 24 (v := ?_) (by rfl) (by kernel_rfl) (by exact fun _ _ _ h => h) (by rfl) ?_ S0.out ?_
     rotate_left
     ·intro w hSw
      try dsimp only at hSw
      go_simp
      try with_reducible rfl
     try simp only [Act.put, setIfInBounds_toArray, set_cons_zero, set_cons_succ]
     refine until_done (by kernel_rfl) ?_ _
     clear S0
     generalize wr.drew = X at *
     have a2' := (KA.out.on EX.out (by omega)).cell 2 (.int .i64 a.base) rfl
     have a4' := (KA.out.on EX.out (by omega)).cell 4 (.slice A n cap) rfl
     have b4' := (KB.out.on EX.out (by omega)).cell 4 (.slice A1 m cap1) rfl
     have ZX : w.heap.size + 2 ≤ X.heap.size := by have := EX.out.size; have := Z0.out; omega
     have LE : Hid ((rcdR rows).length ≤ 2097152) := by unfold Hid; rw [rcdR_length]; have := HRL.out; omega
     have HCU : Hid (cutR a k = []) := by unfold Hid cutR; rw [if_neg (by have := HNA.out; omega)]
     have LY : Hid (Owns X (w.heap.size + 2) 35 5 lv (rcdR (rows ++ cutR a k))) := by unfold Hid; rw [HCU.out, List.append_nil]; exact LX.out
     have DY : Hid (Below w.heap.size w X) := DX.out
     have EY : Hid (Below (w.heap.size + 2) w0 X) := EX.out
     clear LX
     have HC1 : Hid ((rows ++ cutR a k).length ≤ 2) := by
      unfold Hid
      rw [HCU.out, List.length_append]
      have := HRL.out
      simp
      try omega
     generalize hr2 : rows ++ cutR a k = rows2 at *
     have HR2 : Hid (rows ++ cutR a k = rows2) := hr2
     clear hr2
     go_wp2_with fail
     go_loopw [6, 9] (fun v6 v9 wr => ∃ i : Nat, k ≤ i ∧ i ≤ m ∧ v9 = .int .i64 (i : Int) ∧ Owns wr (w.heap.size + 2) 35 5 v6 (rcdR (rows2 ++ entFrom b k (i - k))) ∧ Below w.heap.size w wr ∧ Below (w.heap.size + 2) w0 wr) (fun _ i _ => m - (intOf i).toNat)
     case atStart => exact ⟨k, Nat.le_refl _, by omega, rfl, by rw [Nat.sub_self, show entFrom b k 0 = [] from rfl, List.append_nil]; exact LY.out, DY.out, EY.out⟩
     case round =>
      obtain ⟨i, hki, him, rfl, hLo, hD, hE⟩ := hrel
      have LI : Hid (Owns wr (w.heap.size + 2) 35 5 u6 (rcdR (rows2 ++ entFrom b k (i - k)))) := hLo
      have DI : Hid (Below w.heap.size w wr) := hD
      have EI : Hid (Below (w.heap.size + 2) w0 wr) := hE
      have b2i := (KB.out.on EI.out (by omega)).cell 2 (.int .i64 a.base) rfl
      have b4i := (KB.out.on EI.out (by omega)).cell 4 (.slice A1 m cap1) rfl
      clear hLo hD hE LY DY EY a2' a4' b4'
      by_cases hlt : i < m
      ·have q7 : (i : Int) < (m : Int) := by omega
       obtain ⟨g2, o2, eg, hg2, hc0, hc1⟩ := HL1.out i (by omega)
       cases eg
       have G2 : g2 < w.heap.size := Nat.lt_of_lt_of_le hg2 HB.out
       rw [← DI.out.cell (p := ⟨_, _, none⟩) G2] at hc0 hc1
       have HEF : Hid (entFrom b k (i + 1 - k) = entFrom b k (i - k) ++ [⟨2, (b.ents.getD i default).term, a.base + 1 + (i : Int), 0, (b.ents.getD i default).data⟩]) := by
        unfold Hid
        rw [show i + 1 - k = (i - k) + 1 by omega, entFrom_succ, show k + (i - k) = i by omega, HREC.out]
       generalize b.ents.getD i default = ye at *
       obtain ⟨et, ed⟩ := ye
       simp only at hc0 hc1 HEF
       have hzz : w.heap.size + 2 ≤ wr.drew.heap.size := by have h1 := EI.out.size; have h2 := Z0.out; show w.heap.size + 2 ≤ wr.heap.size; omega
       obtain ⟨nA, nm, nc, w5, r5, hO5, hb5, hk5, _⟩ := run_append_row (P := Try.prog) wr.drew 29 29 35 (.agg #[.int .i64 0, .int .i64 0, .int .i64 0, .int .i64 0, .string ⟨#[]⟩]) 5 48 Try.underlying29 Try.infoRcdS rfl (by omega) (w.heap.size + 2) u6 (rcdR (rows2 ++ entFrom b k (i - k))) (LI.out.kept fun _ _ _ => rfl) [.int .i64 2, .int .i64 et, .int .i64 (a.base + 1 + (i : Int)), .int .i64 0, .string ed] rfl (rcd_cells _ _ _ _ _) (by rw [rcdR_length, List.length_append, entFrom_length]; have := HC1.out; omega) (by omega) hzz
       have D5 : Hid (Below w.heap.size w w5) := DI.out.drew.trans (hb5.mono (by omega))
       have E5 : Hid (Below (w.heap.size + 2) w0 w5) := EI.out.drew.trans hb5
       have L5 : Hid (Owns w5 (w.heap.size + 2) 35 5 (.slice nA nm nc) (rcdR (rows2 ++ entFrom b k (i + 1 - k)))) := by unfold Hid; rw [HEF.out, ← List.append_assoc, rcdR_snoc']; exact hO5
       have S0 : Hid (wr.drew.cell? ⟨w.heap.size + 1, 2, none⟩ = some (.int .i64 a.base) ∧ wr.drew.cell? ⟨w.heap.size + 1, 4, none⟩ = some (.slice (some ⟨g2, o2, none⟩) m cap1) ∧ wr.drew.cell? ⟨g2, o2 + i * 2, none⟩ = some (.int .i64 et) ∧ wr.drew.cell? ⟨g2, o2 + i * 2 + 1, none⟩ = some (.string ed)) := ⟨b2i, b4i, hc0, hc1⟩
       clear hc0 hc1 hO5 hb5 hk5 hg2 G2
       go_wp2_with fail
       have hbb1 : 0 ≤ a.base := HBB.out.1
       have hbb2 : a.base ≤ 100000 := HBB.out.2
       have qi : (i : Int) < 60 := by omega
       have hw1 : IntKind.i64.wrap (a.base + 1) = a.base + 1 := by rw [IntKind.wrap_i64]; omega
       have hw2 : IntKind.i64.wrap (a.base + 1 + (i : Int)) = a.base + 1 + (i : Int) := by rw [IntKind.wrap_i64]; omega
       refine wp_region_until (fun w' => w'.cell? ⟨w.heap.size + 1, 2, none⟩ = some (.int .i64 a.base) ∧ w'.cell? ⟨w.heap.size + 1, 4, none⟩ = some (.slice (some ⟨g2, o2, none⟩) m cap1) ∧ w'.cell? ⟨g2, o2 + i * 2, none⟩ = some (.int .i64 et) ∧ w'.cell? ⟨g2, o2 + i * 2 + 1, none⟩ = some (.string ed)) (fun i => i == 20 || i == 21) 22 (by rfl) (by kernel_rfl) ?_
       refine until_take 0 (v := ?_) (by rfl) (by kernel_rfl) (by exact fun _ _ _ h => h) (by rfl) ?_ S0.out ?_
       rotate_left
       ·intro w hSw
        try dsimp only at hSw
        go_simp
        try with_reducible rfl
       try simp only [Act.put, setIfInBounds_toArray, set_cons_zero, set_cons_succ]
       refine until_take 1 (v := ?_) (by rfl) (by kernel_rfl) (by exact fun _ _ _ h => h) (by rfl) ?_ S0.out ?_
       rotate_left
       ·intro w hSw
        try dsimp only at hSw
        go_simp
        try with_reducible rfl
       try simp only [Act.put, setIfInBounds_toArray, set_cons_zero, set_cons_succ]
       refine until_take 2 (v := ?_) (by rfl) (by kernel_rfl) (by exact fun _ _ _ h => h) (by rfl) ?_ S0.out ?_
       rotate_left
       ·intro w hSw
        try dsimp only at hSw
        go_simp
        try with_reducible rfl
       try simp only [Act.put, setIfInBounds_toArray, set_cons_zero, set_cons_succ]
       refine until_take 3 (v := ?_) (by rfl) (by kernel_rfl) (by exact fun _ _ _ h => h) (by rfl) ?_ S0.out ?_
       rotate_left
       ·intro w hSw
        try dsimp only at hSw
        go_simp
        try with_reducible rfl
       try simp only [Act.put, setIfInBounds_toArray, set_cons_zero, set_cons_succ]
       refine until_take 4 (v := ?_) (by rfl) (by kernel_rfl) (by exact fun _ _ _ h => h) (by rfl) ?_ S0.out ?_
       rotate_left
       ·intro w hSw
        try dsimp only at hSw
        go_simp
        try with_reducible rfl
       try simp only [Act.put, setIfInBounds_toArray, set_cons_zero, set_cons_succ]
       refine until_take 5 (v := ?_) (by rfl) (by kernel_rfl) (by exact fun _ _ _ h => h) (by rfl) ?_ S0.out ?_
       rotate_left
       ·intro w hSw
        try dsimp only at hSw
        go_simp
        try with_reducible rfl
       try simp only [Act.put, setIfInBounds_toArray, set_cons_zero, set_cons_succ]
       refine until_take 6 (v := ?_) (by rfl) (by kernel_rfl) (by exact fun _ _ _ h => h) (by rfl) ?_ S0.out ?_
       rotate_left
       ·intro w hSw
        try dsimp only at hSw
        go_simp
        try with_reducible rfl
       try simp only [Act.put, setIfInBounds_toArray, set_cons_zero, set_cons_succ]
       refine until_take 7 (v := ?_) (by rfl) (by kernel_rfl) (by exact fun _ _ _ h => h) (by rfl) ?_ S0.out ?_
       rotate_left
       ·intro w hSw
        try dsimp only at hSw
        go_simp
        try with_reducible rfl
       try simp only [Act.put, setIfInBounds_toArray, set_cons_zero, set_cons_succ]
       refine until_take 8 (v := ?_) (by rfl) (by kernel_rfl) (by exact fun _ _ _ h => h) (by rfl) ?_ S0.out ?_
       rotate_left
       ·intro w hSw
        try dsimp only at hSw
        go_simp
        try with_reducible rfl
       try simp only [Act.put, setIfInBounds_toArray, set_cons_zero, set_cons_succ]
       refine until_take 9 (v := ?_) (by rfl) (by kernel_rfl) (by exact fun _ _ _ h => h) (by rfl) ?_ S0.out ?_
       rotate_left
       ·intro w hSw
        try dsimp only at hSw
        go_simp
        try with_reducible rfl
       try simp only [Act.put, setIfInBounds_toArray, set_cons_zero, set_cons_succ]
       refine until_take 10 (v := ?_) (by rfl) (by kernel_rfl) (by exact fun _ _ _ h => h) (by rfl) ?_ S0.out ?_
       rotate_left
       ·intro w hSw
        try dsimp only at hSw
        go_simp
        try with_reducible rfl
       try simp only [Act.put, setIfInBounds_toArray, set_cons_zero, set_cons_succ]
       refine until_take 11 (v := ?_) (by rfl) (by kernel_rfl) (by exact fun _ _ _ h => h) (by rfl) ?_ S0.out ?_
       rotate_left
       ·intro w hSw
        try dsimp only at hSw
        go_simp
        try with_reducible rfl
       try simp only [Act.put, setIfInBounds_toArray, set_cons_zero, set_cons_succ]
       refine until_take 12 (v := ?_) (by rfl) (by kernel_rfl) (by exact fun _ _ _ h => h) (by rfl) ?_ S0.out ?_
       rotate_left
       ·intro w hSw
        try dsimp only at hSw
        go_simp
        try with_reducible rfl
       try simp only [Act.put, setIfInBounds_toArray, set_cons_zero, set_cons_succ]
       refine until_take 13 (v := ?_) (by rfl) (by kernel_rfl) (by exact fun _ _ _ h => h) (by rfl) ?_ S0.out ?_
       rotate_left
       ·intro w hSw
        try dsimp only at hSw
        go_simp
        try with_reducible rfl
       try simp only [Act.put, setIfInBounds_toArray, set_cons_zero, set_cons_succ]
       refine until_take 14 (v := ?_) (by rfl) (by kernel_rfl) (by exact fun _ _ _ h => h) (by rfl) ?_ S0.out ?_
       rotate_left
       ·intro w hSw
        try dsimp only at hSw
        go_simp
        try with_reducible rfl
       try simp only [Act.put, setIfInBounds_toArray, set_cons_zero, set_cons_succ]
       refine until_take 15 (v := ?_) (by rfl) (by kernel_rfl) (by exact fun _ _ _ h => h) (by rfl) ?_ S0.out ?_
       rotate_left
       ·intro w hSw
        try dsimp only at hSw
        go_simp
        try with_reducible rfl
       try simp only [Act.put, setIfInBounds_toArray, set_cons_zero, set_cons_succ]
       refine until_take 16 (v := ?_) (by rfl) (by kernel_rfl) (by exact fun _ _ _ h => h) (by rfl) ?_ S0.out ?_
       rotate_left
       ·intro w hSw
        try dsimp only at hSw
        go_simp
        try with_reducible rfl
       try simp only [Act.put, setIfInBounds_toArray, set_cons_zero, set_cons_succ]
       refine until_take 17 (v := ?_) (by rfl) (by kernel_rfl) (by exact fun _ _ _ h => h) (by rfl) ?_ S0.out ?_
       rotate_left
       ·intro w hSw
        try dsimp only at hSw
        go_simp
        try with_reducible rfl
       try simp only [Act.put, setIfInBounds_toArray, set_cons_zero, set_cons_succ]
       refine until_take 18 (v := ?_) (by rfl) (by kernel_rfl) (by exact fun _ _ _ h => h) (by rfl) ?_ S0.out ?_
       rotate_left
       ·intro w hSw
        try dsimp only at hSw
        go_simp
        try with_reducible rfl
       try simp only [Act.put, setIfInBounds_toArray, set_cons_zero, set_cons_succ]
       refine until_one 19 (by rfl) (by kernel_rfl) (fun K hK => ?_)
       go_simp
       refine hK.out _ _ (fun _ h => ⟨cell_alloc_keep h.1 _, cell_alloc_keep h.2.1 _, cell_alloc_keep h.2.2.1 _, cell_alloc_keep h.2.2.2 _⟩) ?_
       clear hK K
       try simp only [Act.put, setIfInBounds_toArray, set_cons_zero, set_cons_succ]
       refine until_one 20 (by rfl) (by kernel_rfl) (fun K hK => ?_)
       refine step_append_run (by rfl) (.tmp 109) (.tmp 128) 29 (by rfl) _ _ _ _ (by rfl) (by rfl) r5 ?_
       refine hK.out _ _ (fun h => by cases h) ?_
       clear hK K
       try simp only [Act.put, setIfInBounds_toArray, set_cons_zero, set_cons_succ]
       refine until_one 21 (by rfl) (by kernel_rfl) (fun K hK => ?_)
       go_simp
       refine hK.out _ _ (fun h => by cases h) ?_
       clear hK K
       try simp only [Act.put, setIfInBounds_toArray, set_cons_zero, set_cons_succ]
       refine until_done (by kernel_rfl) ?_ _
       go_wp2_with fail
       go_roundw
       case rel => exact ⟨i + 1, by omega, by omega, by go_num, L5.out, D5.out, E5.out⟩
       case measure => simp [intOf]; omega
      ·obtain rfl : i = m := by omega
       have HFL : Hid (rows2 ++ entFrom b k (i - k) = chList a b k) := by
        unfold Hid chList
        rw [HH.out, HNB.out, ← HR2.out]
       go_wp2_with fail
       go_ret2
       exact ⟨_, true, _, .inl ⟨rfl, HOK.out, k, HPRE.out, HFL.out⟩, rfl, LI.out.mono (by omega), DI.out⟩
  ·have z : (a.vote == bv) = false := by simpa using hvv
   have D3 : Hid (Below w.heap.size w (w2.alloc (.cells #[.int .i64 1, .int .i64 a.term, .int .i64 0, .int .i64 bv, .string ⟨#[]⟩] 35))) := D2.out.alloc D2.out.size _
   have E3 : Hid (Below (w.heap.size + 2) w0 (w2.alloc (.cells #[.int .i64 1, .int .i64 a.term, .int .i64 0, .int .i64 bv, .string ⟨#[]⟩] 35))) := E2.out.alloc (by have := E2.out.size; have := Z0.out; omega) _
   have L3 : Hid (Owns (w2.alloc (.cells #[.int .i64 1, .int .i64 a.term, .int .i64 0, .int .i64 bv, .string ⟨#[]⟩] 35)) (w.heap.size + 2) 35 5 (.slice (some ⟨w.heap.size + 2, 0, none⟩) 0 0) (rcdR ([] : List Rcd))) := L2.out.alloc _
   have KR : Hid (Blk (w2.alloc (.cells #[.int .i64 1, .int .i64 a.term, .int .i64 0, .int .i64 bv, .string ⟨#[]⟩] 35)) w2.heap.size #[.int .i64 1, .int .i64 a.term, .int .i64 0, .int .i64 bv, .string ⟨#[]⟩] 35) := Blk.new _ _ _
   have x0 := (KA.out.on E3.out (by omega)).cell 0 (.int .i64 a.term) rfl
   have x1 := (KA.out.on E3.out (by omega)).cell 1 (.int .i64 a.vote) rfl
   have x2 := (KA.out.on E3.out (by omega)).cell 2 (.int .i64 a.base) rfl
   have x3 := (KA.out.on E3.out (by omega)).cell 3 (.int .i64 a.bterm) rfl
   have x4 := (KA.out.on E3.out (by omega)).cell 4 (.slice A n cap) rfl
   have r0 := KR.out.cell 0 (.int .i64 1) rfl
   have r1 := KR.out.cell 1 (.int .i64 a.term) rfl
   have r2 := KR.out.cell 2 (.int .i64 0) rfl
   have r3 := KR.out.cell 3 (.int .i64 bv) rfl
   have r4 := KR.out.cell 4 (.string ⟨#[]⟩) rfl
   go_wp2_with fail
   generalize w2.alloc (.cells #[.int .i64 1, .int .i64 a.term, .int .i64 0, .int .i64 bv, .string ⟨#[]⟩] 35) = w3 at *
   generalize w2.heap.size = zr at *
   clear D2 E2 L2 a0 a1 a2 a3 a4 b0 b1 b2 b3 b4 x0 x1 x2 x3 x4 r0 r1 r2 r3 r4
   have cF := fitsS a ⟨1, a.term, 0, bv, ⟨#[]⟩⟩ (.agg #[.int .i64 a.term, .int .i64 a.vote, .int .i64 a.base, .int .i64 a.bterm, .slice A n cap]) w3 B (HV.out.on (D3.out.mono HB.out)) (by have := HNA.out; omega) base0 base1 (Nat.le_trans HB.out D3.out.size)
   unfold vRcd at cF
   simp only at cF
   refine cF.mono ?_
   rintro e w4 ⟨rfl, hb4⟩
   have D4 : Hid (Below w.heap.size w w4) := D3.out.trans (hb4.mono D3.out.size)
   have E4 : Hid (Below (w.heap.size + 2) w0 w4) := E3.out.trans (hb4.mono (by have := E3.out.size; have := Z0.out; omega))
   have L4 : Hid (Owns w4 (w.heap.size + 2) 35 5 (.slice (some ⟨w.heap.size + 2, 0, none⟩) 0 0) (rcdR (([] : List Rcd)))) := L3.out.on hb4
   have KR4 : Hid (Blk w4 zr #[.int .i64 1, .int .i64 a.term, .int .i64 0, .int .i64 bv, .string ⟨#[]⟩] 35) := KR.out.on hb4 KR.out.lt
   clear hb4 cF KR D3 E3 L3
   cases hfit : recFits a ⟨1, a.term, 0, bv, ⟨#[]⟩⟩ with
   | false =>
    go_wp2_with fail
    exact bodyPost_ret (v := .tuple #[.slice (some ⟨w.heap.size + 2, 0, none⟩) 0 0, .bool false]) (by simp [results, go_sem]) rfl ⟨[], false, _, .inr ⟨rfl, (fun h => by rcases (HNO.out h).2.2 with hh | hh; exact (fun hh => hvv hh.2) hh; rw [hfit] at hh; cases hh), rfl⟩, rfl, L4.out.mono (by omega), D4.out⟩
   | true =>
    have HOK : Hid (chOk a b) := by first | exact HCO.out rfl rfl (.inr hfit) | exact HCO.out trivial trivial (.inr hfit) | exact HCO.out trivial trivial (.inr rfl)
    have HH : Hid (hardR a b = [⟨1, a.term, 0, bv, ⟨#[]⟩⟩]) := HHD.out (fun hh => hvv hh.2)
    have r0 := KR4.out.cell 0 (.int .i64 1) rfl
    have r1 := KR4.out.cell 1 (.int .i64 a.term) rfl
    have r2 := KR4.out.cell 2 (.int .i64 0) rfl
    have r3 := KR4.out.cell 3 (.int .i64 bv) rfl
    have r4 := KR4.out.cell 4 (.string ⟨#[]⟩) rfl
    have Z4 : w.heap.size + 2 ≤ w4.heap.size := by have := E4.out.size; have := Z0.out; omega
    go_wp2_with (at_builtin; refine wpList_append_row (w := w4) rfl (.tmp 56) (.tmp 58) 29 35 (.agg #[.int .i64 0, .int .i64 0, .int .i64 0, .int .i64 0, .string ⟨#[]⟩]) 5 48 rfl Try.underlying29 Try.infoRcdS rfl (by omega) (w.heap.size + 2) (.slice (some ⟨w.heap.size + 2, 0, none⟩) 0 0) (rcdR (([] : List Rcd))) rfl L4.out [.int .i64 1, .int .i64 a.term, .int .i64 0, .int .i64 bv, .string ⟨#[]⟩] rfl (rcd_cells _ _ _ _ _) rfl (Nat.zero_le _) (by omega) Z4 ?_; intro lvh w5 hO5 hb5 _ _; refine Shut.out ?_)
    unfold Shut
    have L5 : Hid (Owns w5 (w.heap.size + 2) 35 5 lvh (rcdR ([⟨1, a.term, 0, bv, ⟨#[]⟩⟩] : List Rcd))) := hO5
    have D5 : Hid (Below w.heap.size w w5) := D4.out.trans (hb5.mono (by omega))
    have E5 : Hid (Below (w.heap.size + 2) w0 w5) := E4.out.trans hb5
    clear hO5 hb5 r0 r1 r2 r3 r4 D4 E4 L4 KR4
    go_wp2_with fail
    have st : Below w.heap.size w w5 ∧ Below (w.heap.size + 2) w0 w5 ∧ Owns w5 (w.heap.size + 2) 35 5 (lvh) (rcdR ([⟨1, a.term, 0, bv, ⟨#[]⟩⟩] : List Rcd)) := ⟨D5.out, E5.out, L5.out⟩
    have HRL : Hid (([⟨1, a.term, 0, bv, ⟨#[]⟩⟩] : List Rcd).length ≤ 1) := by unfold Hid; simp
    clear D5 E5 L5
    generalize hrows : ([⟨1, a.term, 0, bv, ⟨#[]⟩⟩] : List Rcd) = rows at *
    generalize hlv : (lvh : Value) = lv at *
    clear hlv hrows
    go_loopw [8] (fun v8 wr => ∃ k : Nat, k ≤ n ∧ k ≤ m ∧ v8 = .int .i64 (k : Int) ∧ Hid (∀ j, j < k → a.ents.getD j default = b.ents.getD j default) ∧ Below w.heap.size w wr ∧ Below (w.heap.size + 2) w0 wr ∧ Owns wr (w.heap.size + 2) 35 5 lv (rcdR rows)) (fun i _ => n - (intOf i).toNat)
    case atStart => exact ⟨0, by omega, by omega, rfl, fun j hj => by omega, st⟩
    case round =>
     obtain ⟨k, hk, hk', rfl, HS, hD, hE, hLo⟩ := hrel
     have DR : Hid (Below w.heap.size w wr) := hD
     have ER : Hid (Below (w.heap.size + 2) w0 wr) := hE
     have LR : Hid (Owns wr (w.heap.size + 2) 35 5 lv (rcdR rows)) := hLo
     clear hD hE hLo st
     by_cases h1 : k < n
     ·have q3 : (k : Int) < (n : Int) := by omega
      by_cases h2 : k < m
      ·have q4 : (k : Int) < (m : Int) := by omega
       obtain ⟨g, off, rfl, hg, hc0, hc1⟩ := HL.out k (by omega)
       obtain ⟨g', off', rfl, hg', hd0, hd1⟩ := HL1.out k (by omega)
       have G1 : g < w.heap.size := Nat.lt_of_lt_of_le hg HB.out
       have G2 : g' < w.heap.size := Nat.lt_of_lt_of_le hg' HB.out
       rw [← DR.out.cell (p := ⟨_, _, none⟩) G1] at hc0 hc1
       rw [← DR.out.cell (p := ⟨_, _, none⟩) G2] at hd0 hd1
       generalize hya : a.ents.getD k default = ya at *
       generalize hyb : b.ents.getD k default = yb at *
       have HYA : Hid (a.ents.getD k default = ya) := hya
       have HYB : Hid (b.ents.getD k default = yb) := hyb
       clear hya hyb hg hg' G1 G2
       obtain ⟨t, d⟩ := ya
       obtain ⟨t', d'⟩ := yb
       simp only at hc0 hc1 hd0 hd1
       by_cases hq : t = t' ∧ d = d'
       ·obtain ⟨rfl, rfl⟩ := hq
        have S0 : Hid (wr.drew.cell? ⟨w.heap.size, 4, none⟩ = some (.slice (some ⟨g, off, none⟩) n cap) ∧ wr.drew.cell? ⟨w.heap.size + 1, 4, none⟩ = some (.slice (some ⟨g', off', none⟩) m cap1) ∧ wr.drew.cell? ⟨g, off + k * 2, none⟩ = some (.int .i64 t) ∧ wr.drew.cell? ⟨g, off + k * 2 + 1, none⟩ = some (.string d) ∧ wr.drew.cell? ⟨g', off' + k * 2, none⟩ = some (.int .i64 t) ∧ wr.drew.cell? ⟨g', off' + k * 2 + 1, none⟩ = some (.string d)) := ⟨(KA.out.on ER.out (by omega)).cell 4 _ rfl, (KB.out.on ER.out (by omega)).cell 4 _ rfl, hc0, hc1, hd0, hd1⟩
        have DX : Hid (Below w.heap.size w wr.drew) := DR.out.drew
        have EX : Hid (Below (w.heap.size + 2) w0 wr.drew) := ER.out.drew
        have LX : Hid (Owns wr.drew (w.heap.size + 2) 35 5 lv (rcdR rows)) := LR.out.heap rfl
        go_wp2_with fail
        refine wp_region_until (fun w' => w'.cell? ⟨w.heap.size, 4, none⟩ = some (.slice (some ⟨g, off, none⟩) n cap) ∧ w'.cell? ⟨w.heap.size + 1, 4, none⟩ = some (.slice (some ⟨g', off', none⟩) m cap1) ∧ w'.cell? ⟨g, off + k * 2, none⟩ = some (.int .i64 t) ∧ w'.cell? ⟨g, off + k * 2 + 1, none⟩ = some (.string d) ∧ w'.cell? ⟨g', off' + k * 2, none⟩ = some (.int .i64 t) ∧ w'.cell? ⟨g', off' + k * 2 + 1, none⟩ = some (.string d)) (fun _ => false) 25 (by rfl) (by kernel_rfl) ?_
        refine until_take 0 (v := ?_) (by rfl) (by kernel_rfl) (by exact fun _ _ _ h => h) (by rfl) ?_ S0.out ?_
        rotate_left
        ·intro w hSw
         try dsimp only at hSw
         go_simp
         try with_reducible rfl
        try simp only [Act.put, setIfInBounds_toArray, set_cons_zero, set_cons_succ]
        refine until_take 1 (v := ?_) (by rfl) (by kernel_rfl) (by exact fun _ _ _ h => h) (by rfl) ?_ S0.out ?_
        rotate_left
        ·intro w hSw
         try dsimp only at hSw
         go_simp
         try with_reducible rfl
        try simp only [Act.put, setIfInBounds_toArray, set_cons_zero, set_cons_succ]
        refine until_take 2 (v := ?_) (by rfl) (by kernel_rfl) (by exact fun _ _ _ h => h) (by rfl) ?_ S0.out ?_
        rotate_left
        ·intro w hSw
         try dsimp only at hSw
         go_simp
         try with_reducible rfl
        try simp only [Act.put, setIfInBounds_toArray, set_cons_zero, set_cons_succ]
        refine until_take 3 (v := ?_) (by rfl) (by kernel_rfl) (by exact fun _ _ _ h => h) (by rfl) ?_ S0.out ?_
        rotate_left
        ·intro w hSw
         try dsimp only at hSw
         go_simp
         try with_reducible rfl
        try simp only [Act.put, setIfInBounds_toArray, set_cons_zero, set_cons_succ]
        refine until_take 4 (v := .bool true) (by rfl) (by kernel_rfl) (by exact fun _ _ _ h => h) (by rfl) ?_ S0.out ?_
        ·intro w hSw
         try dsimp only at hSw
         go_simp
         try omega
        try simp only [Act.put, setIfInBounds_toArray, set_cons_zero, set_cons_succ]
        refine until_take 5 (v := ?_) (by rfl) (by kernel_rfl) (by exact fun _ _ _ h => h) (by rfl) ?_ S0.out ?_
        rotate_left
        ·intro w hSw
         try dsimp only at hSw
         go_simp
         try with_reducible rfl
        try simp only [Act.put, setIfInBounds_toArray, set_cons_zero, set_cons_succ]
        refine until_take 6 (v := ?_) (by rfl) (by kernel_rfl) (by exact fun _ _ _ h => h) (by rfl) ?_ S0.out ?_
        rotate_left
        ·intro w hSw
         try dsimp only at hSw
         go_simp
         try with_reducible rfl
        try simp only [Act.put, setIfInBounds_toArray, set_cons_zero, set_cons_succ]
        refine until_take 7 (v := ?_) (by rfl) (by kernel_rfl) (by exact fun _ _ _ h => h) (by rfl) ?_ S0.out ?_
        rotate_left
        ·intro w hSw
         try dsimp only at hSw
         go_simp
         try with_reducible rfl
        try simp only [Act.put, setIfInBounds_toArray, set_cons_zero, set_cons_succ]
        refine until_take 8 (v := ?_) (by rfl) (by kernel_rfl) (by exact fun _ _ _ h => h) (by rfl) ?_ S0.out ?_
        rotate_left
        ·intro w hSw
         try dsimp only at hSw
         go_simp
         try with_reducible rfl
        try simp only [Act.put, setIfInBounds_toArray, set_cons_zero, set_cons_succ]
        refine until_take 9 (v := ?_) (by rfl) (by kernel_rfl) (by exact fun _ _ _ h => h) (by rfl) ?_ S0.out ?_
        rotate_left
        ·intro w hSw
         try dsimp only at hSw
         go_simp
         try with_reducible rfl
        try simp only [Act.put, setIfInBounds_toArray, set_cons_zero, set_cons_succ]
        refine until_take 10 (v := .bool true) (by rfl) (by kernel_rfl) (by exact fun _ _ _ h => h) (by rfl) ?_ S0.out ?_
        ·intro w hSw
         try dsimp only at hSw
         go_simp
         try omega
        try simp only [Act.put, setIfInBounds_toArray, set_cons_zero, set_cons_succ]
        refine until_take 11 (v := ?_) (by rfl) (by kernel_rfl) (by exact fun _ _ _ h => h) (by rfl) ?_ S0.out ?_
        rotate_left
        ·intro w hSw
         try dsimp only at hSw
         go_simp
         try with_reducible rfl
        try simp only [Act.put, setIfInBounds_toArray, set_cons_zero, set_cons_succ]
        refine until_take 12 (v := ?_) (by rfl) (by kernel_rfl) (by exact fun _ _ _ h => h) (by rfl) ?_ S0.out ?_
        rotate_left
        ·intro w hSw
         try dsimp only at hSw
         go_simp
         try with_reducible rfl
        try simp only [Act.put, setIfInBounds_toArray, set_cons_zero, set_cons_succ]
        refine until_take 13 (v := ?_) (by rfl) (by kernel_rfl) (by exact fun _ _ _ h => h) (by rfl) ?_ S0.out ?_
        rotate_left
        ·intro w hSw
         try dsimp only at hSw
         go_simp
         try with_reducible rfl
        try simp only [Act.put, setIfInBounds_toArray, set_cons_zero, set_cons_succ]
        refine until_take 14 (v := ?_) (by rfl) (by kernel_rfl) (by exact fun _ _ _ h => h) (by rfl) ?_ S0.out ?_
        rotate_left
        ·intro w hSw
         try dsimp only at hSw
         go_simp
         try with_reducible rfl
        try simp only [Act.put, setIfInBounds_toArray, set_cons_zero, set_cons_succ]
        refine until_take 15 (v := ?_) (by rfl) (by kernel_rfl) (by exact fun _ _ _ h => h) (by rfl) ?_ S0.out ?_
        rotate_left
        ·intro w hSw
         try dsimp only at hSw
         go_simp
         try with_reducible rfl
        try simp only [Act.put, setIfInBounds_toArray, set_cons_zero, set_cons_succ]
        refine until_take 16 (v := ?_) (by rfl) (by kernel_rfl) (by exact fun _ _ _ h => h) (by rfl) ?_ S0.out ?_
        rotate_left
        ·intro w hSw
         try dsimp only at hSw
         go_simp
         try with_reducible rfl
        try simp only [Act.put, setIfInBounds_toArray, set_cons_zero, set_cons_succ]
        refine until_take 17 (v := ?_) (by rfl) (by kernel_rfl) (by exact fun _ _ _ h => h) (by rfl) ?_ S0.out ?_
        rotate_left
        ·intro w hSw
         try dsimp only at hSw
         go_simp
         try with_reducible rfl
        try simp only [Act.put, setIfInBounds_toArray, set_cons_zero, set_cons_succ]
        refine until_take 18 (v := ?_) (by rfl) (by kernel_rfl) (by exact fun _ _ _ h => h) (by rfl) ?_ S0.out ?_
        rotate_left
        ·intro w hSw
         try dsimp only at hSw
         go_simp
         try with_reducible rfl
        try simp only [Act.put, setIfInBounds_toArray, set_cons_zero, set_cons_succ]
        refine until_take 19 (v := ?_) (by rfl) (by kernel_rfl) (by exact fun _ _ _ h => h) (by rfl) ?_ S0.out ?_
        rotate_left
        ·intro w hSw
         try dsimp only at hSw
         go_simp
         try with_reducible rfl
        try simp only [Act.put, setIfInBounds_toArray, set_cons_zero, set_cons_succ]
        refine until_take 20 (v := ?_) (by rfl) (by kernel_rfl) (by exact fun _ _ _ h => h) (by rfl) ?_ S0.out ?_
        rotate_left
        ·intro w hSw
         try dsimp only at hSw
         go_simp
         try with_reducible rfl
        try simp only [Act.put, setIfInBounds_toArray, set_cons_zero, set_cons_succ]
        refine until_take 21 (v := ?_) (by rfl) (by kernel_rfl) (by exact fun _ _ _ h => h) (by rfl) ?_ S0.out ?_
        rotate_left
        ·intro w hSw
         try dsimp only at hSw
         go_simp
         try with_reducible rfl
        try simp only [Act.put, setIfInBounds_toArray, set_cons_zero, set_cons_succ]
        refine until_take 22 (v := ?_) (by rfl) (by kernel_rfl) (by exact fun _ _ _ h => h) (by rfl) ?_ S0.out ?_
        rotate_left
        ·intro w hSw
         try dsimp only at hSw
         go_simp
         try with_reducible rfl
        try simp only [Act.put, setIfInBounds_toArray, set_cons_zero, set_cons_succ]
        refine until_take 23 (v := .bool true) (by rfl) (by kernel_rfl) (by exact fun _ _ _ h => h) (by rfl) ?_ S0.out ?_
        ·intro w hSw
         try dsimp only at hSw
         go_simp
        try simp only [Act.put, setIfInBounds_toArray, set_cons_zero, set_cons_succ]
        refine until_take 24 (v := ?_) (by rfl) (by kernel_rfl) (by exact fun _ _ _ h => h) (by rfl) ?_ S0.out ?_
        rotate_left
        ·intro w hSw
         try dsimp only at hSw
         go_simp
         try with_reducible rfl
        try simp only [Act.put, setIfInBounds_toArray, set_cons_zero, set_cons_succ]
        refine until_done (by kernel_rfl) ?_ _
        clear S0
        generalize wr.drew = X at *
        go_wp2_with fail
        go_roundw
        case rel => exact ⟨k + 1, by omega, by omega, by go_num, fun j hj => by
         rcases Nat.lt_succ_iff_lt_or_eq.1 hj with h | rfl
         ·exact HS.out j h
         ·rw [HYA.out, HYB.out], DX.out, EX.out, LX.out⟩
        case measure => simp [intOf]; omega
       ·have HQ : Hid (¬ (t = t' ∧ d = d')) := hq
        have HQF : Hid ((decide (t = t') && (d.toList == d'.toList)) = false) := by
         unfold Hid
         rw [toList_beq]
         by_cases e1 : t = t'
         ·have e2 : ¬ d = d' := fun e => hq ⟨e1, e⟩
          simp [e2]
         ·simp [e1]
        have HPRE : Hid (Pre a.ents b.ents k) := ⟨by have := HNA.out; omega, by have := HNB.out; omega, HS.out, fun _ _ e => by rw [HYA.out, HYB.out] at e; injection e with e1 e2; exact HQ.out ⟨e1, e2⟩⟩
        clear hq
        have S0 : Hid (wr.drew.cell? ⟨w.heap.size, 4, none⟩ = some (.slice (some ⟨g, off, none⟩) n cap) ∧ wr.drew.cell? ⟨w.heap.size + 1, 4, none⟩ = some (.slice (some ⟨g', off', none⟩) m cap1) ∧ wr.drew.cell? ⟨g, off + k * 2, none⟩ = some (.int .i64 t) ∧ wr.drew.cell? ⟨g, off + k * 2 + 1, none⟩ = some (.string d) ∧ wr.drew.cell? ⟨g', off' + k * 2, none⟩ = some (.int .i64 t') ∧ wr.drew.cell? ⟨g', off' + k * 2 + 1, none⟩ = some (.string d')) := ⟨(KA.out.on ER.out (by omega)).cell 4 _ rfl, (KB.out.on ER.out (by omega)).cell 4 _ rfl, hc0, hc1, hd0, hd1⟩
        have DX : Hid (Below w.heap.size w wr.drew) := DR.out.drew
        have EX : Hid (Below (w.heap.size + 2) w0 wr.drew) := ER.out.drew
        have LX : Hid (Owns wr.drew (w.heap.size + 2) 35 5 lv (rcdR rows)) := LR.out.heap rfl
        go_wp2_with fail
        refine wp_region_until (fun w' => w'.cell? ⟨w.heap.size, 4, none⟩ = some (.slice (some ⟨g, off, none⟩) n cap) ∧ w'.cell? ⟨w.heap.size + 1, 4, none⟩ = some (.slice (some ⟨g', off', none⟩) m cap1) ∧ w'.cell? ⟨g, off + k * 2, none⟩ = some (.int .i64 t) ∧ w'.cell? ⟨g, off + k * 2 + 1, none⟩ = some (.string d) ∧ w'.cell? ⟨g', off' + k * 2, none⟩ = some (.int .i64 t') ∧ w'.cell? ⟨g', off' + k * 2 + 1, none⟩ = some (.string d')) (fun _ => false) 25 (by rfl) (by kernel_rfl) ?_
        refine until_take 0 (v := ?_) (by rfl) (by kernel_rfl) (by exact fun _ _ _ h => h) (by rfl) ?_ S0.out ?_
        rotate_left
        ·intro w hSw
         try dsimp only at hSw
         go_simp
         try with_reducible rfl
        try simp only [Act.put, setIfInBounds_toArray, set_cons_zero, set_cons_succ]
        refine until_take 1 (v := ?_) (by rfl) (by kernel_rfl) (by exact fun _ _ _ h => h) (by rfl) ?_ S0.out ?_
        rotate_left
        ·intro w hSw
         try dsimp only at hSw
         go_simp
         try with_reducible rfl
        try simp only [Act.put, setIfInBounds_toArray, set_cons_zero, set_cons_succ]
        refine until_take 2 (v := ?_) (by rfl) (by kernel_rfl) (by exact fun _ _ _ h => h) (by rfl) ?_ S0.out ?_
        rotate_left
        ·intro w hSw
         try dsimp only at hSw
         go_simp
         try with_reducible rfl
        try simp only [Act.put, setIfInBounds_toArray, set_cons_zero, set_cons_succ]
        refine until_take 3 (v := ?_) (by rfl) (by kernel_rfl) (by exact fun _ _ _ h => h) (by rfl) ?_ S0.out ?_
        rotate_left
        ·intro w hSw
         try dsimp only at hSw
         go_simp
         try with_reducible rfl
        try simp only [Act.put, setIfInBounds_toArray, set_cons_zero, set_cons_succ]
        refine until_take 4 (v := .bool true) (by rfl) (by kernel_rfl) (by exact fun _ _ _ h => h) (by rfl) ?_ S0.out ?_
        ·intro w hSw
         try dsimp only at hSw
         go_simp
         try omega
        try simp only [Act.put, setIfInBounds_toArray, set_cons_zero, set_cons_succ]
        refine until_take 5 (v := ?_) (by rfl) (by kernel_rfl) (by exact fun _ _ _ h => h) (by rfl) ?_ S0.out ?_
        rotate_left
        ·intro w hSw
         try dsimp only at hSw
         go_simp
         try with_reducible rfl
        try simp only [Act.put, setIfInBounds_toArray, set_cons_zero, set_cons_succ]
        refine until_take 6 (v := ?_) (by rfl) (by kernel_rfl) (by exact fun _ _ _ h => h) (by rfl) ?_ S0.out ?_
        rotate_left
        ·intro w hSw
         try dsimp only at hSw
         go_simp
         try with_reducible rfl
        try simp only [Act.put, setIfInBounds_toArray, set_cons_zero, set_cons_succ]
        refine until_take 7 (v := ?_) (by rfl) (by kernel_rfl) (by exact fun _ _ _ h => h) (by rfl) ?_ S0.out ?_
        rotate_left
        ·intro w hSw
         try dsimp only at hSw
         go_simp
         try with_reducible rfl
        try simp only [Act.put, setIfInBounds_toArray, set_cons_zero, set_cons_succ]
        refine until_take 8 (v := ?_) (by rfl) (by kernel_rfl) (by exact fun _ _ _ h => h) (by rfl) ?_ S0.out ?_
        rotate_left
        ·intro w hSw
         try dsimp only at hSw
         go_simp
         try with_reducible rfl
        try simp only [Act.put, setIfInBounds_toArray, set_cons_zero, set_cons_succ]
        refine until_take 9 (v := ?_) (by rfl) (by kernel_rfl) (by exact fun _ _ _ h => h) (by rfl) ?_ S0.out ?_
        rotate_left
        ·intro w hSw
         try dsimp only at hSw
         go_simp
         try with_reducible rfl
        try simp only [Act.put, setIfInBounds_toArray, set_cons_zero, set_cons_succ]
        refine until_take 10 (v := .bool true) (by rfl) (by kernel_rfl) (by exact fun _ _ _ h => h) (by rfl) ?_ S0.out ?_
        ·intro w hSw
         try dsimp only at hSw
         go_simp
         try omega
        try simp only [Act.put, setIfInBounds_toArray, set_cons_zero, set_cons_succ]
        refine until_take 11 (v := ?_) (by rfl) (by kernel_rfl) (by exact fun _ _ _ h => h) (by rfl) ?_ S0.out ?_
        rotate_left
        ·intro w hSw
         try dsimp only at hSw
         go_simp
         try with_reducible rfl
        try simp only [Act.put, setIfInBounds_toArray, set_cons_zero, set_cons_succ]
        refine until_take 12 (v := ?_) (by rfl) (by kernel_rfl) (by exact fun _ _ _ h => h) (by rfl) ?_ S0.out ?_
        rotate_left
        ·intro w hSw
         try dsimp only at hSw
         go_simp
         try with_reducible rfl
        try simp only [Act.put, setIfInBounds_toArray, set_cons_zero, set_cons_succ]
        refine until_take 13 (v := ?_) (by rfl) (by kernel_rfl) (by exact fun _ _ _ h => h) (by rfl) ?_ S0.out ?_
        rotate_left
        ·intro w hSw
         try dsimp only at hSw
         go_simp
         try with_reducible rfl
        try simp only [Act.put, setIfInBounds_toArray, set_cons_zero, set_cons_succ]
        refine until_take 14 (v := ?_) (by rfl) (by kernel_rfl) (by exact fun _ _ _ h => h) (by rfl) ?_ S0.out ?_
        rotate_left
        ·intro w hSw
         try dsimp only at hSw
         go_simp
         try with_reducible rfl
        try simp only [Act.put, setIfInBounds_toArray, set_cons_zero, set_cons_succ]
        refine until_take 15 (v := ?_) (by rfl) (by kernel_rfl) (by exact fun _ _ _ h => h) (by rfl) ?_ S0.out ?_
        rotate_left
        ·intro w hSw
         try dsimp only at hSw
         go_simp
         try with_reducible rfl
        try simp only [Act.put, setIfInBounds_toArray, set_cons_zero, set_cons_succ]
        refine until_take 16 (v := ?_) (by rfl) (by kernel_rfl) (by exact fun _ _ _ h => h) (by rfl) ?_ S0.out ?_
        rotate_left
        ·intro w hSw
         try dsimp only at hSw
         go_simp
         try with_reducible rfl
        try simp only [Act.put, setIfInBounds_toArray, set_cons_zero, set_cons_succ]
        refine until_take 17 (v := ?_) (by rfl) (by kernel_rfl) (by exact fun _ _ _ h => h) (by rfl) ?_ S0.out ?_
        rotate_left
        ·intro w hSw
         try dsimp only at hSw
         go_simp
         try with_reducible rfl
        try simp only [Act.put, setIfInBounds_toArray, set_cons_zero, set_cons_succ]
        refine until_take 18 (v := ?_) (by rfl) (by kernel_rfl) (by exact fun _ _ _ h => h) (by rfl) ?_ S0.out ?_
        rotate_left
        ·intro w hSw
         try dsimp only at hSw
         go_simp
         try with_reducible rfl
        try simp only [Act.put, setIfInBounds_toArray, set_cons_zero, set_cons_succ]
        refine until_take 19 (v := ?_) (by rfl) (by kernel_rfl) (by exact fun _ _ _ h => h) (by rfl) ?_ S0.out ?_
        rotate_left
        ·intro w hSw
         try dsimp only at hSw
         go_simp
         try with_reducible rfl
        try simp only [Act.put, setIfInBounds_toArray, set_cons_zero, set_cons_succ]
        refine until_take 20 (v := ?_) (by rfl) (by kernel_rfl) (by exact fun _ _ _ h => h) (by rfl) ?_ S0.out ?_
        rotate_left
        ·intro w hSw
         try dsimp only at hSw
         go_simp
         try with_reducible rfl
        try simp only [Act.put, setIfInBounds_toArray, set_cons_zero, set_cons_succ]
        refine until_take 21 (v := ?_) (by rfl) (by kernel_rfl) (by exact fun _ _ _ h => h) (by rfl) ?_ S0.out ?_
        rotate_left
        ·intro w hSw
         try dsimp only at hSw
         go_simp
         try with_reducible rfl
        try simp only [Act.put, setIfInBounds_toArray, set_cons_zero, set_cons_succ]
        refine until_take 22 (v := ?_) (by rfl) (by kernel_rfl) (by exact fun _ _ _ h => h) (by rfl) ?_ S0.out ?_
        rotate_left
        ·intro w hSw
         try dsimp only at hSw
         go_simp
         try with_reducible rfl
        try simp only [Act.put, setIfInBounds_toArray, set_cons_zero, set_cons_succ]
        refine until_take 23 (v := .bool false) (by rfl) (by kernel_rfl) (by exact fun _ _ _ h => h) (by rfl) ?_ S0.out ?_
        ·intro w hSw
         try dsimp only at hSw
         go_simp
         first | exact HQF.out | (intro h1 h2; exact HQ.out ⟨h1, h2⟩) | (intro h1; simp only [h1, true_and] at *; exact HQD.out) | simpa using HQF.out
        try simp only [Act.put, setIfInBounds_toArray, set_cons_zero, set_cons_succ]
        refine until_take 24 (v := ?_) (by rfl) (by kernel_rfl) (by exact fun _ _ _ h => h) (by rfl) ?_ S0.out ?_
        rotate_left
        ·intro w hSw
         try dsimp only at hSw
         go_simp
         try with_reducible rfl
        try simp only [Act.put, setIfInBounds_toArray, set_cons_zero, set_cons_succ]
        refine until_done (by kernel_rfl) ?_ _
        clear S0
        generalize wr.drew = X at *
        clear hc0 hc1 hd0 hd1
        have a2' := (KA.out.on EX.out (by omega)).cell 2 (.int .i64 a.base) rfl
        have a4' := (KA.out.on EX.out (by omega)).cell 4 (.slice (some ⟨g, off, none⟩) n cap) rfl
        have b4' := (KB.out.on EX.out (by omega)).cell 4 (.slice (some ⟨g', off', none⟩) m cap1) rfl
        have ZX : w.heap.size + 2 ≤ X.heap.size := by have := EX.out.size; have := Z0.out; omega
        have LE : Hid ((rcdR rows).length ≤ 2097152) := by unfold Hid; rw [rcdR_length]; have := HRL.out; omega
        have HCU : Hid (cutR a k = [⟨3, 0, a.base + (k : Int) + 1, 0, ⟨#[]⟩⟩]) := by unfold Hid cutR; rw [if_pos (by have := HNA.out; omega)]
        go_wp2_with (at_builtin; refine wpList_append_row (w := X) rfl (.tmp 92) (.tmp 99) 29 35 (.agg #[.int .i64 0, .int .i64 0, .int .i64 0, .int .i64 0, .string ⟨#[]⟩]) 5 48 rfl Try.underlying29 Try.infoRcdS rfl (by omega) (w.heap.size + 2) (lv) (rcdR (rows)) rfl LX.out [.int .i64 3, .int .i64 0, .int .i64 (a.base + (k : Int) + 1), .int .i64 0, .string ⟨#[]⟩] rfl (rcd_cells _ _ _ _ _) rfl LE.out (by omega) ZX ?_; intro lv2 wY hOY hbY _ _; refine Shut.out ?_)
        unfold Shut
        have LY : Hid (Owns wY (w.heap.size + 2) 35 5 lv2 (rcdR (rows ++ cutR a k))) := by unfold Hid; rw [HCU.out, rcdR_snoc']; exact hOY
        have DY : Hid (Below w.heap.size w wY) := DX.out.trans (hbY.mono (by omega))
        have EY : Hid (Below (w.heap.size + 2) w0 wY) := EX.out.trans hbY
        have b4y := (KB.out.on EY.out (by omega)).cell 4 (.slice (some ⟨g', off', none⟩) m cap1) rfl
        clear hOY hbY a2' a4' b4' LX
        have HC1 : Hid ((rows ++ cutR a k).length ≤ 2) := by
         unfold Hid
         rw [HCU.out, List.length_append]
         have := HRL.out
         simp
         try omega
        generalize hr2 : rows ++ cutR a k = rows2 at *
        have HR2 : Hid (rows ++ cutR a k = rows2) := hr2
        clear hr2
        go_wp2_with fail
        go_loopw [6, 9] (fun v6 v9 wr => ∃ i : Nat, k ≤ i ∧ i ≤ m ∧ v9 = .int .i64 (i : Int) ∧ Owns wr (w.heap.size + 2) 35 5 v6 (rcdR (rows2 ++ entFrom b k (i - k))) ∧ Below w.heap.size w wr ∧ Below (w.heap.size + 2) w0 wr) (fun _ i _ => m - (intOf i).toNat)
        case atStart => exact ⟨k, Nat.le_refl _, by omega, rfl, by rw [Nat.sub_self, show entFrom b k 0 = [] from rfl, List.append_nil]; exact LY.out, DY.out, EY.out⟩
        case round =>
         obtain ⟨i, hki, him, rfl, hLo, hD, hE⟩ := hrel
         have LI : Hid (Owns wr (w.heap.size + 2) 35 5 u6 (rcdR (rows2 ++ entFrom b k (i - k)))) := hLo
         have DI : Hid (Below w.heap.size w wr) := hD
         have EI : Hid (Below (w.heap.size + 2) w0 wr) := hE
         have b2i := (KB.out.on EI.out (by omega)).cell 2 (.int .i64 a.base) rfl
         have b4i := (KB.out.on EI.out (by omega)).cell 4 (.slice (some ⟨g', off', none⟩) m cap1) rfl
         clear hLo hD hE LY DY EY b4y
         by_cases hlt : i < m
         ·have q7 : (i : Int) < (m : Int) := by omega
          obtain ⟨g2, o2, eg, hg2, hc0, hc1⟩ := HL1.out i (by omega)
          cases eg
          have G2 : g' < w.heap.size := Nat.lt_of_lt_of_le hg2 HB.out
          rw [← DI.out.cell (p := ⟨_, _, none⟩) G2] at hc0 hc1
          have HEF : Hid (entFrom b k (i + 1 - k) = entFrom b k (i - k) ++ [⟨2, (b.ents.getD i default).term, a.base + 1 + (i : Int), 0, (b.ents.getD i default).data⟩]) := by
           unfold Hid
           rw [show i + 1 - k = (i - k) + 1 by omega, entFrom_succ, show k + (i - k) = i by omega, HREC.out]
          generalize b.ents.getD i default = ye at *
          obtain ⟨et, ed⟩ := ye
          simp only at hc0 hc1 HEF
          have hzz : w.heap.size + 2 ≤ wr.drew.heap.size := by have h1 := EI.out.size; have h2 := Z0.out; show w.heap.size + 2 ≤ wr.heap.size; omega
          obtain ⟨nA, nm, nc, w5, r5, hO5, hb5, hk5, _⟩ := run_append_row (P := Try.prog) wr.drew 29 29 35 (.agg #[.int .i64 0, .int .i64 0, .int .i64 0, .int .i64 0, .string ⟨#[]⟩]) 5 48 Try.underlying29 Try.infoRcdS rfl (by omega) (w.heap.size + 2) u6 (rcdR (rows2 ++ entFrom b k (i - k))) (LI.out.kept fun _ _ _ => rfl) [.int .i64 2, .int .i64 et, .int .i64 (a.base + 1 + (i : Int)), .int .i64 0, .string ed] rfl (rcd_cells _ _ _ _ _) (by rw [rcdR_length, List.length_append, entFrom_length]; have := HC1.out; omega) (by omega) hzz
          have D5 : Hid (Below w.heap.size w w5) := DI.out.drew.trans (hb5.mono (by omega))
          have E5 : Hid (Below (w.heap.size + 2) w0 w5) := EI.out.drew.trans hb5
          have L5 : Hid (Owns w5 (w.heap.size + 2) 35 5 (.slice nA nm nc) (rcdR (rows2 ++ entFrom b k (i + 1 - k)))) := by unfold Hid; rw [HEF.out, ← List.append_assoc, rcdR_snoc']; exact hO5
          have S0 : Hid (wr.drew.cell? ⟨w.heap.size + 1, 2, none⟩ = some (.int .i64 a.base) ∧ wr.drew.cell? ⟨w.heap.size + 1, 4, none⟩ = some (.slice (some ⟨g', off', none⟩) m cap1) ∧ wr.drew.cell? ⟨g', off' + i * 2, none⟩ = some (.int .i64 et) ∧ wr.drew.cell? ⟨g', off' + i * 2 + 1, none⟩ = some (.string ed)) := ⟨b2i, b4i, hc0, hc1⟩
          clear hc0 hc1 hO5 hb5 hk5 hg2 G2
          go_wp2_with fail
          have hbb1 : 0 ≤ a.base := HBB.out.1
          have hbb2 : a.base ≤ 100000 := HBB.out.2
          have qi : (i : Int) < 60 := by omega
          have hw1 : IntKind.i64.wrap (a.base + 1) = a.base + 1 := by rw [IntKind.wrap_i64]; omega
          have hw2 : IntKind.i64.wrap (a.base + 1 + (i : Int)) = a.base + 1 + (i : Int) := by rw [IntKind.wrap_i64]; omega
          refine wp_region_until (fun w' => w'.cell? ⟨w.heap.size + 1, 2, none⟩ = some (.int .i64 a.base) ∧ w'.cell? ⟨w.heap.size + 1, 4, none⟩ = some (.slice (some ⟨g', off', none⟩) m cap1) ∧ w'.cell? ⟨g', off' + i * 2, none⟩ = some (.int .i64 et) ∧ w'.cell? ⟨g', off' + i * 2 + 1, none⟩ = some (.string ed)) (fun i => i == 20 || i == 21) 22 (by rfl) (by kernel_rfl) ?_
          refine until_take 0 (v := ?_) (by rfl) (by kernel_rfl) (by exact fun _ _ _ h => h) (by rfl) ?_ S0.out ?_
          rotate_left
          ·intro w hSw
           try dsimp only at hSw
           go_simp
           try with_reducible rfl
          try simp only [Act.put, setIfInBounds_toArray, set_cons_zero, set_cons_succ]
          refine until_take 1 (v := ?_) (by rfl) (by kernel_rfl) (by exact fun _ _ _ h => h) (by rfl) ?_ S0.out ?_
          rotate_left
          ·intro w hSw
           try dsimp only at hSw
           go_simp
           try with_reducible rfl
          try simp only [Act.put, setIfInBounds_toArray, set_cons_zero, set_cons_succ]
          refine until_take 2 (v := ?_) (by rfl) (by kernel_rfl) (by exact fun _ _ _ h => h) (by rfl) ?_ S0.out ?_
          rotate_left
          ·intro w hSw
           try dsimp only at hSw
           go_simp
           try with_reducible rfl
          try simp only [Act.put, setIfInBounds_toArray, set_cons_zero, set_cons_succ]
          refine until_take 3 (v := ?_) (by rfl) (by kernel_rfl) (by exact fun _ _ _ h => h) (by rfl) ?_ S0.out ?_
          rotate_left
          ·intro w hSw
           try dsimp only at hSw
           go_simp
           try with_reducible rfl
          try simp only [Act.put, setIfInBounds_toArray, set_cons_zero, set_cons_succ]
          refine until_take 4 (v := ?_) (by rfl) (by kernel_rfl) (by exact fun _ _ _ h => h) (by rfl) ?_ S0.out ?_
          rotate_left
          ·intro w hSw
           try dsimp only at hSw
           go_simp
           try with_reducible rfl
          try simp only [Act.put, setIfInBounds_toArray, set_cons_zero, set_cons_succ]
          refine until_take 5 (v := ?_) (by rfl) (by kernel_rfl) (by exact fun _ _ _ h => h) (by rfl) ?_ S0.out ?_
          rotate_left
          ·intro w hSw
           try dsimp only at hSw
           go_simp
           try with_reducible rfl
          try simp only [Act.put, setIfInBounds_toArray, set_cons_zero, set_cons_succ]
          refine until_take 6 (v := ?_) (by rfl) (by kernel_rfl) (by exact fun _ _ _ h => h) (by rfl) ?_ S0.out ?_
          rotate_left
          ·intro w hSw
           try dsimp only at hSw
           go_simp
           try with_reducible rfl
          try simp only [Act.put, setIfInBounds_toArray, set_cons_zero, set_cons_succ]
          refine until_take 7 (v := ?_) (by rfl) (by kernel_rfl) (by exact fun _ _ _ h => h) (by rfl) ?_ S0.out ?_
          rotate_left
          ·intro w hSw
           try dsimp only at hSw
           go_simp
           try with_reducible rfl
          try simp only [Act.put, setIfInBounds_toArray, set_cons_zero, set_cons_succ]
          refine until_take 8 (v := ?_) (by rfl) (by kernel_rfl) (by exact fun _ _ _ h => h) (by rfl) ?_ S0.out ?_
          rotate_left
          ·intro w hSw
           try dsimp only at hSw
           go_simp
           try with_reducible rfl
          try simp only [Act.put, setIfInBounds_toArray, set_cons_zero, set_cons_succ]
          refine until_take 9 (v := ?_) (by rfl) (by kernel_rfl) (by exact fun _ _ _ h => h) (by rfl) ?_ S0.out ?_
          rotate_left
          ·intro w hSw
           try dsimp only at hSw
           go_simp
           try with_reducible rfl
          try simp only [Act.put, setIfInBounds_toArray, set_cons_zero, set_cons_succ]
          refine until_take 10 (v := ?_) (by rfl) (by kernel_rfl) (by exact fun _ _ _ h => h) (by rfl) ?_ S0.out ?_
          rotate_left
          ·intro w hSw
           try dsimp only at hSw
           go_simp
           try with_reducible rfl
          try simp only [Act.put, setIfInBounds_toArray, set_cons_zero, set_cons_succ]
          refine until_take 11 (v := ?_) (by rfl) (by kernel_rfl) (by exact fun _ _ _ h => h) (by rfl) ?_ S0.out ?_
          rotate_left
          ·intro w hSw
           try dsimp only at hSw
           go_simp
           try with_reducible rfl
          try simp only [Act.put, setIfInBounds_toArray, set_cons_zero, set_cons_succ]
          refine until_take 12 (v := ?_) (by rfl) (by kernel_rfl) (by exact fun _ _ _ h => h) (by rfl) ?_ S0.out ?_
          rotate_left
          ·intro w hSw
           try dsimp only at hSw
           go_simp
           try with_reducible rfl
          try simp only [Act.put, setIfInBounds_toArray, set_cons_zero, set_cons_succ]
          refine until_take 13 (v := ?_) (by rfl) (by kernel_rfl) (by exact fun _ _ _ h => h) (by rfl) ?_ S0.out ?_
          rotate_left
          ·intro w hSw
           try dsimp only at hSw
           go_simp
           try with_reducible rfl
          try simp only [Act.put, setIfInBounds_toArray, set_cons_zero, set_cons_succ]
          refine until_take 14 (v := ?_) (by rfl) (by kernel_rfl) (by exact fun _ _ _ h => h) (by rfl) ?_ S0.out ?_
          rotate_left
          ·intro w hSw
           try dsimp only at hSw
           go_simp
           try with_reducible rfl
          try simp only [Act.put, setIfInBounds_toArray, set_cons_zero, set_cons_succ]
          refine until_take 15 (v := ?_) (by rfl) (by kernel_rfl) (by exact fun _ _ _ h => h) (by rfl) ?_ S0.out ?_
          rotate_left
          ·intro w hSw
           try dsimp only at hSw
           go_simp
           try with_reducible rfl
          try simp only [Act.put, setIfInBounds_toArray, set_cons_zero, set_cons_succ]
          refine until_take 16 (v := ?_) (by rfl) (by kernel_rfl) (by exact fun _ _ _ h => h) (by rfl) ?_ S0.out ?_
          rotate_left
          ·intro w hSw
           try dsimp only at hSw
           go_simp
           try with_reducible rfl
          try simp only [Act.put, setIfInBounds_toArray, set_cons_zero, set_cons_succ]
          refine until_take 17 (v := ?_) (by rfl) (by kernel_rfl) (by exact fun _ _ _ h => h) (by rfl) ?_ S0.out ?_
          rotate_left
          ·intro w hSw
           try dsimp only at hSw
           go_simp
           try with_reducible rfl
          try simp only [Act.put, setIfInBounds_toArray, set_cons_zero, set_cons_succ]
          refine until_take 18 (v := ?_) (by rfl) (by kernel_rfl) (by exact fun _ _ _ h => h) (by rfl) ?_ S0.out ?_
          rotate_left
          ·intro w hSw
           try dsimp only at hSw
           go_simp
           try with_reducible rfl
          try simp only [Act.put, setIfInBounds_toArray, set_cons_zero, set_cons_succ]
          refine until_one 19 (by rfl) (by kernel_rfl) (fun K hK => ?_)
          go_simp
          refine hK.out _ _ (fun _ h => ⟨cell_alloc_keep h.1 _, cell_alloc_keep h.2.1 _, cell_alloc_keep h.2.2.1 _, cell_alloc_keep h.2.2.2 _⟩) ?_
          clear hK K
          try simp only [Act.put, setIfInBounds_toArray, set_cons_zero, set_cons_succ]
          refine until_one 20 (by rfl) (by kernel_rfl) (fun K hK => ?_)
          refine step_append_run (by rfl) (.tmp 109) (.tmp 128) 29 (by rfl) _ _ _ _ (by rfl) (by rfl) r5 ?_
          refine hK.out _ _ (fun h => by cases h) ?_
          clear hK K
          try simp only [Act.put, setIfInBounds_toArray, set_cons_zero, set_cons_succ]
          refine until_one 21 (by rfl) (by kernel_rfl) (fun K hK => ?_)
          go_simp
          refine hK.out _ _ (fun h => by cases h) ?_
          clear hK K
          try simp only [Act.put, setIfInBounds_toArray, set_cons_zero, set_cons_succ]
          refine until_done (by kernel_rfl) ?_ _
          go_wp2_with fail
          go_roundw
          case rel => exact ⟨i + 1, by omega, by omega, by go_num, L5.out, D5.out, E5.out⟩
          case measure => simp [intOf]; omega
         ·obtain rfl : i = m := by omega
          have HFL : Hid (rows2 ++ entFrom b k (i - k) = chList a b k) := by
           unfold Hid chList
           rw [HH.out, HNB.out, ← HR2.out]
          go_wp2_with fail
          go_ret2
          exact ⟨_, true, _, .inl ⟨rfl, HOK.out, k, HPRE.out, HFL.out⟩, rfl, LI.out.mono (by omega), DI.out⟩
      ·have HPRE : Hid (Pre a.ents b.ents k) := ⟨by have := HNA.out; omega, by have := HNB.out; omega, HS.out, fun _ hh => by have := HNB.out; omega⟩
       have q4 : (m : Int) ≤ (k : Int) := by omega
       have S0 : Hid (wr.drew.cell? ⟨w.heap.size, 4, none⟩ = some (.slice A n cap) ∧ wr.drew.cell? ⟨w.heap.size + 1, 4, none⟩ = some (.slice A1 m cap1)) := ⟨(KA.out.on ER.out (by omega)).cell 4 _ rfl, (KB.out.on ER.out (by omega)).cell 4 _ rfl⟩
       have DX : Hid (Below w.heap.size w wr.drew) := DR.out.drew
       have EX : Hid (Below (w.heap.size + 2) w0 wr.drew) := ER.out.drew
       have LX : Hid (Owns wr.drew (w.heap.size + 2) 35 5 lv (rcdR rows)) := LR.out.heap rfl
       go_wp2_with fail
       refine wp_region_until (fun w' => w'.cell? ⟨w.heap.size, 4, none⟩ = some (.slice A n cap) ∧ w'.cell? ⟨w.heap.size + 1, 4, none⟩ = some (.slice A1 m cap1)) (fun _ => false) 25 (by rfl) (by kernel_rfl) ?_
       refine until_take 0 (v := ?_) (by rfl) (by kernel_rfl) (by exact fun _ _ _ h => h) (by rfl) ?_ S0.out ?_
       rotate_left
       ·intro w hSw
        try dsimp only at hSw
        go_simp
        try with_reducible rfl
       try simp only [Act.put, setIfInBounds_toArray, set_cons_zero, set_cons_succ]
       refine until_take 1 (v := ?_) (by rfl) (by kernel_rfl) (by exact fun _ _ _ h => h) (by rfl) ?_ S0.out ?_
       rotate_left
       ·intro w hSw
        try dsimp only at hSw
        go_simp
        try with_reducible rfl
       try simp only [Act.put, setIfInBounds_toArray, set_cons_zero, set_cons_succ]
       refine until_take 2 (v := ?_) (by rfl) (by kernel_rfl) (by exact fun _ _ _ h => h) (by rfl) ?_ S0.out ?_
       rotate_left
       ·intro w hSw
        try dsimp only at hSw
        go_simp
        try with_reducible rfl
       try simp only [Act.put, setIfInBounds_toArray, set_cons_zero, set_cons_succ]
       refine until_take 3 (v := ?_) (by rfl) (by kernel_rfl) (by exact fun _ _ _ h => h) (by rfl) ?_ S0.out ?_
       rotate_left
       ·intro w hSw
        try dsimp only at hSw
        go_simp
        try with_reducible rfl
       try simp only [Act.put, setIfInBounds_toArray, set_cons_zero, set_cons_succ]
       refine until_take 4 (v := .bool true) (by rfl) (by kernel_rfl) (by exact fun _ _ _ h => h) (by rfl) ?_ S0.out ?_
       ·intro w hSw
        try dsimp only at hSw
        go_simp
        try omega
       try simp only [Act.put, setIfInBounds_toArray, set_cons_zero, set_cons_succ]
       refine until_take 5 (v := ?_) (by rfl) (by kernel_rfl) (by exact fun _ _ _ h => h) (by rfl) ?_ S0.out ?_
       rotate_left
       ·intro w hSw
        try dsimp only at hSw
        go_simp
        try with_reducible rfl
       try simp only [Act.put, setIfInBounds_toArray, set_cons_zero, set_cons_succ]
       refine until_take 6 (v := ?_) (by rfl) (by kernel_rfl) (by exact fun _ _ _ h => h) (by rfl) ?_ S0.out ?_
       rotate_left
       ·intro w hSw
        try dsimp only at hSw
        go_simp
        try with_reducible rfl
       try simp only [Act.put, setIfInBounds_toArray, set_cons_zero, set_cons_succ]
       refine until_take 7 (v := ?_) (by rfl) (by kernel_rfl) (by exact fun _ _ _ h => h) (by rfl) ?_ S0.out ?_
       rotate_left
       ·intro w hSw
        try dsimp only at hSw
        go_simp
        try with_reducible rfl
       try simp only [Act.put, setIfInBounds_toArray, set_cons_zero, set_cons_succ]
       refine until_take 8 (v := ?_) (by rfl) (by kernel_rfl) (by exact fun _ _ _ h => h) (by rfl) ?_ S0.out ?_
       rotate_left
       ·intro w hSw
        try dsimp only at hSw
        go_simp
        try with_reducible rfl
       try simp only [Act.put, setIfInBounds_toArray, set_cons_zero, set_cons_succ]
       refine until_take 9 (v := ?_) (by rfl) (by kernel_rfl) (by exact fun _ _ _ h => h) (by rfl) ?_ S0.out ?_
       rotate_left
       ·intro w hSw
        try dsimp only at hSw
        go_simp
        try with_reducible rfl
       try simp only [Act.put, setIfInBounds_toArray, set_cons_zero, set_cons_succ]
       refine until_take 10 (v := .bool false) (by rfl) (by kernel_rfl) (by exact fun _ _ _ h => h) (by rfl) ?_ S0.out ?_
       ·intro w hSw
        try dsimp only at hSw
        go_simp
        try omega
       try simp only [Act.put, setIfInBounds_toArray, set_cons_zero, set_cons_succ]
       refine until_take 11 (v := ?_) (by rfl) (by kernel_rfl) (by exact fun _ _ _ h => h) (by rfl) ?_ S0.out ?_
       rotate_left
       ·intro w hSw
        try dsimp only at hSw
        go_simp
        try with_reducible rfl
       try simp only [Act.put, setIfInBounds_toArray, set_cons_zero, set_cons_succ]
       refine until_take 12 (v := ?_) (by rfl) (by kernel_rfl) (by exact fun _ _ _ h => h) (by rfl) ?_ S0.out ?_
       rotate_left
       ·intro w hSw
        try dsimp only at hSw
        go_simp
        try with_reducible rfl
       try simp only [Act.put, setIfInBounds_toArray, set_cons_zero, set_cons_succ]
       refine until_skip 13 (by rfl) (by kernel_rfl) (by exact fun _ _ _ h => h) (by rfl) ?_
       try simp only [Act.put, setIfInBounds_toArray, set_cons_zero, set_cons_succ]
       refine until_skip 14 (by rfl) (by kernel_rfl) (by exact fun _ _ _ h => h) (by rfl) ?_
       try simp only [Act.put, setIfInBounds_toArray, set_cons_zero, set_cons_succ]
       refine until_skip 15 (by rfl) (by kernel_rfl) (by exact fun _ _ _ h => h) (by rfl) ?_
       try simp only [Act.put, setIfInBounds_toArray, set_cons_zero, set_cons_succ]
       refine until_skip 16 (by rfl) (by kernel_rfl) (by exact fun _ _ _ h => h) (by rfl) ?_
       try simp only [Act.put, setIfInBounds_toArray, set_cons_zero, set_cons_succ]
       refine until_skip 17 (by rfl) (by kernel_rfl) (by exact fun _ _ _ h => h) (by rfl) ?_
       try simp only [Act.put, setIfInBounds_toArray, set_cons_zero, set_cons_succ]
       refine until_skip 18 (by rfl) (by kernel_rfl) (by exact fun _ _ _ h => h) (by rfl) ?_
       try simp only [Act.put, setIfInBounds_toArray, set_cons_zero, set_cons_succ]
       refine until_skip 19 (by rfl) (by kernel_rfl) (by exact fun _ _ _ h => h) (by rfl) ?_
       try simp only [Act.put, setIfInBounds_toArray, set_cons_zero, set_cons_succ]
       refine until_skip 20 (by rfl) (by kernel_rfl) (by exact fun _ _ _ h => h) (by rfl) ?_
       try simp only [Act.put, setIfInBounds_toArray, set_cons_zero, set_cons_succ]
       refine until_skip 21 (by rfl) (by kernel_rfl) (by exact fun _ _ _ h => h) (by rfl) ?_
       try simp only [Act.put, setIfInBounds_toArray, set_cons_zero, set_cons_succ]
       refine until_skip 22 (by rfl) (by kernel_rfl) (by exact fun _ _ _ h => h) (by rfl) ?_
       try simp only [Act.put, setIfInBounds_toArray, set_cons_zero, set_cons_succ]
       refine until_skip 23 (by rfl) (by kernel_rfl) (by exact fun _ _ _ h => h) (by rfl) ?_
       try simp only [Act.put, setIfInBounds_toArray, set_cons_zero, set_cons_succ]
       refine until_take 24 (v := ?_) (by rfl) (by kernel_rfl) (by exact fun _ _ _ h => h) (by rfl) ?_ S0.out ?_
       rotate_left
       ·intro w hSw
        try dsimp only at hSw
        go_simp
        try with_reducible rfl
       try simp only [Act.put, setIfInBounds_toArray, set_cons_zero, set_cons_succ]
       refine until_done (by kernel_rfl) ?_ _
       clear S0
       generalize wr.drew = X at *
       have a2' := (KA.out.on EX.out (by omega)).cell 2 (.int .i64 a.base) rfl
       have a4' := (KA.out.on EX.out (by omega)).cell 4 (.slice A n cap) rfl
       have b4' := (KB.out.on EX.out (by omega)).cell 4 (.slice A1 m cap1) rfl
       have ZX : w.heap.size + 2 ≤ X.heap.size := by have := EX.out.size; have := Z0.out; omega
       have LE : Hid ((rcdR rows).length ≤ 2097152) := by unfold Hid; rw [rcdR_length]; have := HRL.out; omega
       have HCU : Hid (cutR a k = [⟨3, 0, a.base + (k : Int) + 1, 0, ⟨#[]⟩⟩]) := by unfold Hid cutR; rw [if_pos (by have := HNA.out; omega)]
       go_wp2_with (at_builtin; refine wpList_append_row (w := X) rfl (.tmp 92) (.tmp 99) 29 35 (.agg #[.int .i64 0, .int .i64 0, .int .i64 0, .int .i64 0, .string ⟨#[]⟩]) 5 48 rfl Try.underlying29 Try.infoRcdS rfl (by omega) (w.heap.size + 2) (lv) (rcdR (rows)) rfl LX.out [.int .i64 3, .int .i64 0, .int .i64 (a.base + (k : Int) + 1), .int .i64 0, .string ⟨#[]⟩] rfl (rcd_cells _ _ _ _ _) rfl LE.out (by omega) ZX ?_; intro lv2 wY hOY hbY _ _; refine Shut.out ?_)
       unfold Shut
       have LY : Hid (Owns wY (w.heap.size + 2) 35 5 lv2 (rcdR (rows ++ cutR a k))) := by unfold Hid; rw [HCU.out, rcdR_snoc']; exact hOY
       have DY : Hid (Below w.heap.size w wY) := DX.out.trans (hbY.mono (by omega))
       have EY : Hid (Below (w.heap.size + 2) w0 wY) := EX.out.trans hbY
       have b4y := (KB.out.on EY.out (by omega)).cell 4 (.slice A1 m cap1) rfl
       clear hOY hbY a2' a4' b4' LX
       have HC1 : Hid ((rows ++ cutR a k).length ≤ 2) := by
        unfold Hid
        rw [HCU.out, List.length_append]
        have := HRL.out
        simp
        try omega
       generalize hr2 : rows ++ cutR a k = rows2 at *
       have HR2 : Hid (rows ++ cutR a k = rows2) := hr2
       clear hr2
       go_wp2_with fail
       go_loopw [6, 9] (fun v6 v9 wr => ∃ i : Nat, k ≤ i ∧ i ≤ m ∧ v9 = .int .i64 (i : Int) ∧ Owns wr (w.heap.size + 2) 35 5 v6 (rcdR (rows2 ++ entFrom b k (i - k))) ∧ Below w.heap.size w wr ∧ Below (w.heap.size + 2) w0 wr) (fun _ i _ => m - (intOf i).toNat)
       case atStart => exact ⟨k, Nat.le_refl _, by omega, rfl, by rw [Nat.sub_self, show entFrom b k 0 = [] from rfl, List.append_nil]; exact LY.out, DY.out, EY.out⟩
       case round =>
        obtain ⟨i, hki, him, rfl, hLo, hD, hE⟩ := hrel
        have LI : Hid (Owns wr (w.heap.size + 2) 35 5 u6 (rcdR (rows2 ++ entFrom b k (i - k)))) := hLo
        have DI : Hid (Below w.heap.size w wr) := hD
        have EI : Hid (Below (w.heap.size + 2) w0 wr) := hE
        have b2i := (KB.out.on EI.out (by omega)).cell 2 (.int .i64 a.base) rfl
        have b4i := (KB.out.on EI.out (by omega)).cell 4 (.slice A1 m cap1) rfl
        clear hLo hD hE LY DY EY b4y
        by_cases hlt : i < m
        ·exact absurd hlt (by omega)
        ·obtain rfl : i = m := by omega
         have HFL : Hid (rows2 ++ entFrom b k (i - k) = chList a b k) := by
          unfold Hid chList
          rw [HH.out, HNB.out, ← HR2.out]
         go_wp2_with fail
         go_ret2
         exact ⟨_, true, _, .inl ⟨rfl, HOK.out, k, HPRE.out, HFL.out⟩, rfl, LI.out.mono (by omega), DI.out⟩
     ·have HPRE : Hid (Pre a.ents b.ents k) := ⟨by have := HNA.out; omega, by have := HNB.out; omega, HS.out, fun hh _ => by have := HNA.out; omega⟩
      have q3 : (n : Int) ≤ (k : Int) := by omega
      have S0 : Hid (wr.drew.cell? ⟨w.heap.size, 4, none⟩ = some (.slice A n cap) ∧ wr.drew.cell? ⟨w.heap.size + 1, 4, none⟩ = some (.slice A1 m cap1)) := ⟨(KA.out.on ER.out (by omega)).cell 4 _ rfl, (KB.out.on ER.out (by omega)).cell 4 _ rfl⟩
      have DX : Hid (Below w.heap.size w wr.drew) := DR.out.drew
      have EX : Hid (Below (w.heap.size + 2) w0 wr.drew) := ER.out.drew
      have LX : Hid (Owns wr.drew (w.heap.size + 2) 35 5 lv (rcdR rows)) := LR.out.heap rfl
      go_wp2_with fail
      refine wp_region_until (fun w' => w'.cell? ⟨w.heap.size, 4, none⟩ = some (.slice A n cap) ∧ w'.cell? ⟨w.heap.size + 1, 4, none⟩ = some (.slice A1 m cap1)) (fun _ => false) 25 (by rfl) (by kernel_rfl) ?_
      refine until_take 0 (v := ?_) (by rfl) (by kernel_rfl) (by exact fun _ _ _ h => h) (by rfl) ?_ S0.out ?_
      rotate_left
      ·intro w hSw
       try dsimp only at hSw
       go_simp
       try with_reducible rfl
      try simp only [Act.put, setIfInBounds_toArray, set_cons_zero, set_cons_succ]
      refine until_take 1 (v := ?_) (by rfl) (by kernel_rfl) (by exact fun _ _ _ h => h) (by rfl) ?_ S0.out ?_
      rotate_left
      ·intro w hSw
       try dsimp only at hSw
       go_simp
       try with_reducible rfl
      try simp only [Act.put, setIfInBounds_toArray, set_cons_zero, set_cons_succ]
      refine until_take 2 (v := ?_) (by rfl) (by kernel_rfl) (by exact fun _ _ _ h => h) (by rfl) ?_ S0.out ?_
      rotate_left
      ·intro w hSw
       try dsimp only at hSw
       go_simp
       try with_reducible rfl
      try simp only [Act.put, setIfInBounds_toArray, set_cons_zero, set_cons_succ]
      refine until_take 3 (v := ?_) (by rfl) (by kernel_rfl) (by exact fun _ _ _ h => h) (by rfl) ?_ S0.out ?_
      rotate_left
      ·intro w hSw
       try dsimp only at hSw
       go_simp
       try with_reducible rfl
      try simp only [Act.put, setIfInBounds_toArray, set_cons_zero, set_cons_succ]
      refine until_take 4 (v := .bool false) (by rfl) (by kernel_rfl) (by exact fun _ _ _ h => h) (by rfl) ?_ S0.out ?_
      ·intro w hSw
       try dsimp only at hSw
       go_simp
       try omega
      try simp only [Act.put, setIfInBounds_toArray, set_cons_zero, set_cons_succ]
      refine until_take 5 (v := ?_) (by rfl) (by kernel_rfl) (by exact fun _ _ _ h => h) (by rfl) ?_ S0.out ?_
      rotate_left
      ·intro w hSw
       try dsimp only at hSw
       go_simp
       try with_reducible rfl
      try simp only [Act.put, setIfInBounds_toArray, set_cons_zero, set_cons_succ]
      refine until_skip 6 (by rfl) (by kernel_rfl) (by exact fun _ _ _ h => h) (by rfl) ?_
      try simp only [Act.put, setIfInBounds_toArray, set_cons_zero, set_cons_succ]
      refine until_skip 7 (by rfl) (by kernel_rfl) (by exact fun _ _ _ h => h) (by rfl) ?_
      try simp only [Act.put, setIfInBounds_toArray, set_cons_zero, set_cons_succ]
      refine until_skip 8 (by rfl) (by kernel_rfl) (by exact fun _ _ _ h => h) (by rfl) ?_
      try simp only [Act.put, setIfInBounds_toArray, set_cons_zero, set_cons_succ]
      refine until_skip 9 (by rfl) (by kernel_rfl) (by exact fun _ _ _ h => h) (by rfl) ?_
      try simp only [Act.put, setIfInBounds_toArray, set_cons_zero, set_cons_succ]
      refine until_skip 10 (by rfl) (by kernel_rfl) (by exact fun _ _ _ h => h) (by rfl) ?_
      try simp only [Act.put, setIfInBounds_toArray, set_cons_zero, set_cons_succ]
      refine until_take 11 (v := ?_) (by rfl) (by kernel_rfl) (by exact fun _ _ _ h => h) (by rfl) ?_ S0.out ?_
      rotate_left
      ·intro w hSw
       try dsimp only at hSw
       go_simp
       try with_reducible rfl
      try simp only [Act.put, setIfInBounds_toArray, set_cons_zero, set_cons_succ]
      refine until_take 12 (v := ?_) (by rfl) (by kernel_rfl) (by exact fun _ _ _ h => h) (by rfl) ?_ S0.out ?_
      rotate_left
      ·intro w hSw
       try dsimp only at hSw
       go_simp
       try with_reducible rfl
      try simp only [Act.put, setIfInBounds_toArray, set_cons_zero, set_cons_succ]
      refine until_skip 13 (by rfl) (by kernel_rfl) (by exact fun _ _ _ h => h) (by rfl) ?_
      try simp only [Act.put, setIfInBounds_toArray, set_cons_zero, set_cons_succ]
      refine until_skip 14 (by rfl) (by kernel_rfl) (by exact fun _ _ _ h => h) (by rfl) ?_
      try simp only [Act.put, setIfInBounds_toArray, set_cons_zero, set_cons_succ]
      refine until_skip 15 (by rfl) (by kernel_rfl) (by exact fun _ _ _ h => h) (by rfl) ?_
      try simp only [Act.put, setIfInBounds_toArray, set_cons_zero, set_cons_succ]
      refine until_skip 16 (by rfl) (by kernel_rfl) (by exact fun _ _ _ h => h) (by rfl) ?_
      try simp only [Act.put, setIfInBounds_toArray, set_cons_zero, set_cons_succ]
      refine until_skip 17 (by rfl) (by kernel_rfl) (by exact fun _ _ _ h => h) (by rfl) ?_
      try simp only [Act.put, setIfInBounds_toArray, set_cons_zero, set_cons_succ]
      refine until_skip 18 (by rfl) (by kernel_rfl) (by exact fun _ _ _ h => h) (by rfl) ?_
      try simp only [Act.put, setIfInBounds_toArray, set_cons_zero, set_cons_succ]
      refine until_skip 19 (by rfl) (by kernel_rfl) (by exact fun _ _ _ h => h) (by rfl) ?_
      try simp only [Act.put, setIfInBounds_toArray, set_cons_zero, set_cons_succ]
      refine until_skip 20 (by rfl) (by kernel_rfl) (by exact fun _ _ _ h => h) (by rfl) ?_
      try simp only [Act.put, setIfInBounds_toArray, set_cons_zero, set_cons_succ]
      refine until_skip 21 (by rfl) (by kernel_rfl) (by exact fun _ _ _ h => h) (by rfl) ?_
      try simp only [Act.put, setIfInBounds_toArray, set_cons_zero, set_cons_succ]
      refine until_skip 22 (by rfl) (by kernel_rfl) (by exact fun _ _ _ h => h) (by rfl) ?_
      try simp only [Act.put, setIfInBounds_toArray, set_cons_zero, set_cons_succ]
      refine until_skip 23 (by rfl) (by kernel_rfl) (by exact fun _ _ _ h => h) (by rfl) ?_
      try simp only [Act.put, setIfInBounds_toArray, set_cons_zero, set_cons_succ]
      refine until_take 24 (v := ?_) (by rfl) (by kernel_rfl) (by exact fun _ _ _ h => h) (by rfl) ?_ S0.out ?_
      rotate_left
      ·intro w hSw
       try dsimp only at hSw
       go_simp
       try with_reducible rfl
      try simp only [Act.put, setIfInBounds_toArray, set_cons_zero, set_cons_succ]
      refine until_done (by kernel_rfl) ?_ _
      clear S0
      generalize wr.drew = X at *
      have a2' := (KA.out.on EX.out (by omega)).cell 2 (.int .i64 a.base) rfl
      have a4' := (KA.out.on EX.out (by omega)).cell 4 (.slice A n cap) rfl
      have b4' := (KB.out.on EX.out (by omega)).cell 4 (.slice A1 m cap1) rfl
      have ZX : w.heap.size + 2 ≤ X.heap.size := by have := EX.out.size; have := Z0.out; omega
      have LE : Hid ((rcdR rows).length ≤ 2097152) := by unfold Hid; rw [rcdR_length]; have := HRL.out; omega
      have HCU : Hid (cutR a k = []) := by unfold Hid cutR; rw [if_neg (by have := HNA.out; omega)]
      have LY : Hid (Owns X (w.heap.size + 2) 35 5 lv (rcdR (rows ++ cutR a k))) := by unfold Hid; rw [HCU.out, List.append_nil]; exact LX.out
      have DY : Hid (Below w.heap.size w X) := DX.out
      have EY : Hid (Below (w.heap.size + 2) w0 X) := EX.out
      clear LX
      have HC1 : Hid ((rows ++ cutR a k).length ≤ 2) := by
       unfold Hid
       rw [HCU.out, List.length_append]
       have := HRL.out
       simp
       try omega
      generalize hr2 : rows ++ cutR a k = rows2 at *
      have HR2 : Hid (rows ++ cutR a k = rows2) := hr2
      clear hr2
      go_wp2_with fail
      go_loopw [6, 9] (fun v6 v9 wr => ∃ i : Nat, k ≤ i ∧ i ≤ m ∧ v9 = .int .i64 (i : Int) ∧ Owns wr (w.heap.size + 2) 35 5 v6 (rcdR (rows2 ++ entFrom b k (i - k))) ∧ Below w.heap.size w wr ∧ Below (w.heap.size + 2) w0 wr) (fun _ i _ => m - (intOf i).toNat)
      case atStart => exact ⟨k, Nat.le_refl _, by omega, rfl, by rw [Nat.sub_self, show entFrom b k 0 = [] from rfl, List.append_nil]; exact LY.out, DY.out, EY.out⟩
      case round =>
       obtain ⟨i, hki, him, rfl, hLo, hD, hE⟩ := hrel
       have LI : Hid (Owns wr (w.heap.size + 2) 35 5 u6 (rcdR (rows2 ++ entFrom b k (i - k)))) := hLo
       have DI : Hid (Below w.heap.size w wr) := hD
       have EI : Hid (Below (w.heap.size + 2) w0 wr) := hE
       have b2i := (KB.out.on EI.out (by omega)).cell 2 (.int .i64 a.base) rfl
       have b4i := (KB.out.on EI.out (by omega)).cell 4 (.slice A1 m cap1) rfl
       clear hLo hD hE LY DY EY a2' a4' b4'
       by_cases hlt : i < m
       ·have q7 : (i : Int) < (m : Int) := by omega
        obtain ⟨g2, o2, eg, hg2, hc0, hc1⟩ := HL1.out i (by omega)
        cases eg
        have G2 : g2 < w.heap.size := Nat.lt_of_lt_of_le hg2 HB.out
        rw [← DI.out.cell (p := ⟨_, _, none⟩) G2] at hc0 hc1
        have HEF : Hid (entFrom b k (i + 1 - k) = entFrom b k (i - k) ++ [⟨2, (b.ents.getD i default).term, a.base + 1 + (i : Int), 0, (b.ents.getD i default).data⟩]) := by
         unfold Hid
         rw [show i + 1 - k = (i - k) + 1 by omega, entFrom_succ, show k + (i - k) = i by omega, HREC.out]
        generalize b.ents.getD i default = ye at *
        obtain ⟨et, ed⟩ := ye
        simp only at hc0 hc1 HEF
        have hzz : w.heap.size + 2 ≤ wr.drew.heap.size := by have h1 := EI.out.size; have h2 := Z0.out; show w.heap.size + 2 ≤ wr.heap.size; omega
        obtain ⟨nA, nm, nc, w5, r5, hO5, hb5, hk5, _⟩ := run_append_row (P := Try.prog) wr.drew 29 29 35 (.agg #[.int .i64 0, .int .i64 0, .int .i64 0, .int .i64 0, .string ⟨#[]⟩]) 5 48 Try.underlying29 Try.infoRcdS rfl (by omega) (w.heap.size + 2) u6 (rcdR (rows2 ++ entFrom b k (i - k))) (LI.out.kept fun _ _ _ => rfl) [.int .i64 2, .int .i64 et, .int .i64 (a.base + 1 + (i : Int)), .int .i64 0, .string ed] rfl (rcd_cells _ _ _ _ _) (by rw [rcdR_length, List.length_append, entFrom_length]; have := HC1.out; omega) (by omega) hzz
        have D5 : Hid (Below w.heap.size w w5) := DI.out.drew.trans (hb5.mono (by omega))
        have E5 : Hid (Below (w.heap.size + 2) w0 w5) := EI.out.drew.trans hb5
        have L5 : Hid (Owns w5 (w.heap.size + 2) 35 5 (.slice nA nm nc) (rcdR (rows2 ++ entFrom b k (i + 1 - k)))) := by unfold Hid; rw [HEF.out, ← List.append_assoc, rcdR_snoc']; exact hO5
        have S0 : Hid (wr.drew.cell? ⟨w.heap.size + 1, 2, none⟩ = some (.int .i64 a.base) ∧ wr.drew.cell? ⟨w.heap.size + 1, 4, none⟩ = some (.slice (some ⟨g2, o2, none⟩) m cap1) ∧ wr.drew.cell? ⟨g2, o2 + i * 2, none⟩ = some (.int .i64 et) ∧ wr.drew.cell? ⟨g2, o2 + i * 2 + 1, none⟩ = some (.string ed)) := ⟨b2i, b4i, hc0, hc1⟩
        clear hc0 hc1 hO5 hb5 hk5 hg2 G2
        go_wp2_with fail
        have hbb1 : 0 ≤ a.base := HBB.out.1
        have hbb2 : a.base ≤ 100000 := HBB.out.2
        have qi : (i : Int) < 60 := by omega
        have hw1 : IntKind.i64.wrap (a.base + 1) = a.base + 1 := by rw [IntKind.wrap_i64]; omega
        have hw2 : IntKind.i64.wrap (a.base + 1 + (i : Int)) = a.base + 1 + (i : Int) := by rw [IntKind.wrap_i64]; omega
        refine wp_region_until (fun w' => w'.cell? ⟨w.heap.size + 1, 2, none⟩ = some (.int .i64 a.base) ∧ w'.cell? ⟨w.heap.size + 1, 4, none⟩ = some (.slice (some ⟨g2, o2, none⟩) m cap1) ∧ w'.cell? ⟨g2, o2 + i * 2, none⟩ = some (.int .i64 et) ∧ w'.cell? ⟨g2, o2 + i * 2 + 1, none⟩ = some (.string ed)) (fun i => i == 20 || i == 21) 22 (by rfl) (by kernel_rfl) ?_
        refine until_take 0 (v := ?_) (by rfl) (by kernel_rfl) (by exact fun _ _ _ h => h) (by rfl) ?_ S0.out ?_
        rotate_left
        ·intro w hSw
         try dsimp only at hSw
         go_simp
         try with_reducible rfl
        try simp only [Act.put, setIfInBounds_toArray, set_cons_zero, set_cons_succ]
        refine until_take 1 (v := ?_) (by rfl) (by kernel_rfl) (by exact fun _ _ _ h => h) (by rfl) ?_ S0.out ?_
        rotate_left
        ·intro w hSw
         try dsimp only at hSw
         go_simp
         try with_reducible rfl
        try simp only [Act.put, setIfInBounds_toArray, set_cons_zero, set_cons_succ]
        refine until_take 2 (v := ?_) (by rfl) (by kernel_rfl) (by exact fun _ _ _ h => h) (by rfl) ?_ S0.out ?_
        rotate_left
        ·intro w hSw
         try dsimp only at hSw
         go_simp
         try with_reducible rfl
        try simp only [Act.put, setIfInBounds_toArray, set_cons_zero, set_cons_succ]
        refine until_take 3 (v := ?_) (by rfl) (by kernel_rfl) (by exact fun _ _ _ h => h) (by rfl) ?_ S0.out ?_
        rotate_left
        ·intro w hSw
         try dsimp only at hSw
         go_simp
         try with_reducible rfl
        try simp only [Act.put, setIfInBounds_toArray, set_cons_zero, set_cons_succ]
        refine until_take 4 (v := ?_) (by rfl) (by kernel_rfl) (by exact fun _ _ _ h => h) (by rfl) ?_ S0.out ?_
        rotate_left
        ·intro w hSw
         try dsimp only at hSw
         go_simp
         try with_reducible rfl
        try simp only [Act.put, setIfInBounds_toArray, set_cons_zero, set_cons_succ]
        refine until_take 5 (v := ?_) (by rfl) (by kernel_rfl) (by exact fun _ _ _ h => h) (by rfl) ?_ S0.out ?_
        rotate_left
        ·intro w hSw
         try dsimp only at hSw
         go_simp
         try with_reducible rfl
        try simp only [Act.put, setIfInBounds_toArray, set_cons_zero, set_cons_succ]
        refine until_take 6 (v := ?_) (by rfl) (by kernel_rfl) (by exact fun _ _ _ h => h) (by rfl) ?_ S0.out ?_
        rotate_left
        ·intro w hSw
         try dsimp only at hSw
         go_simp
         try with_reducible rfl
        try simp only [Act.put, setIfInBounds_toArray, set_cons_zero, set_cons_succ]
        refine until_take 7 (v := ?_) (by rfl) (by kernel_rfl) (by exact fun _ _ _ h => h) (by rfl) ?_ S0.out ?_
        rotate_left
        ·intro w hSw
         try dsimp only at hSw
         go_simp
         try with_reducible rfl
        try simp only [Act.put, setIfInBounds_toArray, set_cons_zero, set_cons_succ]
        refine until_take 8 (v := ?_) (by rfl) (by kernel_rfl) (by exact fun _ _ _ h => h) (by rfl) ?_ S0.out ?_
        rotate_left
        ·intro w hSw
         try dsimp only at hSw
         go_simp
         try with_reducible rfl
        try simp only [Act.put, setIfInBounds_toArray, set_cons_zero, set_cons_succ]
        refine until_take 9 (v := ?_) (by rfl) (by kernel_rfl) (by exact fun _ _ _ h => h) (by rfl) ?_ S0.out ?_
        rotate_left
        ·intro w hSw
         try dsimp only at hSw
         go_simp
         try with_reducible rfl
        try simp only [Act.put, setIfInBounds_toArray, set_cons_zero, set_cons_succ]
        refine until_take 10 (v := ?_) (by rfl) (by kernel_rfl) (by exact fun _ _ _ h => h) (by rfl) ?_ S0.out ?_
        rotate_left
        ·intro w hSw
         try dsimp only at hSw
         go_simp
         try with_reducible rfl
        try simp only [Act.put, setIfInBounds_toArray, set_cons_zero, set_cons_succ]
        refine until_take 11 (v := ?_) (by rfl) (by kernel_rfl) (by exact fun _ _ _ h => h) (by rfl) ?_ S0.out ?_
        rotate_left
        ·intro w hSw
         try dsimp only at hSw
         go_simp
         try with_reducible rfl
        try simp only [Act.put, setIfInBounds_toArray, set_cons_zero, set_cons_succ]
        refine until_take 12 (v := ?_) (by rfl) (by kernel_rfl) (by exact fun _ _ _ h => h) (by rfl) ?_ S0.out ?_
        rotate_left
        ·intro w hSw
         try dsimp only at hSw
         go_simp
         try with_reducible rfl
        try simp only [Act.put, setIfInBounds_toArray, set_cons_zero, set_cons_succ]
        refine until_take 13 (v := ?_) (by rfl) (by kernel_rfl) (by exact fun _ _ _ h => h) (by rfl) ?_ S0.out ?_
        rotate_left
        ·intro w hSw
         try dsimp only at hSw
         go_simp
         try with_reducible rfl
        try simp only [Act.put, setIfInBounds_toArray, set_cons_zero, set_cons_succ]
        refine until_take 14 (v := ?_) (by rfl) (by kernel_rfl) (by exact fun _ _ _ h => h) (by rfl) ?_ S0.out ?_
        rotate_left
        ·intro w hSw
         try dsimp only at hSw
         go_simp
         try with_reducible rfl
        try simp only [Act.put, setIfInBounds_toArray, set_cons_zero, set_cons_succ]
        refine until_take 15 (v := ?_) (by rfl) (by kernel_rfl) (by exact fun _ _ _ h => h) (by rfl) ?_ S0.out ?_
        rotate_left
        ·intro w hSw
         try dsimp only at hSw
         go_simp
         try with_reducible rfl
        try simp only [Act.put, setIfInBounds_toArray, set_cons_zero, set_cons_succ]
        refine until_take 16 (v := ?_) (by rfl) (by kernel_rfl) (by exact fun _ _ _ h => h) (by rfl) ?_ S0.out ?_
        rotate_left
        ·intro w hSw
         try dsimp only at hSw
         go_simp
         try with_reducible rfl
        try simp only [Act.put, setIfInBounds_toArray, set_cons_zero, set_cons_succ]
        refine until_take 17 (v := ?_) (by rfl) (by kernel_rfl) (by exact fun _ _ _ h => h) (by rfl) ?_ S0.out ?_
        rotate_left
        ·intro w hSw
         try dsimp only at hSw
         go_simp
         try with_reducible rfl
        try simp only [Act.put, setIfInBounds_toArray, set_cons_zero, set_cons_succ]
        refine until_take 18 (v := ?_) (by rfl) (by kernel_rfl) (by exact fun _ _ _ h => h) (by rfl) ?_ S0.out ?_
        rotate_left
        ·intro w hSw
         try dsimp only at hSw
         go_simp
         try with_reducible rfl
        try simp only [Act.put, setIfInBounds_toArray, set_cons_zero, set_cons_succ]
        refine until_one 19 (by rfl) (by kernel_rfl) (fun K hK => ?_)
        go_simp
        refine hK.out _ _ (fun _ h => ⟨cell_alloc_keep h.1 _, cell_alloc_keep h.2.1 _, cell_alloc_keep h.2.2.1 _, cell_alloc_keep h.2.2.2 _⟩) ?_
        clear hK K
        try simp only [Act.put, setIfInBounds_toArray, set_cons_zero, set_cons_succ]
        refine until_one 20 (by rfl) (by kernel_rfl) (fun K hK => ?_)
        refine step_append_run (by rfl) (.tmp 109) (.tmp 128) 29 (by rfl) _ _ _ _ (by rfl) (by rfl) r5 ?_
        refine hK.out _ _ (fun h => by cases h) ?_
        clear hK K
        try simp only [Act.put, setIfInBounds_toArray, set_cons_zero, set_cons_succ]
        refine until_one 21 (by rfl) (by kernel_rfl) (fun K hK => ?_)
        go_simp
        refine hK.out _ _ (fun h => by cases h) ?_
        clear hK K
        try simp only [Act.put, setIfInBounds_toArray, set_cons_zero, set_cons_succ]
        refine until_done (by kernel_rfl) ?_ _
        go_wp2_with fail
        go_roundw
        case rel => exact ⟨i + 1, by omega, by omega, by go_num, L5.out, D5.out, E5.out⟩
        case measure => simp [intOf]; omega
       ·obtain rfl : i = m := by omega
        have HFL : Hid (rows2 ++ entFrom b k (i - k) = chList a b k) := by
         unfold Hid chList
         rw [HH.out, HNB.out, ← HR2.out]
        go_wp2_with fail
        go_ret2
        exact ⟨_, true, _, .inl ⟨rfl, HOK.out, k, HPRE.out, HFL.out⟩, rfl, LI.out.mono (by omega), DI.out⟩
 ·have z : (a.term == bt) = false := by simpa using ht
  have D3 : Hid (Below w.heap.size w (w2.alloc (.cells #[.int .i64 1, .int .i64 bt, .int .i64 0, .int .i64 bv, .string ⟨#[]⟩] 35))) := D2.out.alloc D2.out.size _
  have E3 : Hid (Below (w.heap.size + 2) w0 (w2.alloc (.cells #[.int .i64 1, .int .i64 bt, .int .i64 0, .int .i64 bv, .string ⟨#[]⟩] 35))) := E2.out.alloc (by have := E2.out.size; have := Z0.out; omega) _
  have L3 : Hid (Owns (w2.alloc (.cells #[.int .i64 1, .int .i64 bt, .int .i64 0, .int .i64 bv, .string ⟨#[]⟩] 35)) (w.heap.size + 2) 35 5 (.slice (some ⟨w.heap.size + 2, 0, none⟩) 0 0) (rcdR ([] : List Rcd))) := L2.out.alloc _
  have KR : Hid (Blk (w2.alloc (.cells #[.int .i64 1, .int .i64 bt, .int .i64 0, .int .i64 bv, .string ⟨#[]⟩] 35)) w2.heap.size #[.int .i64 1, .int .i64 bt, .int .i64 0, .int .i64 bv, .string ⟨#[]⟩] 35) := Blk.new _ _ _
  have x0 := (KA.out.on E3.out (by omega)).cell 0 (.int .i64 a.term) rfl
  have x1 := (KA.out.on E3.out (by omega)).cell 1 (.int .i64 a.vote) rfl
  have x2 := (KA.out.on E3.out (by omega)).cell 2 (.int .i64 a.base) rfl
  have x3 := (KA.out.on E3.out (by omega)).cell 3 (.int .i64 a.bterm) rfl
  have x4 := (KA.out.on E3.out (by omega)).cell 4 (.slice A n cap) rfl
  have r0 := KR.out.cell 0 (.int .i64 1) rfl
  have r1 := KR.out.cell 1 (.int .i64 bt) rfl
  have r2 := KR.out.cell 2 (.int .i64 0) rfl
  have r3 := KR.out.cell 3 (.int .i64 bv) rfl
  have r4 := KR.out.cell 4 (.string ⟨#[]⟩) rfl
  go_wp2_with fail
  generalize w2.alloc (.cells #[.int .i64 1, .int .i64 bt, .int .i64 0, .int .i64 bv, .string ⟨#[]⟩] 35) = w3 at *
  generalize w2.heap.size = zr at *
  clear D2 E2 L2 a0 a1 a2 a3 a4 b0 b1 b2 b3 b4 x0 x1 x2 x3 x4 r0 r1 r2 r3 r4
  have cF := fitsS a ⟨1, bt, 0, bv, ⟨#[]⟩⟩ (.agg #[.int .i64 a.term, .int .i64 a.vote, .int .i64 a.base, .int .i64 a.bterm, .slice A n cap]) w3 B (HV.out.on (D3.out.mono HB.out)) (by have := HNA.out; omega) base0 base1 (Nat.le_trans HB.out D3.out.size)
  unfold vRcd at cF
  simp only at cF
  refine cF.mono ?_
  rintro e w4 ⟨rfl, hb4⟩
  have D4 : Hid (Below w.heap.size w w4) := D3.out.trans (hb4.mono D3.out.size)
  have E4 : Hid (Below (w.heap.size + 2) w0 w4) := E3.out.trans (hb4.mono (by have := E3.out.size; have := Z0.out; omega))
  have L4 : Hid (Owns w4 (w.heap.size + 2) 35 5 (.slice (some ⟨w.heap.size + 2, 0, none⟩) 0 0) (rcdR (([] : List Rcd)))) := L3.out.on hb4
  have KR4 : Hid (Blk w4 zr #[.int .i64 1, .int .i64 bt, .int .i64 0, .int .i64 bv, .string ⟨#[]⟩] 35) := KR.out.on hb4 KR.out.lt
  clear hb4 cF KR D3 E3 L3
  cases hfit : recFits a ⟨1, bt, 0, bv, ⟨#[]⟩⟩ with
  | false =>
   go_wp2_with fail
   exact bodyPost_ret (v := .tuple #[.slice (some ⟨w.heap.size + 2, 0, none⟩) 0 0, .bool false]) (by simp [results, go_sem]) rfl ⟨[], false, _, .inr ⟨rfl, (fun h => by rcases (HNO.out h).2.2 with hh | hh; exact (fun hh => ht hh.1) hh; rw [hfit] at hh; cases hh), rfl⟩, rfl, L4.out.mono (by omega), D4.out⟩
  | true =>
   have HOK : Hid (chOk a b) := by first | exact HCO.out rfl rfl (.inr hfit) | exact HCO.out trivial trivial (.inr hfit) | exact HCO.out trivial trivial (.inr rfl)
   have HH : Hid (hardR a b = [⟨1, bt, 0, bv, ⟨#[]⟩⟩]) := HHD.out (fun hh => ht hh.1)
   have r0 := KR4.out.cell 0 (.int .i64 1) rfl
   have r1 := KR4.out.cell 1 (.int .i64 bt) rfl
   have r2 := KR4.out.cell 2 (.int .i64 0) rfl
   have r3 := KR4.out.cell 3 (.int .i64 bv) rfl
   have r4 := KR4.out.cell 4 (.string ⟨#[]⟩) rfl
   have Z4 : w.heap.size + 2 ≤ w4.heap.size := by have := E4.out.size; have := Z0.out; omega
   go_wp2_with (at_builtin; refine wpList_append_row (w := w4) rfl (.tmp 56) (.tmp 58) 29 35 (.agg #[.int .i64 0, .int .i64 0, .int .i64 0, .int .i64 0, .string ⟨#[]⟩]) 5 48 rfl Try.underlying29 Try.infoRcdS rfl (by omega) (w.heap.size + 2) (.slice (some ⟨w.heap.size + 2, 0, none⟩) 0 0) (rcdR (([] : List Rcd))) rfl L4.out [.int .i64 1, .int .i64 bt, .int .i64 0, .int .i64 bv, .string ⟨#[]⟩] rfl (rcd_cells _ _ _ _ _) rfl (Nat.zero_le _) (by omega) Z4 ?_; intro lvh w5 hO5 hb5 _ _; refine Shut.out ?_)
   unfold Shut
   have L5 : Hid (Owns w5 (w.heap.size + 2) 35 5 lvh (rcdR ([⟨1, bt, 0, bv, ⟨#[]⟩⟩] : List Rcd))) := hO5
   have D5 : Hid (Below w.heap.size w w5) := D4.out.trans (hb5.mono (by omega))
   have E5 : Hid (Below (w.heap.size + 2) w0 w5) := E4.out.trans hb5
   clear hO5 hb5 r0 r1 r2 r3 r4 D4 E4 L4 KR4
   go_wp2_with fail
   have st : Below w.heap.size w w5 ∧ Below (w.heap.size + 2) w0 w5 ∧ Owns w5 (w.heap.size + 2) 35 5 (lvh) (rcdR ([⟨1, bt, 0, bv, ⟨#[]⟩⟩] : List Rcd)) := ⟨D5.out, E5.out, L5.out⟩
   have HRL : Hid (([⟨1, bt, 0, bv, ⟨#[]⟩⟩] : List Rcd).length ≤ 1) := by unfold Hid; simp
   clear D5 E5 L5
   generalize hrows : ([⟨1, bt, 0, bv, ⟨#[]⟩⟩] : List Rcd) = rows at *
   generalize hlv : (lvh : Value) = lv at *
   clear hlv hrows
   go_loopw [8] (fun v8 wr => ∃ k : Nat, k ≤ n ∧ k ≤ m ∧ v8 = .int .i64 (k : Int) ∧ Hid (∀ j, j < k → a.ents.getD j default = b.ents.getD j default) ∧ Below w.heap.size w wr ∧ Below (w.heap.size + 2) w0 wr ∧ Owns wr (w.heap.size + 2) 35 5 lv (rcdR rows)) (fun i _ => n - (intOf i).toNat)
   case atStart => exact ⟨0, by omega, by omega, rfl, fun j hj => by omega, st⟩
   case round =>
    obtain ⟨k, hk, hk', rfl, HS, hD, hE, hLo⟩ := hrel
    have DR : Hid (Below w.heap.size w wr) := hD
    have ER : Hid (Below (w.heap.size + 2) w0 wr) := hE
    have LR : Hid (Owns wr (w.heap.size + 2) 35 5 lv (rcdR rows)) := hLo
    clear hD hE hLo st
    by_cases h1 : k < n
    ·have q3 : (k : Int) < (n : Int) := by omega
     by_cases h2 : k < m
     ·have q4 : (k : Int) < (m : Int) := by omega
      obtain ⟨g, off, rfl, hg, hc0, hc1⟩ := HL.out k (by omega)
      obtain ⟨g', off', rfl, hg', hd0, hd1⟩ := HL1.out k (by omega)
      have G1 : g < w.heap.size := Nat.lt_of_lt_of_le hg HB.out
      have G2 : g' < w.heap.size := Nat.lt_of_lt_of_le hg' HB.out
      rw [← DR.out.cell (p := ⟨_, _, none⟩) G1] at hc0 hc1
      rw [← DR.out.cell (p := ⟨_, _, none⟩) G2] at hd0 hd1
      generalize hya : a.ents.getD k default = ya at *
      generalize hyb : b.ents.getD k default = yb at *
      have HYA : Hid (a.ents.getD k default = ya) := hya
      have HYB : Hid (b.ents.getD k default = yb) := hyb
      clear hya hyb hg hg' G1 G2
      obtain ⟨t, d⟩ := ya
      obtain ⟨t', d'⟩ := yb
      simp only at hc0 hc1 hd0 hd1
      by_cases hq : t = t' ∧ d = d'
      ·obtain ⟨rfl, rfl⟩ := hq
       have S0 : Hid (wr.drew.cell? ⟨w.heap.size, 4, none⟩ = some (.slice (some ⟨g, off, none⟩) n cap) ∧ wr.drew.cell? ⟨w.heap.size + 1, 4, none⟩ = some (.slice (some ⟨g', off', none⟩) m cap1) ∧ wr.drew.cell? ⟨g, off + k * 2, none⟩ = some (.int .i64 t) ∧ wr.drew.cell? ⟨g, off + k * 2 + 1, none⟩ = some (.string d) ∧ wr.drew.cell? ⟨g', off' + k * 2, none⟩ = some (.int .i64 t) ∧ wr.drew.cell? ⟨g', off' + k * 2 + 1, none⟩ = some (.string d)) := ⟨(KA.out.on ER.out (by omega)).cell 4 _ rfl, (KB.out.on ER.out (by omega)).cell 4 _ rfl, hc0, hc1, hd0, hd1⟩
       have DX : Hid (Below w.heap.size w wr.drew) := DR.out.drew
       have EX : Hid (Below (w.heap.size + 2) w0 wr.drew) := ER.out.drew
       have LX : Hid (Owns wr.drew (w.heap.size + 2) 35 5 lv (rcdR rows)) := LR.out.heap rfl
       go_wp2_with fail
       refine wp_region_until (fun w' => w'.cell? ⟨w.heap.size, 4, none⟩ = some (.slice (some ⟨g, off, none⟩) n cap) ∧ w'.cell? ⟨w.heap.size + 1, 4, none⟩ = some (.slice (some ⟨g', off', none⟩) m cap1) ∧ w'.cell? ⟨g, off + k * 2, none⟩ = some (.int .i64 t) ∧ w'.cell? ⟨g, off + k * 2 + 1, none⟩ = some (.string d) ∧ w'.cell? ⟨g', off' + k * 2, none⟩ = some (.int .i64 t) ∧ w'.cell? ⟨g', off' + k * 2 + 1, none⟩ = some (.string d)) (fun _ => false) 25 (by rfl) (by kernel_rfl) ?_
       refine until_take 0 (v := ?_) (by rfl) (by kernel_rfl) (by exact fun _ _ _ h => h) (by rfl) ?_ S0.out ?_
       rotate_left
       ·intro w hSw
        try dsimp only at hSw
        go_simp
        try with_reducible rfl
       try simp only [Act.put, setIfInBounds_toArray, set_cons_zero, set_cons_succ]
       refine until_take 1 (v := ?_) (by rfl) (by kernel_rfl) (by exact fun _ _ _ h => h) (by rfl) ?_ S0.out ?_
       rotate_left
       ·intro w hSw
        try dsimp only at hSw
        go_simp
        try with_reducible rfl
       try simp only [Act.put, setIfInBounds_toArray, set_cons_zero, set_cons_succ]
       refine until_take 2 (v := ?_) (by rfl) (by kernel_rfl) (by exact fun _ _ _ h => h) (by rfl) ?_ S0.out ?_
       rotate_left
       ·intro w hSw
        try dsimp only at hSw
        go_simp
        try with_reducible rfl
       try simp only [Act.put, setIfInBounds_toArray, set_cons_zero, set_cons_succ]
       refine until_take 3 (v := ?_) (by rfl) (by kernel_rfl) (by exact fun _ _ _ h => h) (by rfl) ?_ S0.out ?_
       rotate_left
       ·intro w hSw
        try dsimp only at hSw
        go_simp
        try with_reducible rfl
       try simp only [Act.put, setIfInBounds_toArray, set_cons_zero, set_cons_succ]
       refine until_take 4 (v := .bool true) (by rfl) (by kernel_rfl) (by exact fun _ _ _ h => h) (by rfl) ?_ S0.out ?_
       ·intro w hSw
        try dsimp only at hSw
        go_simp
        try omega
       try simp only [Act.put, setIfInBounds_toArray, set_cons_zero, set_cons_succ]
       refine until_take 5 (v := ?_) (by rfl) (by kernel_rfl) (by exact fun _ _ _ h => h) (by rfl) ?_ S0.out ?_
       rotate_left
       ·intro w hSw
        try dsimp only at hSw
        go_simp
        try with_reducible rfl
       try simp only [Act.put, setIfInBounds_toArray, set_cons_zero, set_cons_succ]
       refine until_take 6 (v := ?_) (by rfl) (by kernel_rfl) (by exact fun _ _ _ h => h) (by rfl) ?_ S0.out ?_
       rotate_left
       ·intro w hSw
        try dsimp only at hSw
        go_simp
        try with_reducible rfl
       try simp only [Act.put, setIfInBounds_toArray, set_cons_zero, set_cons_succ]
       refine until_take 7 (v := ?_) (by rfl) (by kernel_rfl) (by exact fun _ _ _ h => h) (by rfl) ?_ S0.out ?_
       rotate_left
       ·intro w hSw
        try dsimp only at hSw
        go_simp
        try with_reducible rfl
       try simp only [Act.put, setIfInBounds_toArray, set_cons_zero, set_cons_succ]
       refine until_take 8 (v := ?_) (by rfl) (by kernel_rfl) (by exact fun _ _ _ h => h) (by rfl) ?_ S0.out ?_
       rotate_left
       ·intro w hSw
        try dsimp only at hSw
        go_simp
        try with_reducible rfl
       try simp only [Act.put, setIfInBounds_toArray, set_cons_zero, set_cons_succ]
       refine until_take 9 (v := ?_) (by rfl) (by kernel_rfl) (by exact fun _ _ _ h => h) (by rfl) ?_ S0.out ?_
       rotate_left
       ·intro w hSw
        try dsimp only at hSw
        go_simp
        try with_reducible rfl
       try simp only [Act.put, setIfInBounds_toArray, set_cons_zero, set_cons_succ]
       refine until_take 10 (v := .bool true) (by rfl) (by kernel_rfl) (by exact fun _ _ _ h => h) (by rfl) ?_ S0.out ?_
       ·intro w hSw
        try dsimp only at hSw
        go_simp
        try omega
       try simp only [Act.put, setIfInBounds_toArray, set_cons_zero, set_cons_succ]
       refine until_take 11 (v := ?_) (by rfl) (by kernel_rfl) (by exact fun _ _ _ h => h) (by rfl) ?_ S0.out ?_
       rotate_left
       ·intro w hSw
        try dsimp only at hSw
        go_simp
        try with_reducible rfl
       try simp only [Act.put, setIfInBounds_toArray, set_cons_zero, set_cons_succ]
       refine until_take 12 (v := ?_) (by rfl) (by kernel_rfl) (by exact fun _ _ _ h => h) (by rfl) ?_ S0.out ?_
       rotate_left
       ·intro w hSw
        try dsimp only at hSw
        go_simp
        try with_reducible rfl
       try simp only [Act.put, setIfInBounds_toArray, set_cons_zero, set_cons_succ]
       refine until_take 13 (v := ?_) (by rfl) (by kernel_rfl) (by exact fun _ _ _ h => h) (by rfl) ?_ S0.out ?_
       rotate_left
       ·intro w hSw
        try dsimp only at hSw
        go_simp
        try with_reducible rfl
       try simp only [Act.put, setIfInBounds_toArray, set_cons_zero, set_cons_succ]
       refine until_take 14 (v := ?_) (by rfl) (by kernel_rfl) (by exact fun _ _ _ h => h) (by rfl) ?_ S0.out ?_
       rotate_left
       ·intro w hSw
        try dsimp only at hSw
        go_simp
        try with_reducible rfl
       try simp only [Act.put, setIfInBounds_toArray, set_cons_zero, set_cons_succ]
       refine until_take 15 (v := ?_) (by rfl) (by kernel_rfl) (by exact fun _ _ _ h => h) (by rfl) ?_ S0.out ?_
       rotate_left
       ·intro w hSw
        try dsimp only at hSw
        go_simp
        try with_reducible rfl
       try simp only [Act.put, setIfInBounds_toArray, set_cons_zero, set_cons_succ]
       refine until_take 16 (v := ?_) (by rfl) (by kernel_rfl) (by exact fun _ _ _ h => h) (by rfl) ?_ S0.out ?_
       rotate_left
       ·intro w hSw
        try dsimp only at hSw
        go_simp
        try with_reducible rfl
       try simp only [Act.put, setIfInBounds_toArray, set_cons_zero, set_cons_succ]
       refine until_take 17 (v := ?_) (by rfl) (by kernel_rfl) (by exact fun _ _ _ h => h) (by rfl) ?_ S0.out ?_
       rotate_left
       ·intro w hSw
        try dsimp only at hSw
        go_simp
        try with_reducible rfl
       try simp only [Act.put, setIfInBounds_toArray, set_cons_zero, set_cons_succ]
       refine until_take 18 (v := ?_) (by rfl) (by kernel_rfl) (by exact fun _ _ _ h => h) (by rfl) ?_ S0.out ?_
       rotate_left
       ·intro w hSw
        try dsimp only at hSw
        go_simp
        try with_reducible rfl
       try simp only [Act.put, setIfInBounds_toArray, set_cons_zero, set_cons_succ]
       refine until_take 19 (v := ?_) (by rfl) (by kernel_rfl) (by exact fun _ _ _ h => h) (by rfl) ?_ S0.out ?_
       rotate_left
       ·intro w hSw
        try dsimp only at hSw
        go_simp
        try with_reducible rfl
       try simp only [Act.put, setIfInBounds_toArray, set_cons_zero, set_cons_succ]
       refine until_take 20 (v := ?_) (by rfl) (by kernel_rfl) (by exact fun _ _ _ h => h) (by rfl) ?_ S0.out ?_
       rotate_left
       ·intro w hSw
        try dsimp only at hSw
        go_simp
        try with_reducible rfl
       try simp only [Act.put, setIfInBounds_toArray, set_cons_zero, set_cons_succ]
       refine until_take 21 (v := ?_) (by rfl) (by kernel_rfl) (by exact fun _ _ _ h => h) (by rfl) ?_ S0.out ?_
       rotate_left
       ·intro w hSw
        try dsimp only at hSw
        go_simp
        try with_reducible rfl
       try simp only [Act.put, setIfInBounds_toArray, set_cons_zero, set_cons_succ]
       refine until_take 22 (v := ?_) (by rfl) (by kernel_rfl) (by exact fun _ _ _ h => h) (by rfl) ?_ S0.out ?_
       rotate_left
       ·intro w hSw
        try dsimp only at hSw
        go_simp
        try with_reducible rfl
       try simp only [Act.put, setIfInBounds_toArray, set_cons_zero, set_cons_succ]
       refine until_take 23 (v := .bool true) (by rfl) (by kernel_rfl) (by exact fun _ _ _ h => h) (by rfl) ?_ S0.out ?_
       ·intro w hSw
        try dsimp only at hSw
        go_simp
       try simp only [Act.put, setIfInBounds_toArray, set_cons_zero, set_cons_succ]
       refine until_take 24 (v := ?_) (by rfl) (by kernel_rfl) (by exact fun _ _ _ h => h) (by rfl) ?_ S0.out ?_
       rotate_left
       ·intro w hSw
        try dsimp only at hSw
        go_simp
        try with_reducible rfl
       try simp only [Act.put, setIfInBounds_toArray, set_cons_zero, set_cons_succ]
       refine until_done (by kernel_rfl) ?_ _
       clear S0
       generalize wr.drew = X at *
       go_wp2_with fail
       go_roundw
       case rel => exact ⟨k + 1, by omega, by omega, by go_num, fun j hj => by
        rcases Nat.lt_succ_iff_lt_or_eq.1 hj with h | rfl
        ·exact HS.out j h
        ·rw [HYA.out, HYB.out], DX.out, EX.out, LX.out⟩
       case measure => simp [intOf]; omega
      ·have HQ : Hid (¬ (t = t' ∧ d = d')) := hq
       have HQF : Hid ((decide (t = t') && (d.toList == d'.toList)) = false) := by
        unfold Hid
        rw [toList_beq]
        by_cases e1 : t = t'
        ·have e2 : ¬ d = d' := fun e => hq ⟨e1, e⟩
         simp [e2]
        ·simp [e1]
       have HPRE : Hid (Pre a.ents b.ents k) := ⟨by have := HNA.out; omega, by have := HNB.out; omega, HS.out, fun _ _ e => by rw [HYA.out, HYB.out] at e; injection e with e1 e2; exact HQ.out ⟨e1, e2⟩⟩
       clear hq
       have S0 : Hid (wr.drew.cell? ⟨w.heap.size, 4, none⟩ = some (.slice (some ⟨g, off, none⟩) n cap) ∧ wr.drew.cell? ⟨w.heap.size + 1, 4, none⟩ = some (.slice (some ⟨g', off', none⟩) m cap1) ∧ wr.drew.cell? ⟨g, off + k * 2, none⟩ = some (.int .i64 t) ∧ wr.drew.cell? ⟨g, off + k * 2 + 1, none⟩ = some (.string d) ∧ wr.drew.cell? ⟨g', off' + k * 2, none⟩ = some (.int .i64 t') ∧ wr.drew.cell? ⟨g', off' + k * 2 + 1, none⟩ = some (.string d')) := ⟨(KA.out.on ER.out (by omega)).cell 4 _ rfl, (KB.out.on ER.out (by omega)).cell 4 _ rfl, hc0, hc1, hd0, hd1⟩
       have DX : Hid (Below w.heap.size w wr.drew) := DR.out.drew
       have EX : Hid (Below (w.heap.size + 2) w0 wr.drew) := ER.out.drew
       have LX : Hid (Owns wr.drew (w.heap.size + 2) 35 5 lv (rcdR rows)) := LR.out.heap rfl
       go_wp2_with fail
       refine wp_region_until (fun w' => w'.cell? ⟨w.heap.size, 4, none⟩ = some (.slice (some ⟨g, off, none⟩) n cap) ∧ w'.cell? ⟨w.heap.size + 1, 4, none⟩ = some (.slice (some ⟨g', off', none⟩) m cap1) ∧ w'.cell? ⟨g, off + k * 2, none⟩ = some (.int .i64 t) ∧ w'.cell? ⟨g, off + k * 2 + 1, none⟩ = some (.string d) ∧ w'.cell? ⟨g', off' + k * 2, none⟩ = some (.int .i64 t') ∧ w'.cell? ⟨g', off' + k * 2 + 1, none⟩ = some (.string d')) (fun _ => false) 25 (by rfl) (by kernel_rfl) ?_
       refine until_take 0 (v := ?_) (by rfl) (by kernel_rfl) (by exact fun _ _ _ h => h) (by rfl) ?_ S0.out ?_
       rotate_left
       ·intro w hSw
        try dsimp only at hSw
        go_simp
        try with_reducible rfl
       try simp only [Act.put, setIfInBounds_toArray, set_cons_zero, set_cons_succ]
       refine until_take 1 (v := ?_) (by rfl) (by kernel_rfl) (by exact fun _ _ _ h => h) (by rfl) ?_ S0.out ?_
       rotate_left
       ·intro w hSw
        try dsimp only at hSw
        go_simp
        try with_reducible rfl
       try simp only [Act.put, setIfInBounds_toArray, set_cons_zero, set_cons_succ]
       refine until_take 2 (v := ?_) (by rfl) (by kernel_rfl) (by exact fun _ _ _ h => h) (by rfl) ?_ S0.out ?_
       rotate_left
       ·intro w hSw
        try dsimp only at hSw
        go_simp
        try with_reducible rfl
       try simp only [Act.put, setIfInBounds_toArray, set_cons_zero, set_cons_succ]
       refine until_take 3 (v := ?_) (by rfl) (by kernel_rfl) (by exact fun _ _ _ h => h) (by rfl) ?_ S0.out ?_
       rotate_left
       ·intro w hSw
        try dsimp only at hSw
        go_simp
        try with_reducible rfl
       try simp only [Act.put, setIfInBounds_toArray, set_cons_zero, set_cons_succ]
       refine until_take 4 (v := .bool true) (by rfl) (by kernel_rfl) (by exact fun _ _ _ h => h) (by rfl) ?_ S0.out ?_
       ·intro w hSw
        try dsimp only at hSw
        go_simp
        try omega
       try simp only [Act.put, setIfInBounds_toArray, set_cons_zero, set_cons_succ]
       refine until_take 5 (v := ?_) (by rfl) (by kernel_rfl) (by exact fun _ _ _ h => h) (by rfl) ?_ S0.out ?_
       rotate_left
       ·intro w hSw
        try dsimp only at hSw
        go_simp
        try with_reducible rfl
       try simp only [Act.put, setIfInBounds_toArray, set_cons_zero, set_cons_succ]
       refine until_take 6 (v := ?_) (by rfl) (by kernel_rfl) (by exact fun _ _ _ h => h) (by rfl) ?_ S0.out ?_
       rotate_left
       ·intro w hSw
        try dsimp only at hSw
        go_simp
        try with_reducible rfl
       try simp only [Act.put, setIfInBounds_toArray, set_cons_zero, set_cons_succ]
       refine until_take 7 (v := ?_) (by rfl) (by kernel_rfl) (by exact fun _ _ _ h => h) (by rfl) ?_ S0.out ?_
       rotate_left
       ·intro w hSw
        try dsimp only at hSw
        go_simp
        try with_reducible rfl
       try simp only [Act.put, setIfInBounds_toArray, set_cons_zero, set_cons_succ]
       refine until_take 8 (v := ?_) (by rfl) (by kernel_rfl) (by exact fun _ _ _ h => h) (by rfl) ?_ S0.out ?_
       rotate_left
       ·intro w hSw
        try dsimp only at hSw
        go_simp
        try with_reducible rfl
       try simp only [Act.put, setIfInBounds_toArray, set_cons_zero, set_cons_succ]
       refine until_take 9 (v := ?_) (by rfl) (by kernel_rfl) (by exact fun _ _ _ h => h) (by rfl) ?_ S0.out ?_
       rotate_left
       ·intro w hSw
        try dsimp only at hSw
        go_simp
        try with_reducible rfl
       try simp only [Act.put, setIfInBounds_toArray, set_cons_zero, set_cons_succ]
       refine until_take 10 (v := .bool true) (by rfl) (by kernel_rfl) (by exact fun _ _ _ h => h) (by rfl) ?_ S0.out ?_
       ·intro w hSw
        try dsimp only at hSw
        go_simp
        try omega
       try simp only [Act.put, setIfInBounds_toArray, set_cons_zero, set_cons_succ]
       refine until_take 11 (v := ?_) (by rfl) (by kernel_rfl) (by exact fun _ _ _ h => h) (by rfl) ?_ S0.out ?_
       rotate_left
       ·intro w hSw
        try dsimp only at hSw
        go_simp
        try with_reducible rfl
       try simp only [Act.put, setIfInBounds_toArray, set_cons_zero, set_cons_succ]
       refine until_take 12 (v := ?_) (by rfl) (by kernel_rfl) (by exact fun _ _ _ h => h) (by rfl) ?_ S0.out ?_
       rotate_left
       ·intro w hSw
        try dsimp only at hSw
        go_simp
        try with_reducible rfl
       try simp only [Act.put, setIfInBounds_toArray, set_cons_zero, set_cons_succ]
       refine until_take 13 (v := ?_) (by rfl) (by kernel_rfl) (by exact fun _ _ _ h => h) (by rfl) ?_ S0.out ?_
       rotate_left
       ·intro w hSw
        try dsimp only at hSw
        go_simp
        try with_reducible rfl
       try simp only [Act.put, setIfInBounds_toArray, set_cons_zero, set_cons_succ]
       refine until_take 14 (v := ?_) (by rfl) (by kernel_rfl) (by exact fun _ _ _ h => h) (by rfl) ?_ S0.out ?_
       rotate_left
       ·intro w hSw
        try dsimp only at hSw
        go_simp
        try with_reducible rfl
       try simp only [Act.put, setIfInBounds_toArray, set_cons_zero, set_cons_succ]
       refine until_take 15 (v := ?_) (by rfl) (by kernel_rfl) (by exact fun _ _ _ h => h) (by rfl) ?_ S0.out ?_
       rotate_left
       ·intro w hSw
        try dsimp only at hSw
        go_simp
        try with_reducible rfl
       try simp only [Act.put, setIfInBounds_toArray, set_cons_zero, set_cons_succ]
       refine until_take 16 (v := ?_) (by rfl) (by kernel_rfl) (by exact fun _ _ _ h => h) (by rfl) ?_ S0.out ?_
       rotate_left
       ·intro w hSw
        try dsimp only at hSw
        go_simp
        try with_reducible rfl
       try simp only [Act.put, setIfInBounds_toArray, set_cons_zero, set_cons_succ]
       refine until_take 17 (v := ?_) (by rfl) (by kernel_rfl) (by exact fun _ _ _ h => h) (by rfl) ?_ S0.out ?_
       rotate_left
       ·intro w hSw
        try dsimp only at hSw
        go_simp
        try with_reducible rfl
       try simp only [Act.put, setIfInBounds_toArray, set_cons_zero, set_cons_succ]
       refine until_take 18 (v := ?_) (by rfl) (by kernel_rfl) (by exact fun _ _ _ h => h) (by rfl) ?_ S0.out ?_
       rotate_left
       ·intro w hSw
        try dsimp only at hSw
        go_simp
        try with_reducible rfl
       try simp only [Act.put, setIfInBounds_toArray, set_cons_zero, set_cons_succ]
       refine until_take 19 (v := ?_) (by rfl) (by kernel_rfl) (by exact fun _ _ _ h => h) (by rfl) ?_ S0.out ?_
       rotate_left
       ·intro w hSw
        try dsimp only at hSw
        go_simp
        try with_reducible rfl
       try simp only [Act.put, setIfInBounds_toArray, set_cons_zero, set_cons_succ]
       refine until_take 20 (v := ?_) (by rfl) (by kernel_rfl) (by exact fun _ _ _ h => h) (by rfl) ?_ S0.out ?_
       rotate_left
       ·intro w hSw
        try dsimp only at hSw
        go_simp
        try with_reducible rfl
       try simp only [Act.put, setIfInBounds_toArray, set_cons_zero, set_cons_succ]
       refine until_take 21 (v := ?_) (by rfl) (by kernel_rfl) (by exact fun _ _ _ h => h) (by rfl) ?_ S0.out ?_
       rotate_left
       ·intro w hSw
        try dsimp only at hSw
        go_simp
        try with_reducible rfl
       try simp only [Act.put, setIfInBounds_toArray, set_cons_zero, set_cons_succ]
       refine until_take 22 (v := ?_) (by rfl) (by kernel_rfl) (by exact fun _ _ _ h => h) (by rfl) ?_ S0.out ?_
       rotate_left
       ·intro w hSw
        try dsimp only at hSw
        go_simp
        try with_reducible rfl
       try simp only [Act.put, setIfInBounds_toArray, set_cons_zero, set_cons_succ]
       refine until_take 23 (v := .bool false) (by rfl) (by kernel_rfl) (by exact fun _ _ _ h => h) (by rfl) ?_ S0.out ?_
       ·intro w hSw
        try dsimp only at hSw
        go_simp
        first | exact HQF.out | (intro h1 h2; exact HQ.out ⟨h1, h2⟩) | (intro h1; simp only [h1, true_and] at *; exact HQD.out) | simpa using HQF.out
       try simp only [Act.put, setIfInBounds_toArray, set_cons_zero, set_cons_succ]
       refine until_take 24 (v := ?_) (by rfl) (by kernel_rfl) (by exact fun _ _ _ h => h) (by rfl) ?_ S0.out ?_
       rotate_left
       ·intro w hSw
        try dsimp only at hSw
        go_simp
        try with_reducible rfl
       try simp only [Act.put, setIfInBounds_toArray, set_cons_zero, set_cons_succ]
       refine until_done (by kernel_rfl) ?_ _
       clear S0
       generalize wr.drew = X at *
       clear hc0 hc1 hd0 hd1
       have a2' := (KA.out.on EX.out (by omega)).cell 2 (.int .i64 a.base) rfl
       have a4' := (KA.out.on EX.out (by omega)).cell 4 (.slice (some ⟨g, off, none⟩) n cap) rfl
       have b4' := (KB.out.on EX.out (by omega)).cell 4 (.slice (some ⟨g', off', none⟩) m cap1) rfl
       have ZX : w.heap.size + 2 ≤ X.heap.size := by have := EX.out.size; have := Z0.out; omega
       have LE : Hid ((rcdR rows).length ≤ 2097152) := by unfold Hid; rw [rcdR_length]; have := HRL.out; omega
       have HCU : Hid (cutR a k = [⟨3, 0, a.base + (k : Int) + 1, 0, ⟨#[]⟩⟩]) := by unfold Hid cutR; rw [if_pos (by have := HNA.out; omega)]
       go_wp2_with (at_builtin; refine wpList_append_row (w := X) rfl (.tmp 92) (.tmp 99) 29 35 (.agg #[.int .i64 0, .int .i64 0, .int .i64 0, .int .i64 0, .string ⟨#[]⟩]) 5 48 rfl Try.underlying29 Try.infoRcdS rfl (by omega) (w.heap.size + 2) (lv) (rcdR (rows)) rfl LX.out [.int .i64 3, .int .i64 0, .int .i64 (a.base + (k : Int) + 1), .int .i64 0, .string ⟨#[]⟩] rfl (rcd_cells _ _ _ _ _) rfl LE.out (by omega) ZX ?_; intro lv2 wY hOY hbY _ _; refine Shut.out ?_)
       unfold Shut
       have LY : Hid (Owns wY (w.heap.size + 2) 35 5 lv2 (rcdR (rows ++ cutR a k))) := by unfold Hid; rw [HCU.out, rcdR_snoc']; exact hOY
       have DY : Hid (Below w.heap.size w wY) := DX.out.trans (hbY.mono (by omega))
       have EY : Hid (Below (w.heap.size + 2) w0 wY) := EX.out.trans hbY
       have b4y := (KB.out.on EY.out (by omega)).cell 4 (.slice (some ⟨g', off', none⟩) m cap1) rfl
       clear hOY hbY a2' a4' b4' LX
       have HC1 : Hid ((rows ++ cutR a k).length ≤ 2) := by
        unfold Hid
        rw [HCU.out, List.length_append]
        have := HRL.out
        simp
        try omega
       generalize hr2 : rows ++ cutR a k = rows2 at *
       have HR2 : Hid (rows ++ cutR a k = rows2) := hr2
       clear hr2
       go_wp2_with fail
       go_loopw [6, 9] (fun v6 v9 wr => ∃ i : Nat, k ≤ i ∧ i ≤ m ∧ v9 = .int .i64 (i : Int) ∧ Owns wr (w.heap.size + 2) 35 5 v6 (rcdR (rows2 ++ entFrom b k (i - k))) ∧ Below w.heap.size w wr ∧ Below (w.heap.size + 2) w0 wr) (fun _ i _ => m - (intOf i).toNat)
       case atStart => exact ⟨k, Nat.le_refl _, by omega, rfl, by rw [Nat.sub_self, show entFrom b k 0 = [] from rfl, List.append_nil]; exact LY.out, DY.out, EY.out⟩
       case round =>
        obtain ⟨i, hki, him, rfl, hLo, hD, hE⟩ := hrel
        have LI : Hid (Owns wr (w.heap.size + 2) 35 5 u6 (rcdR (rows2 ++ entFrom b k (i - k)))) := hLo
        have DI : Hid (Below w.heap.size w wr) := hD
        have EI : Hid (Below (w.heap.size + 2) w0 wr) := hE
        have b2i := (KB.out.on EI.out (by omega)).cell 2 (.int .i64 a.base) rfl
        have b4i := (KB.out.on EI.out (by omega)).cell 4 (.slice (some ⟨g', off', none⟩) m cap1) rfl
        clear hLo hD hE LY DY EY b4y
        by_cases hlt : i < m
        ·have q7 : (i : Int) < (m : Int) := by omega
         obtain ⟨g2, o2, eg, hg2, hc0, hc1⟩ := HL1.out i (by omega)
         cases eg
         have G2 : g' < w.heap.size := Nat.lt_of_lt_of_le hg2 HB.out
         rw [← DI.out.cell (p := ⟨_, _, none⟩) G2] at hc0 hc1
         have HEF : Hid (entFrom b k (i + 1 - k) = entFrom b k (i - k) ++ [⟨2, (b.ents.getD i default).term, a.base + 1 + (i : Int), 0, (b.ents.getD i default).data⟩]) := by
          unfold Hid
          rw [show i + 1 - k = (i - k) + 1 by omega, entFrom_succ, show k + (i - k) = i by omega, HREC.out]
         generalize b.ents.getD i default = ye at *
         obtain ⟨et, ed⟩ := ye
         simp only at hc0 hc1 HEF
         have hzz : w.heap.size + 2 ≤ wr.drew.heap.size := by have h1 := EI.out.size; have h2 := Z0.out; show w.heap.size + 2 ≤ wr.heap.size; omega
         obtain ⟨nA, nm, nc, w5, r5, hO5, hb5, hk5, _⟩ := run_append_row (P := Try.prog) wr.drew 29 29 35 (.agg #[.int .i64 0, .int .i64 0, .int .i64 0, .int .i64 0, .string ⟨#[]⟩]) 5 48 Try.underlying29 Try.infoRcdS rfl (by omega) (w.heap.size + 2) u6 (rcdR (rows2 ++ entFrom b k (i - k))) (LI.out.kept fun _ _ _ => rfl) [.int .i64 2, .int .i64 et, .int .i64 (a.base + 1 + (i : Int)), .int .i64 0, .string ed] rfl (rcd_cells _ _ _ _ _) (by rw [rcdR_length, List.length_append, entFrom_length]; have := HC1.out; omega) (by omega) hzz
         have D5 : Hid (Below w.heap.size w w5) := DI.out.drew.trans (hb5.mono (by omega))
         have E5 : Hid (Below (w.heap.size + 2) w0 w5) := EI.out.drew.trans hb5
         have L5 : Hid (Owns w5 (w.heap.size + 2) 35 5 (.slice nA nm nc) (rcdR (rows2 ++ entFrom b k (i + 1 - k)))) := by unfold Hid; rw [HEF.out, ← List.append_assoc, rcdR_snoc']; exact hO5
         have S0 : Hid (wr.drew.cell? ⟨w.heap.size + 1, 2, none⟩ = some (.int .i64 a.base) ∧ wr.drew.cell? ⟨w.heap.size + 1, 4, none⟩ = some (.slice (some ⟨g', off', none⟩) m cap1) ∧ wr.drew.cell? ⟨g', off' + i * 2, none⟩ = some (.int .i64 et) ∧ wr.drew.cell? ⟨g', off' + i * 2 + 1, none⟩ = some (.string ed)) := ⟨b2i, b4i, hc0, hc1⟩
         clear hc0 hc1 hO5 hb5 hk5 hg2 G2
         go_wp2_with fail
         have hbb1 : 0 ≤ a.base := HBB.out.1
         have hbb2 : a.base ≤ 100000 := HBB.out.2
         have qi : (i : Int) < 60 := by omega
         have hw1 : IntKind.i64.wrap (a.base + 1) = a.base + 1 := by rw [IntKind.wrap_i64]; omega
         have hw2 : IntKind.i64.wrap (a.base + 1 + (i : Int)) = a.base + 1 + (i : Int) := by rw [IntKind.wrap_i64]; omega
         refine wp_region_until (fun w' => w'.cell? ⟨w.heap.size + 1, 2, none⟩ = some (.int .i64 a.base) ∧ w'.cell? ⟨w.heap.size + 1, 4, none⟩ = some (.slice (some ⟨g', off', none⟩) m cap1) ∧ w'.cell? ⟨g', off' + i * 2, none⟩ = some (.int .i64 et) ∧ w'.cell? ⟨g', off' + i * 2 + 1, none⟩ = some (.string ed)) (fun i => i == 20 || i == 21) 22 (by rfl) (by kernel_rfl) ?_
         refine until_take 0 (v := ?_) (by rfl) (by kernel_rfl) (by exact fun _ _ _ h => h) (by rfl) ?_ S0.out ?_
         rotate_left
         ·intro w hSw
          try dsimp only at hSw
          go_simp
          try with_reducible rfl
         try simp only [Act.put, setIfInBounds_toArray, set_cons_zero, set_cons_succ]
         refine until_take 1 (v := ?_) (by rfl) (by kernel_rfl) (by exact fun _ _ _ h => h) (by rfl) ?_ S0.out ?_
         rotate_left
         ·intro w hSw
          try dsimp only at hSw
          go_simp
          try with_reducible rfl
         try simp only [Act.put, setIfInBounds_toArray, set_cons_zero, set_cons_succ]
         refine until_take 2 (v := ?_) (by rfl) (by kernel_rfl) (by exact fun _ _ _ h => h) (by rfl) ?_ S0.out ?_
         rotate_left
         ·intro w hSw
          try dsimp only at hSw
          go_simp
          try with_reducible rfl
         try simp only [Act.put, setIfInBounds_toArray, set_cons_zero, set_cons_succ]
         refine until_take 3 (v := ?_) (by rfl) (by kernel_rfl) (by exact fun _ _ _ h => h) (by rfl) ?_ S0.out ?_
         rotate_left
         ·intro w hSw
          try dsimp only at hSw
          go_simp
          try with_reducible rfl
         try simp only [Act.put, setIfInBounds_toArray, set_cons_zero, set_cons_succ]
         refine until_take 4 (v := ?_) (by rfl) (by kernel_rfl) (by exact fun _ _ _ h => h) (by rfl) ?_ S0.out ?_
         rotate_left
         ·intro w hSw
          try dsimp only at hSw
          go_simp
          try with_reducible rfl
         try simp only [Act.put, setIfInBounds_toArray, set_cons_zero, set_cons_succ]
         refine until_take 5 (v := ?_) (by rfl) (by kernel_rfl) (by exact fun _ _ _ h => h) (by rfl) ?_ S0.out ?_
         rotate_left
         ·intro w hSw
          try dsimp only at hSw
          go_simp
          try with_reducible rfl
         try simp only [Act.put, setIfInBounds_toArray, set_cons_zero, set_cons_succ]
         refine until_take 6 (v := ?_) (by rfl) (by kernel_rfl) (by exact fun _ _ _ h => h) (by rfl) ?_ S0.out ?_
         rotate_left
         ·intro w hSw
          try dsimp only at hSw
          go_simp
          try with_reducible rfl
         try simp only [Act.put, setIfInBounds_toArray, set_cons_zero, set_cons_succ]
         refine until_take 7 (v := ?_) (by rfl) (by kernel_rfl) (by exact fun _ _ _ h => h) (by rfl) ?_ S0.out ?_
         rotate_left
         ·intro w hSw
          try dsimp only at hSw
          go_simp
          try with_reducible rfl
         try simp only [Act.put, setIfInBounds_toArray, set_cons_zero, set_cons_succ]
         refine until_take 8 (v := ?_) (by rfl) (by kernel_rfl) (by exact fun _ _ _ h => h) (by rfl) ?_ S0.out ?_
         rotate_left
         ·intro w hSw
          try dsimp only at hSw
          go_simp
          try with_reducible rfl
         try simp only [Act.put, setIfInBounds_toArray, set_cons_zero, set_cons_succ]
         refine until_take 9 (v := ?_) (by rfl) (by kernel_rfl) (by exact fun _ _ _ h => h) (by rfl) ?_ S0.out ?_
         rotate_left
         ·intro w hSw
          try dsimp only at hSw
          go_simp
          try with_reducible rfl
         try simp only [Act.put, setIfInBounds_toArray, set_cons_zero, set_cons_succ]
         refine until_take 10 (v := ?_) (by rfl) (by kernel_rfl) (by exact fun _ _ _ h => h) (by rfl) ?_ S0.out ?_
         rotate_left
         ·intro w hSw
          try dsimp only at hSw
          go_simp
          try with_reducible rfl
         try simp only [Act.put, setIfInBounds_toArray, set_cons_zero, set_cons_succ]
         refine until_take 11 (v := ?_) (by rfl) (by kernel_rfl) (by exact fun _ _ _ h => h) (by rfl) ?_ S0.out ?_
         rotate_left
         ·intro w hSw
          try dsimp only at hSw
          go_simp
          try with_reducible rfl
         try simp only [Act.put, setIfInBounds_toArray, set_cons_zero, set_cons_succ]
         refine until_take 12 (v := ?_) (by rfl) (by kernel_rfl) (by exact fun _ _ _ h => h) (by rfl) ?_ S0.out ?_
         rotate_left
         ·intro w hSw
          try dsimp only at hSw
          go_simp
          try with_reducible rfl
         try simp only [Act.put, setIfInBounds_toArray, set_cons_zero, set_cons_succ]
         refine until_take 13 (v := ?_) (by rfl) (by kernel_rfl) (by exact fun _ _ _ h => h) (by rfl) ?_ S0.out ?_
         rotate_left
         ·intro w hSw
          try dsimp only at hSw
          go_simp
          try with_reducible rfl
         try simp only [Act.put, setIfInBounds_toArray, set_cons_zero, set_cons_succ]
         refine until_take 14 (v := ?_) (by rfl) (by kernel_rfl) (by exact fun _ _ _ h => h) (by rfl) ?_ S0.out ?_
         rotate_left
         ·intro w hSw
          try dsimp only at hSw
          go_simp
          try with_reducible rfl
         try simp only [Act.put, setIfInBounds_toArray, set_cons_zero, set_cons_succ]
         refine until_take 15 (v := ?_) (by rfl) (by kernel_rfl) (by exact fun _ _ _ h => h) (by rfl) ?_ S0.out ?_
         rotate_left
         ·intro w hSw
          try dsimp only at hSw
          go_simp
          try with_reducible rfl
         try simp only [Act.put, setIfInBounds_toArray, set_cons_zero, set_cons_succ]
         refine until_take 16 (v := ?_) (by rfl) (by kernel_rfl) (by exact fun _ _ _ h => h) (by rfl) ?_ S0.out ?_
         rotate_left
         ·intro w hSw
          try dsimp only at hSw
          go_simp
          try with_reducible rfl
         try simp only [Act.put, setIfInBounds_toArray, set_cons_zero, set_cons_succ]
         refine until_take 17 (v := ?_) (by rfl) (by kernel_rfl) (by exact fun _ _ _ h => h) (by rfl) ?_ S0.out ?_
         rotate_left
         ·intro w hSw
          try dsimp only at hSw
          go_simp
          try with_reducible rfl
         try simp only [Act.put, setIfInBounds_toArray, set_cons_zero, set_cons_succ]
         refine until_take 18 (v := ?_) (by rfl) (by kernel_rfl) (by exact fun _ _ _ h => h) (by rfl) ?_ S0.out ?_
         rotate_left
         ·intro w hSw
          try dsimp only at hSw
          go_simp
          try with_reducible rfl
         try simp only [Act.put, setIfInBounds_toArray, set_cons_zero, set_cons_succ]
         refine until_one 19 (by rfl) (by kernel_rfl) (fun K hK => ?_)
         go_simp
         refine hK.out _ _ (fun _ h => ⟨cell_alloc_keep h.1 _, cell_alloc_keep h.2.1 _, cell_alloc_keep h.2.2.1 _, cell_alloc_keep h.2.2.2 _⟩) ?_
         clear hK K
         try simp only [Act.put, setIfInBounds_toArray, set_cons_zero, set_cons_succ]
         refine until_one 20 (by rfl) (by kernel_rfl) (fun K hK => ?_)
         refine step_append_run (by rfl) (.tmp 109) (.tmp 128) 29 (by rfl) _ _ _ _ (by rfl) (by rfl) r5 ?_
         refine hK.out _ _ (fun h => by cases h) ?_
         clear hK K
         try simp only [Act.put, setIfInBounds_toArray, set_cons_zero, set_cons_succ]
         refine until_one 21 (by rfl) (by kernel_rfl) (fun K hK => ?_)
         go_simp
         refine hK.out _ _ (fun h => by cases h) ?_
         clear hK K
         try simp only [Act.put, setIfInBounds_toArray, set_cons_zero, set_cons_succ]
         refine until_done (by kernel_rfl) ?_ _
         go_wp2_with fail
         go_roundw
         case rel => exact ⟨i + 1, by omega, by omega, by go_num, L5.out, D5.out, E5.out⟩
         case measure => simp [intOf]; omega
        ·obtain rfl : i = m := by omega
         have HFL : Hid (rows2 ++ entFrom b k (i - k) = chList a b k) := by
          unfold Hid chList
          rw [HH.out, HNB.out, ← HR2.out]
         go_wp2_with fail
         go_ret2
         exact ⟨_, true, _, .inl ⟨rfl, HOK.out, k, HPRE.out, HFL.out⟩, rfl, LI.out.mono (by omega), DI.out⟩
     ·have HPRE : Hid (Pre a.ents b.ents k) := ⟨by have := HNA.out; omega, by have := HNB.out; omega, HS.out, fun _ hh => by have := HNB.out; omega⟩
      have q4 : (m : Int) ≤ (k : Int) := by omega
      have S0 : Hid (wr.drew.cell? ⟨w.heap.size, 4, none⟩ = some (.slice A n cap) ∧ wr.drew.cell? ⟨w.heap.size + 1, 4, none⟩ = some (.slice A1 m cap1)) := ⟨(KA.out.on ER.out (by omega)).cell 4 _ rfl, (KB.out.on ER.out (by omega)).cell 4 _ rfl⟩
      have DX : Hid (Below w.heap.size w wr.drew) := DR.out.drew
      have EX : Hid (Below (w.heap.size + 2) w0 wr.drew) := ER.out.drew
      have LX : Hid (Owns wr.drew (w.heap.size + 2) 35 5 lv (rcdR rows)) := LR.out.heap rfl
      go_wp2_with fail
      refine wp_region_until (fun w' => w'.cell? ⟨w.heap.size, 4, none⟩ = some (.slice A n cap) ∧ w'.cell? ⟨w.heap.size + 1, 4, none⟩ = some (.slice A1 m cap1)) (fun _ => false) 25 (by rfl) (by kernel_rfl) ?_
      refine until_take 0 (v := ?_) (by rfl) (by kernel_rfl) (by exact fun _ _ _ h => h) (by rfl) ?_ S0.out ?_
      rotate_left
      ·intro w hSw
       try dsimp only at hSw
       go_simp
       try with_reducible rfl
      try simp only [Act.put, setIfInBounds_toArray, set_cons_zero, set_cons_succ]
      refine until_take 1 (v := ?_) (by rfl) (by kernel_rfl) (by exact fun _ _ _ h => h) (by rfl) ?_ S0.out ?_
      rotate_left
      ·intro w hSw
       try dsimp only at hSw
       go_simp
       try with_reducible rfl
      try simp only [Act.put, setIfInBounds_toArray, set_cons_zero, set_cons_succ]
      refine until_take 2 (v := ?_) (by rfl) (by kernel_rfl) (by exact fun _ _ _ h => h) (by rfl) ?_ S0.out ?_
      rotate_left
      ·intro w hSw
       try dsimp only at hSw
       go_simp
       try with_reducible rfl
      try simp only [Act.put, setIfInBounds_toArray, set_cons_zero, set_cons_succ]
      refine until_take 3 (v := ?_) (by rfl) (by kernel_rfl) (by exact fun _ _ _ h => h) (by rfl) ?_ S0.out ?_
      rotate_left
      ·intro w hSw
       try dsimp only at hSw
       go_simp
       try with_reducible rfl
      try simp only [Act.put, setIfInBounds_toArray, set_cons_zero, set_cons_succ]
      refine until_take 4 (v := .bool true) (by rfl) (by kernel_rfl) (by exact fun _ _ _ h => h) (by rfl) ?_ S0.out ?_
      ·intro w hSw
       try dsimp only at hSw
       go_simp
       try omega
      try simp only [Act.put, setIfInBounds_toArray, set_cons_zero, set_cons_succ]
      refine until_take 5 (v := ?_) (by rfl) (by kernel_rfl) (by exact fun _ _ _ h => h) (by rfl) ?_ S0.out ?_
      rotate_left
      ·intro w hSw
       try dsimp only at hSw
       go_simp
       try with_reducible rfl
      try simp only [Act.put, setIfInBounds_toArray, set_cons_zero, set_cons_succ]
      refine until_take 6 (v := ?_) (by rfl) (by kernel_rfl) (by exact fun _ _ _ h => h) (by rfl) ?_ S0.out ?_
      rotate_left
      ·intro w hSw
       try dsimp only at hSw
       go_simp
       try with_reducible rfl
      try simp only [Act.put, setIfInBounds_toArray, set_cons_zero, set_cons_succ]
      refine until_take 7 (v := ?_) (by rfl) (by kernel_rfl) (by exact fun _ _ _ h => h) (by rfl) ?_ S0.out ?_
      rotate_left
      ·intro w hSw
       try dsimp only at hSw
       go_simp
       try with_reducible rfl
      try simp only [Act.put, setIfInBounds_toArray, set_cons_zero, set_cons_succ]
      refine until_take 8 (v := ?_) (by rfl) (by kernel_rfl) (by exact fun _ _ _ h => h) (by rfl) ?_ S0.out ?_
      rotate_left
      ·intro w hSw
       try dsimp only at hSw
       go_simp
       try with_reducible rfl
      try simp only [Act.put, setIfInBounds_toArray, set_cons_zero, set_cons_succ]
      refine until_take 9 (v := ?_) (by rfl) (by kernel_rfl) (by exact fun _ _ _ h => h) (by rfl) ?_ S0.out ?_
      rotate_left
      ·intro w hSw
       try dsimp only at hSw
       go_simp
       try with_reducible rfl
      try simp only [Act.put, setIfInBounds_toArray, set_cons_zero, set_cons_succ]
      refine until_take 10 (v := .bool false) (by rfl) (by kernel_rfl) (by exact fun _ _ _ h => h) (by rfl) ?_ S0.out ?_
      ·intro w hSw
       try dsimp only at hSw
       go_simp
       try omega
      try simp only [Act.put, setIfInBounds_toArray, set_cons_zero, set_cons_succ]
      refine until_take 11 (v := ?_) (by rfl) (by kernel_rfl) (by exact fun _ _ _ h => h) (by rfl) ?_ S0.out ?_
      rotate_left
      ·intro w hSw
       try dsimp only at hSw
       go_simp
       try with_reducible rfl
      try simp only [Act.put, setIfInBounds_toArray, set_cons_zero, set_cons_succ]
      refine until_take 12 (v := ?_) (by rfl) (by kernel_rfl) (by exact fun _ _ _ h => h) (by rfl) ?_ S0.out ?_
      rotate_left
      ·intro w hSw
       try dsimp only at hSw
       go_simp
       try with_reducible rfl
      try simp only [Act.put, setIfInBounds_toArray, set_cons_zero, set_cons_succ]
      refine until_skip 13 (by rfl) (by kernel_rfl) (by exact fun _ _ _ h => h) (by rfl) ?_
      try simp only [Act.put, setIfInBounds_toArray, set_cons_zero, set_cons_succ]
      refine until_skip 14 (by rfl) (by kernel_rfl) (by exact fun _ _ _ h => h) (by rfl) ?_
      try simp only [Act.put, setIfInBounds_toArray, set_cons_zero, set_cons_succ]
      refine until_skip 15 (by rfl) (by kernel_rfl) (by exact fun _ _ _ h => h) (by rfl) ?_
      try simp only [Act.put, setIfInBounds_toArray, set_cons_zero, set_cons_succ]
      refine until_skip 16 (by rfl) (by kernel_rfl) (by exact fun _ _ _ h => h) (by rfl) ?_
      try simp only [Act.put, setIfInBounds_toArray, set_cons_zero, set_cons_succ]
      refine until_skip 17 (by rfl) (by kernel_rfl) (by exact fun _ _ _ h => h) (by rfl) ?_
      try simp only [Act.put, setIfInBounds_toArray, set_cons_zero, set_cons_succ]
      refine until_skip 18 (by rfl) (by kernel_rfl) (by exact fun _ _ _ h => h) (by rfl) ?_
      try simp only [Act.put, setIfInBounds_toArray, set_cons_zero, set_cons_succ]
      refine until_skip 19 (by rfl) (by kernel_rfl) (by exact fun _ _ _ h => h) (by rfl) ?_
      try simp only [Act.put, setIfInBounds_toArray, set_cons_zero, set_cons_succ]
      refine until_skip 20 (by rfl) (by kernel_rfl) (by exact fun _ _ _ h => h) (by rfl) ?_
      try simp only [Act.put, setIfInBounds_toArray, set_cons_zero, set_cons_succ]
      refine until_skip 21 (by rfl) (by kernel_rfl) (by exact fun _ _ _ h => h) (by rfl) ?_
      try simp only [Act.put, setIfInBounds_toArray, set_cons_zero, set_cons_succ]
      refine until_skip 22 (by rfl) (by kernel_rfl) (by exact fun _ _ _ h => h) (by rfl) ?_
      try simp only [Act.put, setIfInBounds_toArray, set_cons_zero, set_cons_succ]
      refine until_skip 23 (by rfl) (by kernel_rfl) (by exact fun _ _ _ h => h) (by rfl) ?_
      try simp only [Act.put, setIfInBounds_toArray, set_cons_zero, set_cons_succ]
      refine until_take 24 (v := ?_) (by rfl) (by kernel_rfl) (by exact fun _ _ _ h => h) (by rfl) ?_ S0.out ?_
      rotate_left
      ·intro w hSw
       try dsimp only at hSw
       go_simp
       try with_reducible rfl
      try simp only [Act.put, setIfInBounds_toArray, set_cons_zero, set_cons_succ]
      refine until_done (by kernel_rfl) ?_ _
      clear S0
      generalize wr.drew = X at *
      have a2' := (KA.out.on EX.out (by omega)).cell 2 (.int .i64 a.base) rfl
      have a4' := (KA.out.on EX.out (by omega)).cell 4 (.slice A n cap) rfl
      have b4' := (KB.out.on EX.out (by omega)).cell 4 (.slice A1 m cap1) rfl
      have ZX : w.heap.size + 2 ≤ X.heap.size := by have := EX.out.size; have := Z0.out; omega
      have LE : Hid ((rcdR rows).length ≤ 2097152) := by unfold Hid; rw [rcdR_length]; have := HRL.out; omega
      have HCU : Hid (cutR a k = [⟨3, 0, a.base + (k : Int) + 1, 0, ⟨#[]⟩⟩]) := by unfold Hid cutR; rw [if_pos (by have := HNA.out; omega)]
      go_wp2_with (at_builtin; refine wpList_append_row (w := X) rfl (.tmp 92) (.tmp 99) 29 35 (.agg #[.int .i64 0, .int .i64 0, .int .i64 0, .int .i64 0, .string ⟨#[]⟩]) 5 48 rfl Try.underlying29 Try.infoRcdS rfl (by omega) (w.heap.size + 2) (lv) (rcdR (rows)) rfl LX.out [.int .i64 3, .int .i64 0, .int .i64 (a.base + (k : Int) + 1), .int .i64 0, .string ⟨#[]⟩] rfl (rcd_cells _ _ _ _ _) rfl LE.out (by omega) ZX ?_; intro lv2 wY hOY hbY _ _; refine Shut.out ?_)
      unfold Shut
      have LY : Hid (Owns wY (w.heap.size + 2) 35 5 lv2 (rcdR (rows ++ cutR a k))) := by unfold Hid; rw [HCU.out, rcdR_snoc']; exact hOY
      have DY : Hid (Below w.heap.size w wY) := DX.out.trans (hbY.mono (by omega))
      have EY : Hid (Below (w.heap.size + 2) w0 wY) := EX.out.trans hbY
      have b4y := (KB.out.on EY.out (by omega)).cell 4 (.slice A1 m cap1) rfl
      clear hOY hbY a2' a4' b4' LX
      have HC1 : Hid ((rows ++ cutR a k).length ≤ 2) := by
       unfold Hid
       rw [HCU.out, List.length_append]
       have := HRL.out
       simp
       try omega
      generalize hr2 : rows ++ cutR a k = rows2 at *
      have HR2 : Hid (rows ++ cutR a k = rows2) := hr2
      clear hr2
      go_wp2_with fail
      go_loopw [6, 9] (fun v6 v9 wr => ∃ i : Nat, k ≤ i ∧ i ≤ m ∧ v9 = .int .i64 (i : Int) ∧ Owns wr (w.heap.size + 2) 35 5 v6 (rcdR (rows2 ++ entFrom b k (i - k))) ∧ Below w.heap.size w wr ∧ Below (w.heap.size + 2) w0 wr) (fun _ i _ => m - (intOf i).toNat)
      case atStart => exact ⟨k, Nat.le_refl _, by omega, rfl, by rw [Nat.sub_self, show entFrom b k 0 = [] from rfl, List.append_nil]; exact LY.out, DY.out, EY.out⟩
      case round =>
       obtain ⟨i, hki, him, rfl, hLo, hD, hE⟩ := hrel
       have LI : Hid (Owns wr (w.heap.size + 2) 35 5 u6 (rcdR (rows2 ++ entFrom b k (i - k)))) := hLo
       have DI : Hid (Below w.heap.size w wr) := hD
       have EI : Hid (Below (w.heap.size + 2) w0 wr) := hE
       have b2i := (KB.out.on EI.out (by omega)).cell 2 (.int .i64 a.base) rfl
       have b4i := (KB.out.on EI.out (by omega)).cell 4 (.slice A1 m cap1) rfl
       clear hLo hD hE LY DY EY b4y
       by_cases hlt : i < m
       ·exact absurd hlt (by omega)
       ·obtain rfl : i = m := by omega
        have HFL : Hid (rows2 ++ entFrom b k (i - k) = chList a b k) := by
         unfold Hid chList
         rw [HH.out, HNB.out, ← HR2.out]
        go_wp2_with fail
        go_ret2
        exact ⟨_, true, _, .inl ⟨rfl, HOK.out, k, HPRE.out, HFL.out⟩, rfl, LI.out.mono (by omega), DI.out⟩
    ·have HPRE : Hid (Pre a.ents b.ents k) := ⟨by have := HNA.out; omega, by have := HNB.out; omega, HS.out, fun hh _ => by have := HNA.out; omega⟩
     have q3 : (n : Int) ≤ (k : Int) := by omega
     have S0 : Hid (wr.drew.cell? ⟨w.heap.size, 4, none⟩ = some (.slice A n cap) ∧ wr.drew.cell? ⟨w.heap.size + 1, 4, none⟩ = some (.slice A1 m cap1)) := ⟨(KA.out.on ER.out (by omega)).cell 4 _ rfl, (KB.out.on ER.out (by omega)).cell 4 _ rfl⟩
     have DX : Hid (Below w.heap.size w wr.drew) := DR.out.drew
     have EX : Hid (Below (w.heap.size + 2) w0 wr.drew) := ER.out.drew
     have LX : Hid (Owns wr.drew (w.heap.size + 2) 35 5 lv (rcdR rows)) := LR.out.heap rfl
     go_wp2_with fail
     refine wp_region_until (fun w' => w'.cell? ⟨w.heap.size, 4, none⟩ = some (.slice A n cap) ∧ w'.cell? ⟨w.heap.size + 1, 4, none⟩ = some (.slice A1 m cap1)) (fun _ => false) 25 (by rfl) (by kernel_rfl) ?_
     refine until_take 0 (v := ?_) (by rfl) (by kernel_rfl) (by exact fun _ _ _ h => h) (by rfl) ?_ S0.out ?_
     rotate_left
     ·intro w hSw
      try dsimp only at hSw
      go_simp
      try with_reducible rfl
     try simp only [Act.put, setIfInBounds_toArray, set_cons_zero, set_cons_succ]
     refine until_take 1 (v := ?_) (by rfl) (by kernel_rfl) (by exact fun _ _ _ h => h) (by rfl) ?_ S0.out ?_
     rotate_left
     ·intro w hSw
      try dsimp only at hSw
      go_simp
      try with_reducible rfl
     try simp only [Act.put, setIfInBounds_toArray, set_cons_zero, set_cons_succ]
     refine until_take 2 (v := ?_) (by rfl) (by kernel_rfl) (by exact fun _ _ _ h => h) (by rfl) ?_ S0.out ?_
     rotate_left
     ·intro w hSw
      try dsimp only at hSw
      go_simp
      try with_reducible rfl
     try simp only [Act.put, setIfInBounds_toArray, set_cons_zero, set_cons_succ]
     refine until_take 3 (v := ?_) (by rfl) (by kernel_rfl) (by exact fun _ _ _ h => h) (by rfl) ?_ S0.out ?_
     rotate_left
     ·intro w hSw
      try dsimp only at hSw
      go_simp
      try with_reducible rfl
     try simp only [Act.put, setIfInBounds_toArray, set_cons_zero, set_cons_succ]
     refine until_take 4 (v := .bool false) (by rfl) (by kernel_rfl) (by exact fun _ _ _ h => h) (by rfl) ?_ S0.out ?_
     ·intro w hSw
      try dsimp only at hSw
      go_simp
      try omega
     try simp only [Act.put, setIfInBounds_toArray, set_cons_zero, set_cons_succ]
     refine until_take 5 (v := ?_) (by rfl) (by kernel_rfl) (by exact fun _ _ _ h => h) (by rfl) ?_ S0.out ?_
     rotate_left
     ·intro w hSw
      try dsimp only at hSw
      go_simp
      try with_reducible rfl
     try simp only [Act.put, setIfInBounds_toArray, set_cons_zero, set_cons_succ]
     refine until_skip 6 (by rfl) (by kernel_rfl) (by exact fun _ _ _ h => h) (by rfl) ?_
     try simp only [Act.put, setIfInBounds_toArray, set_cons_zero, set_cons_succ]
     refine until_skip 7 (by rfl) (by kernel_rfl) (by exact fun _ _ _ h => h) (by rfl) ?_
     try simp only [Act.put, setIfInBounds_toArray, set_cons_zero, set_cons_succ]
     refine until_skip 8 (by rfl) (by kernel_rfl) (by exact fun _ _ _ h => h) (by rfl) ?_
     try simp only [Act.put, setIfInBounds_toArray, set_cons_zero, set_cons_succ]
     refine until_skip 9 (by rfl) (by kernel_rfl) (by exact fun _ _ _ h => h) (by rfl) ?_
     try simp only [Act.put, setIfInBounds_toArray, set_cons_zero, set_cons_succ]
     refine until_skip 10 (by rfl) (by kernel_rfl) (by exact fun _ _ _ h => h) (by rfl) ?_
     try simp only [Act.put, setIfInBounds_toArray, set_cons_zero, set_cons_succ]
     refine until_take 11 (v := ?_) (by rfl) (by kernel_rfl) (by exact fun _ _ _ h => h) (by rfl) ?_ S0.out ?_
     rotate_left
     ·intro w hSw
      try dsimp only at hSw
      go_simp
      try with_reducible rfl
     try simp only [Act.put, setIfInBounds_toArray, set_cons_zero, set_cons_succ]
     refine until_take 12 (v := ?_) (by rfl) (by kernel_rfl) (by exact fun _ _ _ h => h) (by rfl) ?_ S0.out ?_
     rotate_left
     ·intro w hSw
      try dsimp only at hSw
      go_simp
      try with_reducible rfl
     try simp only [Act.put, setIfInBounds_toArray, set_cons_zero, set_cons_succ]
     refine until_skip 13 (by rfl) (by kernel_rfl) (by exact fun _ _ _ h => h) (by rfl) ?_
     try simp only [Act.put, setIfInBounds_toArray, set_cons_zero, set_cons_succ]
     refine until_skip 14 (by rfl) (by kernel_rfl) (by exact fun _ _ _ h => h) (by rfl) ?_
     try simp only [Act.put, setIfInBounds_toArray, set_cons_zero, set_cons_succ]
     refine until_skip 15 (by rfl) (by kernel_rfl) (by exact fun _ _ _ h => h) (by rfl) ?_
     try simp only [Act.put, setIfInBounds_toArray, set_cons_zero, set_cons_succ]
     refine until_skip 16 (by rfl) (by kernel_rfl) (by exact fun _ _ _ h => h) (by rfl) ?_
     try simp only [Act.put, setIfInBounds_toArray, set_cons_zero, set_cons_succ]
     refine until_skip 17 (by rfl) (by kernel_rfl) (by exact fun _ _ _ h => h) (by rfl) ?_
     try simp only [Act.put, setIfInBounds_toArray, set_cons_zero, set_cons_succ]
     refine until_skip 18 (by rfl) (by kernel_rfl) (by exact fun _ _ _ h => h) (by rfl) ?_
     try simp only [Act.put, setIfInBounds_toArray, set_cons_zero, set_cons_succ]
     refine until_skip 19 (by rfl) (by kernel_rfl) (by exact fun _ _ _ h => h) (by rfl) ?_
     try simp only [Act.put, setIfInBounds_toArray, set_cons_zero, set_cons_succ]
     refine until_skip 20 (by rfl) (by kernel_rfl) (by exact fun _ _ _ h => h) (by rfl) ?_
     try simp only [Act.put, setIfInBounds_toArray, set_cons_zero, set_cons_succ]
     refine until_skip 21 (by rfl) (by kernel_rfl) (by exact fun _ _ _ h => h) (by rfl) ?_
     try simp only [Act.put, setIfInBounds_toArray, set_cons_zero, set_cons_succ]
     refine until_skip 22 (by rfl) (by kernel_rfl) (by exact fun _ _ _ h => h) (by rfl) ?_
     try simp only [Act.put, setIfInBounds_toArray, set_cons_zero, set_cons_succ]
     refine until_skip 23 (by rfl) (by kernel_rfl) (by exact fun _ _ _ h => h) (by rfl) ?_
     try simp only [Act.put, setIfInBounds_toArray, set_cons_zero, set_cons_succ]
     refine until_take 24 (v := ?_) (by rfl) (by kernel_rfl) (by exact fun _ _ _ h => h) (by rfl) ?_ S0.out ?_
     rotate_left
     ·intro w hSw
      try dsimp only at hSw
      go_simp
      try with_reducible rfl
     try simp only [Act.put, setIfInBounds_toArray, set_cons_zero, set_cons_succ]
     refine until_done (by kernel_rfl) ?_ _
     clear S0
     generalize wr.drew = X at *
     have a2' := (KA.out.on EX.out (by omega)).cell 2 (.int .i64 a.base) rfl
     have a4' := (KA.out.on EX.out (by omega)).cell 4 (.slice A n cap) rfl
     have b4' := (KB.out.on EX.out (by omega)).cell 4 (.slice A1 m cap1) rfl
     have ZX : w.heap.size + 2 ≤ X.heap.size := by have := EX.out.size; have := Z0.out; omega
     have LE : Hid ((rcdR rows).length ≤ 2097152) := by unfold Hid; rw [rcdR_length]; have := HRL.out; omega
     have HCU : Hid (cutR a k = []) := by unfold Hid cutR; rw [if_neg (by have := HNA.out; omega)]
     have LY : Hid (Owns X (w.heap.size + 2) 35 5 lv (rcdR (rows ++ cutR a k))) := by unfold Hid; rw [HCU.out, List.append_nil]; exact LX.out
     have DY : Hid (Below w.heap.size w X) := DX.out
     have EY : Hid (Below (w.heap.size + 2) w0 X) := EX.out
     clear LX
     have HC1 : Hid ((rows ++ cutR a k).length ≤ 2) := by
      unfold Hid
      rw [HCU.out, List.length_append]
      have := HRL.out
      simp
      try omega
     generalize hr2 : rows ++ cutR a k = rows2 at *
     have HR2 : Hid (rows ++ cutR a k = rows2) := hr2
     clear hr2
     go_wp2_with fail
     go_loopw [6, 9] (fun v6 v9 wr => ∃ i : Nat, k ≤ i ∧ i ≤ m ∧ v9 = .int .i64 (i : Int) ∧ Owns wr (w.heap.size + 2) 35 5 v6 (rcdR (rows2 ++ entFrom b k (i - k))) ∧ Below w.heap.size w wr ∧ Below (w.heap.size + 2) w0 wr) (fun _ i _ => m - (intOf i).toNat)
     case atStart => exact ⟨k, Nat.le_refl _, by omega, rfl, by rw [Nat.sub_self, show entFrom b k 0 = [] from rfl, List.append_nil]; exact LY.out, DY.out, EY.out⟩
     case round =>
      obtain ⟨i, hki, him, rfl, hLo, hD, hE⟩ := hrel
      have LI : Hid (Owns wr (w.heap.size + 2) 35 5 u6 (rcdR (rows2 ++ entFrom b k (i - k)))) := hLo
      have DI : Hid (Below w.heap.size w wr) := hD
      have EI : Hid (Below (w.heap.size + 2) w0 wr) := hE
      have b2i := (KB.out.on EI.out (by omega)).cell 2 (.int .i64 a.base) rfl
      have b4i := (KB.out.on EI.out (by omega)).cell 4 (.slice A1 m cap1) rfl
      clear hLo hD hE LY DY EY a2' a4' b4'
      by_cases hlt : i < m
      ·have q7 : (i : Int) < (m : Int) := by omega
       obtain ⟨g2, o2, eg, hg2, hc0, hc1⟩ := HL1.out i (by omega)
       cases eg
       have G2 : g2 < w.heap.size := Nat.lt_of_lt_of_le hg2 HB.out
       rw [← DI.out.cell (p := ⟨_, _, none⟩) G2] at hc0 hc1
       have HEF : Hid (entFrom b k (i + 1 - k) = entFrom b k (i - k) ++ [⟨2, (b.ents.getD i default).term, a.base + 1 + (i : Int), 0, (b.ents.getD i default).data⟩]) := by
        unfold Hid
        rw [show i + 1 - k = (i - k) + 1 by omega, entFrom_succ, show k + (i - k) = i by omega, HREC.out]
       generalize b.ents.getD i default = ye at *
       obtain ⟨et, ed⟩ := ye
       simp only at hc0 hc1 HEF
       have hzz : w.heap.size + 2 ≤ wr.drew.heap.size := by have h1 := EI.out.size; have h2 := Z0.out; show w.heap.size + 2 ≤ wr.heap.size; omega
       obtain ⟨nA, nm, nc, w5, r5, hO5, hb5, hk5, _⟩ := run_append_row (P := Try.prog) wr.drew 29 29 35 (.agg #[.int .i64 0, .int .i64 0, .int .i64 0, .int .i64 0, .string ⟨#[]⟩]) 5 48 Try.underlying29 Try.infoRcdS rfl (by omega) (w.heap.size + 2) u6 (rcdR (rows2 ++ entFrom b k (i - k))) (LI.out.kept fun _ _ _ => rfl) [.int .i64 2, .int .i64 et, .int .i64 (a.base + 1 + (i : Int)), .int .i64 0, .string ed] rfl (rcd_cells _ _ _ _ _) (by rw [rcdR_length, List.length_append, entFrom_length]; have := HC1.out; omega) (by omega) hzz
       have D5 : Hid (Below w.heap.size w w5) := DI.out.drew.trans (hb5.mono (by omega))
       have E5 : Hid (Below (w.heap.size + 2) w0 w5) := EI.out.drew.trans hb5
       have L5 : Hid (Owns w5 (w.heap.size + 2) 35 5 (.slice nA nm nc) (rcdR (rows2 ++ entFrom b k (i + 1 - k)))) := by unfold Hid; rw [HEF.out, ← List.append_assoc, rcdR_snoc']; exact hO5
       have S0 : Hid (wr.drew.cell? ⟨w.heap.size + 1, 2, none⟩ = some (.int .i64 a.base) ∧ wr.drew.cell? ⟨w.heap.size + 1, 4, none⟩ = some (.slice (some ⟨g2, o2, none⟩) m cap1) ∧ wr.drew.cell? ⟨g2, o2 + i * 2, none⟩ = some (.int .i64 et) ∧ wr.drew.cell? ⟨g2, o2 + i * 2 + 1, none⟩ = some (.string ed)) := ⟨b2i, b4i, hc0, hc1⟩
       clear hc0 hc1 hO5 hb5 hk5 hg2 G2
       go_wp2_with fail
       have hbb1 : 0 ≤ a.base := HBB.out.1
       have hbb2 : a.base ≤ 100000 := HBB.out.2
       have qi : (i : Int) < 60 := by omega
       have hw1 : IntKind.i64.wrap (a.base + 1) = a.base + 1 := by rw [IntKind.wrap_i64]; omega
       have hw2 : IntKind.i64.wrap (a.base + 1 + (i : Int)) = a.base + 1 + (i : Int) := by rw [IntKind.wrap_i64]; omega
       refine wp_region_until (fun w' => w'.cell? ⟨w.heap.size + 1, 2, none⟩ = some (.int .i64 a.base) ∧ w'.cell? ⟨w.heap.size + 1, 4, none⟩ = some (.slice (some ⟨g2, o2, none⟩) m cap1) ∧ w'.cell? ⟨g2, o2 + i * 2, none⟩ = some (.int .i64 et) ∧ w'.cell? ⟨g2, o2 + i * 2 + 1, none⟩ = some (.string ed)) (fun i => i == 20 || i == 21) 22 (by rfl) (by kernel_rfl) ?_
       refine until_take 0 (v := ?_) (by rfl) (by kernel_rfl) (by exact fun _ _ _ h => h) (by rfl) ?_ S0.out ?_
       rotate_left
       ·intro w hSw
        try dsimp only at hSw
        go_simp
        try with_reducible rfl
       try simp only [Act.put, setIfInBounds_toArray, set_cons_zero, set_cons_succ]
       refine until_take 1 (v := ?_) (by rfl) (by kernel_rfl) (by exact fun _ _ _ h => h) (by rfl) ?_ S0.out ?_
       rotate_left
       ·intro w hSw
        try dsimp only at hSw
        go_simp
        try with_reducible rfl
       try simp only [Act.put, setIfInBounds_toArray, set_cons_zero, set_cons_succ]
       refine until_take 2 (v := ?_) (by rfl) (by kernel_rfl) (by exact fun _ _ _ h => h) (by rfl) ?_ S0.out ?_
       rotate_left
       ·intro w hSw
        try dsimp only at hSw
        go_simp
        try with_reducible rfl
       try simp only [Act.put, setIfInBounds_toArray, set_cons_zero, set_cons_succ]
       refine until_take 3 (v := ?_) (by rfl) (by kernel_rfl) (by exact fun _ _ _ h => h) (by rfl) ?_ S0.out ?_
       rotate_left
       ·intro w hSw
        try dsimp only at hSw
        go_simp
        try with_reducible rfl
       try simp only [Act.put, setIfInBounds_toArray, set_cons_zero, set_cons_succ]
       refine until_take 4 (v := ?_) (by rfl) (by kernel_rfl) (by exact fun _ _ _ h => h) (by rfl) ?_ S0.out ?_
       rotate_left
       ·intro w hSw
        try dsimp only at hSw
        go_simp
        try with_reducible rfl
       try simp only [Act.put, setIfInBounds_toArray, set_cons_zero, set_cons_succ]
       refine until_take 5 (v := ?_) (by rfl) (by kernel_rfl) (by exact fun _ _ _ h => h) (by rfl) ?_ S0.out ?_
       rotate_left
       ·intro w hSw
        try dsimp only at hSw
        go_simp
        try with_reducible rfl
       try simp only [Act.put, setIfInBounds_toArray, set_cons_zero, set_cons_succ]
       refine until_take 6 (v := ?_) (by rfl) (by kernel_rfl) (by exact fun _ _ _ h => h) (by rfl) ?_ S0.out ?_
       rotate_left
       ·intro w hSw
        try dsimp only at hSw
        go_simp
        try with_reducible rfl
       try simp only [Act.put, setIfInBounds_toArray, set_cons_zero, set_cons_succ]
       refine until_take 7 (v := ?_) (by rfl) (by kernel_rfl) (by exact fun _ _ _ h => h) (by rfl) ?_ S0.out ?_
       rotate_left
       ·intro w hSw
        try dsimp only at hSw
        go_simp
        try with_reducible rfl
       try simp only [Act.put, setIfInBounds_toArray, set_cons_zero, set_cons_succ]
       refine until_take 8 (v := ?_) (by rfl) (by kernel_rfl) (by exact fun _ _ _ h => h) (by rfl) ?_ S0.out ?_
       rotate_left
       ·intro w hSw
        try dsimp only at hSw
        go_simp
        try with_reducible rfl
       try simp only [Act.put, setIfInBounds_toArray, set_cons_zero, set_cons_succ]
       refine until_take 9 (v := ?_) (by rfl) (by kernel_rfl) (by exact fun _ _ _ h => h) (by rfl) ?_ S0.out ?_
       rotate_left
       ·intro w hSw
        try dsimp only at hSw
        go_simp
        try with_reducible rfl
       try simp only [Act.put, setIfInBounds_toArray, set_cons_zero, set_cons_succ]
       refine until_take 10 (v := ?_) (by rfl) (by kernel_rfl) (by exact fun _ _ _ h => h) (by rfl) ?_ S0.out ?_
       rotate_left
       ·intro w hSw
        try dsimp only at hSw
        go_simp
        try with_reducible rfl
       try simp only [Act.put, setIfInBounds_toArray, set_cons_zero, set_cons_succ]
       refine until_take 11 (v := ?_) (by rfl) (by kernel_rfl) (by exact fun _ _ _ h => h) (by rfl) ?_ S0.out ?_
       rotate_left
       ·intro w hSw
        try dsimp only at hSw
        go_simp
        try with_reducible rfl
       try simp only [Act.put, setIfInBounds_toArray, set_cons_zero, set_cons_succ]
       refine until_take 12 (v := ?_) (by rfl) (by kernel_rfl) (by exact fun _ _ _ h => h) (by rfl) ?_ S0.out ?_
       rotate_left
       ·intro w hSw
        try dsimp only at hSw
        go_simp
        try with_reducible rfl
       try simp only [Act.put, setIfInBounds_toArray, set_cons_zero, set_cons_succ]
       refine until_take 13 (v := ?_) (by rfl) (by kernel_rfl) (by exact fun _ _ _ h => h) (by rfl) ?_ S0.out ?_
       rotate_left
       ·intro w hSw
        try dsimp only at hSw
        go_simp
        try with_reducible rfl
       try simp only [Act.put, setIfInBounds_toArray, set_cons_zero, set_cons_succ]
       refine until_take 14 (v := ?_) (by rfl) (by kernel_rfl) (by exact fun _ _ _ h => h) (by rfl) ?_ S0.out ?_
       rotate_left
       ·intro w hSw
        try dsimp only at hSw
        go_simp
        try with_reducible rfl
       try simp only [Act.put, setIfInBounds_toArray, set_cons_zero, set_cons_succ]
       refine until_take 15 (v := ?_) (by rfl) (by kernel_rfl) (by exact fun _ _ _ h => h) (by rfl) ?_ S0.out ?_
       rotate_left
       ·intro w hSw
        try dsimp only at hSw
        go_simp
        try with_reducible rfl
       try simp only [Act.put, setIfInBounds_toArray, set_cons_zero, set_cons_succ]
       refine until_take 16 (v := ?_) (by rfl) (by kernel_rfl) (by exact fun _ _ _ h => h) (by rfl) ?_ S0.out ?_
       rotate_left
       ·intro w hSw
        try dsimp only at hSw
        go_simp
        try with_reducible rfl
       try simp only [Act.put, setIfInBounds_toArray, set_cons_zero, set_cons_succ]
       refine until_take 17 (v := ?_) (by rfl) (by kernel_rfl) (by exact fun _ _ _ h => h) (by rfl) ?_ S0.out ?_
       rotate_left
       ·intro w hSw
        try dsimp only at hSw
        go_simp
        try with_reducible rfl
       try simp only [Act.put, setIfInBounds_toArray, set_cons_zero, set_cons_succ]
       refine until_take 18 (v := ?_) (by rfl) (by kernel_rfl) (by exact fun _ _ _ h => h) (by rfl) ?_ S0.out ?_
       rotate_left
       ·intro w hSw
        try dsimp only at hSw
        go_simp
        try with_reducible rfl
       try simp only [Act.put, setIfInBounds_toArray, set_cons_zero, set_cons_succ]
       refine until_one 19 (by rfl) (by kernel_rfl) (fun K hK => ?_)
       go_simp
       refine hK.out _ _ (fun _ h => ⟨cell_alloc_keep h.1 _, cell_alloc_keep h.2.1 _, cell_alloc_keep h.2.2.1 _, cell_alloc_keep h.2.2.2 _⟩) ?_
       clear hK K
       try simp only [Act.put, setIfInBounds_toArray, set_cons_zero, set_cons_succ]
       refine until_one 20 (by rfl) (by kernel_rfl) (fun K hK => ?_)
       refine step_append_run (by rfl) (.tmp 109) (.tmp 128) 29 (by rfl) _ _ _ _ (by rfl) (by rfl) r5 ?_
       refine hK.out _ _ (fun h => by cases h) ?_
       clear hK K
       try simp only [Act.put, setIfInBounds_toArray, set_cons_zero, set_cons_succ]
       refine until_one 21 (by rfl) (by kernel_rfl) (fun K hK => ?_)
       go_simp
       refine hK.out _ _ (fun h => by cases h) ?_
       clear hK K
       try simp only [Act.put, setIfInBounds_toArray, set_cons_zero, set_cons_succ]
       refine until_done (by kernel_rfl) ?_ _
       go_wp2_with fail
       go_roundw
       case rel => exact ⟨i + 1, by omega, by omega, by go_num, L5.out, D5.out, E5.out⟩
       case measure => simp [intOf]; omega
      ·obtain rfl : i = m := by omega
       have HFL : Hid (rows2 ++ entFrom b k (i - k) = chList a b k) := by
        unfold Hid chList
        rw [HH.out, HNB.out, ← HR2.out]
       go_wp2_with fail
       go_ret2
       exact ⟨_, true, _, .inl ⟨rfl, HOK.out, k, HPRE.out, HFL.out⟩, rfl, LI.out.mono (by omega), DI.out⟩
end Go.Proofs.Ytfmannphobjgpaa
