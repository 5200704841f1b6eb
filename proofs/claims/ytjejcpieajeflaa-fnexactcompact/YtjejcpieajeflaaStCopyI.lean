/-
  Contracts of impl.firstOf, impl.copyEntries and impl.copyWal.
-/
import Derived.Test.YtjejcpieajeflaaRows
import Derived.Test.YtjejcpieajeflaaStAid
import Derived.Test.YtjejcpieajeflaaWkTo
import Derived.Test.YtjejcpieajeflaaClone
import Derived.Test.YtjejcpieajeflaaUntil
import Derived.Test.YtjejcpieajeflaaUntilF
import Derived.Handy
import Derived.Deep.RegionHeld3
namespace Go.Proofs.Ytjejcpieajeflaa
open Go.ChangeShapes Go.WideShapes Go.ChangeAt Go.RowKit Go.PlainAid
set_option linter.unusedVariables false

theorem Hid.mkC {p : Prop} (h : p) : Hid p := h
theorem cell_alloc_keepC {w : World} {p : Addr} {v : Value} (h : w.cell? p = some v) (o : Obj) : (w.alloc o).cell? p = some v := by
  have hl : p.block < w.heap.size := by
    rcases Nat.lt_or_ge p.block w.heap.size with h1 | h1
    · exact h1
    · simp [World.cell?, Array.getElem?_eq_none h1] at h
  exact (((Below.refl w.heap.size w).alloc (Nat.le_refl _) o).cell hl).trans h
theorem ent_cellsC (t : Int) (d : ByteArray) : ∀ u ∈ ([.int .i64 t, .string d] : List Value), u.oneCell' = true := by
  intro u hu
  simp only [List.mem_cons, List.not_mem_nil, or_false] at hu
  rcases hu with rfl | rfl <;> rfl
set_option maxRecDepth 20000 in
set_option maxHeartbeats 8000000 in
theorem copyEntsI (l : List Ent) (v : Value) (w : World) (B : Nat) (hv : Lies w B 2 v (entR l)) (hn : l.length ≤ 1048576) (hd : ∀ y ∈ l, y.data.size ≤ 1048576) (hB : B ≤ w.heap.size) :
    Calls Try.prog 83 #[v] w fun e w' => (∃ u, e = .returned u ∧ Owns w' w.heap.size 88 2 u (entR l)) ∧ Below w.heap.size w w' := by
  obtain ⟨A, cap, rfl, hlk⟩ := ent_look hv
  have HL := Hid.mkC hlk
  have HB : Hid (B ≤ w.heap.size) := hB
  have HD : Hid (∀ i, i < l.length → (l.getD i default).data.size ≤ 1048576) := fun i hi => hd _ (getD_mem l i hi)
  have HT : Hid (∀ i, i < l.length → entR (l.take (i + 1)) = entR (l.take i) ++ [entC (l.getD i default)]) := fun i hi => entR_snoc l i hi
  have HTA : Hid (l.take l.length = l) := List.take_length
  have HLN : Hid (∀ i, (entR (l.take i)).length ≤ 2097152) := fun i => by rw [entR_length, List.length_take]; omega
  clear hv hlk hB hd
  generalize hN : l.length = n at *
  clear hN
  have qn : (n : Int) ≤ 1048576 := by omega
  go_enter Try.func83, Try.ntmps83
  go_wp2_with fail
  go_loopw [3, 8] (fun v3 v8 wr => ∃ i : Nat, i ≤ n ∧ v8 = .int .i64 (i : Int) ∧ Owns wr w.heap.size 88 2 v3 (entR (l.take i)) ∧ Below w.heap.size w wr) (fun _ v _ => n - (intOf v).toNat)
  case atStart => exact ⟨0, Nat.zero_le _, rfl, Owns.nil _ _ _ _, Below.refl _ _⟩
  case round =>
    obtain ⟨i, hi, rfl, ho, hd⟩ := hrel
    obtain ⟨Ae, me, ce, rfl⟩ := ho.shape
    have O3 := Hid.mkC ho
    have D3 := Hid.mkC hd
    clear ho hd
    by_cases hlt : i < n
    · have q4 : (i : Int) < (n : Int) := by omega
      obtain ⟨g, off, rfl, hg, e0, e1⟩ := HL.out i hlt
      have hgw : g < w.heap.size := Nat.lt_of_lt_of_le hg HB.out
      rw [← D3.out.cell (p := ⟨_, _, none⟩) hgw] at e0 e1
      have hds := HD.out i hlt
      have HTi : Hid (entR (l.take (i + 1)) = entR (l.take i) ++ [entC (l.getD i default)]) := HT.out i hlt
      have HLi : Hid ((entR (l.take i)).length ≤ 2097152) := HLN.out i
      generalize l.getD i default = y at *
      obtain ⟨yt, yd⟩ := y
      simp only at e0 e1 hds
      have cC := fun wx => clone yd wx (by omega)
      have al := (Below.refl wr.heap.size wr).alloc (Nat.le_refl _) (.cells #[.int .i64 yt, .string yd] 88)
      have KE := Hid.mkC (Blk.new wr #[.int .i64 yt, .string yd] 88)
      have D4 : Hid (Below w.heap.size w (wr.alloc (.cells #[.int .i64 yt, .string yd] 88))) := D3.out.trans (al.mono D3.out.size)
      have O4 := Hid.mkC (O3.out.on al)
      clear al hds hgw hg
      go_wp2_with fail
      clear e0 e1 O3 D3
      generalize wr.heap.size = ge at *
      generalize wr.alloc (.cells #[.int .i64 yt, .string yd] 88) = Z at *
      have HS1 : Hid (∀ wx, Below Z.heap.size Z wx → wx.cell? ⟨ge, 0, none⟩ = some (.int .i64 yt) ∧ wx.cell? ⟨ge, 1, none⟩ = some (.string yd)) := fun wx hx => ⟨(KE.out.on hx KE.out.lt).cell 0 _ rfl, (KE.out.on hx KE.out.lt).cell 1 _ rfl⟩
      refine wp_region_until (fun w' => w'.cell? ⟨ge, 0, none⟩ = some (.int .i64 yt) ∧ w'.cell? ⟨ge, 1, none⟩ = some (.string yd)) (fun i => i == 8) 10 (by rfl) (by kernel_rfl) ?_
      have V0 : Hid (Below Z.heap.size Z Z.drew) := (Below.refl _ _).drew
      generalize Z.drew = Y0 at *
      refine tF 0 (HS1.out _ V0.out) ?_
      refine tF 1 (HS1.out _ V0.out) ?_
      refine tF 2 (HS1.out _ V0.out) ?_
      refine tF 3 (HS1.out _ V0.out) ?_
      refine tF 4 (HS1.out _ V0.out) ?_
      refine until_one 5 (by rfl) (by kernel_rfl) (fun K hK => ?_)
      go_simp
      refine (cC Y0).mono ?_
      rintro e Y1 ⟨rfl, hb⟩
      have V1 : Hid (Below Z.heap.size Z Y1) := V0.out.trans (hb.mono V0.out.size)
      clear hb V0 cC
      refine hK.out _ _ (fun _ _ => HS1.out _ V1.out) ?_
      clear hK K
      try simp only [Act.put, List.setIfInBounds_toArray, List.set_cons_zero, List.set_cons_succ]
      refine pF 6 ?_
      have O5 := Hid.mkC (O4.out.on V1.out)
      have D5 : Hid (Below w.heap.size w Y1) := D4.out.trans (V1.out.mono D4.out.size)
      obtain ⟨nA, nm, nc, w5, r5, hO5, hb5, hk5, -⟩ := run_append_row (P := Try.prog) Y1 28 28 88 (.agg #[.int .i64 0, .string ⟨#[]⟩]) 2 24 Try.underlying28 Try.infoEnt rfl (by omega) w.heap.size (.slice Ae me ce) (entR (l.take i)) O5.out [.int .i64 yt, .string yd] rfl (ent_cellsC _ _) HLi.out (by omega) D5.out.size
      refine until_one 7 (by rfl) (by kernel_rfl) (fun K hK => ?_)
      go_simp
      refine hK.out _ _ (fun _ h => ⟨cell_alloc_keepC h.1 _, cell_alloc_keepC h.2 _⟩) ?_
      clear hK K
      try simp only [Act.put, List.setIfInBounds_toArray, List.set_cons_zero, List.set_cons_succ]
      refine until_one 8 (by rfl) (by kernel_rfl) (fun K hK => ?_)
      refine step_append_run (by rfl) (.tmp 12) (.tmp 19) 28 (by rfl) _ _ _ _ (by rfl) (by rfl) r5 ?_
      have O6 : Hid (Owns w5 w.heap.size 88 2 (.slice nA nm nc) (entR (l.take (i + 1)))) := by unfold Hid; rw [HTi.out]; exact hO5
      have D6 : Hid (Below w.heap.size w w5) := D5.out.trans hb5
      clear hO5 hb5 hk5 r5 O5 D5 O4 D4 V1 KE HS1
      refine hK.out _ _ (fun h => by cases h) ?_
      clear hK K
      try simp only [Act.put, List.setIfInBounds_toArray, List.set_cons_zero, List.set_cons_succ]
      refine pF 9 ?_
      refine until_done (by kernel_rfl) ?_ _
      try go_wp2_with fail
      go_roundw
      case rel => exact ⟨i + 1, by omega, by go_num, O6.out, D6.out⟩
      case measure => simp [intOf]; omega
    · obtain rfl : i = n := by omega
      rw [HTA.out] at O3
      go_wp2_with fail
      go_ret
      exact ⟨⟨_, rfl, O3.out⟩, D3.out⟩
set_option maxRecDepth 20000 in
set_option maxHeartbeats 4000000 in
theorem copyI (x : Wl) (v : Value) (w : World) (B : Nat) (hv : WalV w B v x) (hn : x.ents.length ≤ 1048576) (hdd : ∀ e ∈ x.ents, e.data.size ≤ 1048576) (hB : B ≤ w.heap.size) :
    Calls Try.prog 53 #[v] w fun e w' => ∃ u, e = .returned u ∧ WalO w' w.heap.size u x ∧ Below w.heap.size w w' := by
  obtain ⟨u, rfl, hl⟩ := hv
  obtain ⟨A, cap, rfl, -⟩ := ent_look hl
  have HLI : Hid (Lies w B 2 (.slice A x.ents.length cap) (entR x.ents)) := hl
  have HB : Hid (B ≤ w.heap.size) := hB
  have L1 : Hid (x.ents.length ≤ 1048576) := hn
  have HDD : Hid (∀ e ∈ x.ents, e.data.size ≤ 1048576) := hdd
  clear hl hB hn hdd
  go_enter Try.func53, Try.ntmps53
  go_wp2_with fail
  have hb0 : Below w.heap.size w ((w.alloc (.cells #[.int .i64 x.term, .int .i64 x.vote, .int .i64 x.base, .int .i64 x.bterm, .slice A x.ents.length cap] 35)).alloc (.cells #[.int .i64 0, .int .i64 0, .int .i64 0, .int .i64 0, .slice none 0 0] 35)) := ((Below.refl _ w).alloc (Nat.le_refl _) _).alloc (by simp) _
  have bA := (Blk.new w #[.int .i64 x.term, .int .i64 x.vote, .int .i64 x.base, .int .i64 x.bterm, .slice A x.ents.length cap] 35).alloc (.cells #[.int .i64 0, .int .i64 0, .int .i64 0, .int .i64 0, .slice none 0 0] 35)
  have bR := Blk.new (w.alloc (.cells #[.int .i64 x.term, .int .i64 x.vote, .int .i64 x.base, .int .i64 x.bterm, .slice A x.ents.length cap] 35)) #[.int .i64 0, .int .i64 0, .int .i64 0, .int .i64 0, .slice none 0 0] 35
  have hsz : ((w.alloc (.cells #[.int .i64 x.term, .int .i64 x.vote, .int .i64 x.base, .int .i64 x.bterm, .slice A x.ents.length cap] 35)).alloc (.cells #[.int .i64 0, .int .i64 0, .int .i64 0, .int .i64 0, .slice none 0 0] 35)).heap.size = w.heap.size + 1 + 1 := by simp
  simp only [World.size_alloc] at bR
  generalize (w.alloc (.cells #[.int .i64 x.term, .int .i64 x.vote, .int .i64 x.base, .int .i64 x.bterm, .slice A x.ents.length cap] 35)).alloc (.cells #[.int .i64 0, .int .i64 0, .int .i64 0, .int .i64 0, .slice none 0 0] 35) = W at *
  have B0 : Hid (Below w.heap.size w W) := hb0
  have KA : Hid (Blk W w.heap.size #[.int .i64 x.term, .int .i64 x.vote, .int .i64 x.base, .int .i64 x.bterm, .slice A x.ents.length cap] 35) := bA
  have KR : Hid (Blk W (w.heap.size + 1) #[.int .i64 0, .int .i64 0, .int .i64 0, .int .i64 0, .slice none 0 0] 35) := bR
  have Z0 : Hid (W.heap.size = w.heap.size + 1 + 1) := hsz
  clear hb0 bA bR hsz
  have c := copyEntsI x.ents (.slice A x.ents.length cap) W B (HLI.out.on (B0.out.mono HB.out)) L1.out HDD.out (by have := Z0.out; have := HB.out; omega)
  have a4 := KA.out.cell 4 (.slice A x.ents.length cap) rfl
  try go_wp2_with fail
  refine c.mono ?_
  rintro e wr ⟨⟨u, rfl, ho⟩, hb1⟩
  clear c a4
  obtain ⟨sA, sm, sc, rfl⟩ := ho.shape
  rw [Z0.out] at ho hb1
  have hszr := hb1.size
  rw [Z0.out] at hszr
  have kA := KA.out.on hb1 (by omega)
  have kR := KR.out.on hb1 (by omega)
  have B1 : Hid (Below w.heap.size w wr) := B0.out.trans (hb1.mono (by omega))
  have O1 : Hid (Owns wr (w.heap.size + 1 + 1) 88 2 (.slice sA sm sc) (entR x.ents)) := ho
  clear ho hb1
  have e0 := kA.cell 0 (.int .i64 x.term) rfl
  have f0 := kA.free 0
  have e1 := kA.cell 1 (.int .i64 x.vote) rfl
  have f1 := kA.free 1
  have e2 := kA.cell 2 (.int .i64 x.base) rfl
  have f2 := kA.free 2
  have e3 := kA.cell 3 (.int .i64 x.bterm) rfl
  have f3 := kA.free 3
  have e4 := kA.cell 4 (.slice A x.ents.length cap) rfl
  have f4 := kA.free 4
  have r0 := kR.cell 0 (.int .i64 0) rfl
  have g0 := kR.free 0
  have r1 := kR.cell 1 (.int .i64 0) rfl
  have g1 := kR.free 1
  have r2 := kR.cell 2 (.int .i64 0) rfl
  have g2 := kR.free 2
  have r3 := kR.cell 3 (.int .i64 0) rfl
  have g3 := kR.free 3
  have r4 := kR.cell 4 (.slice none 0 0) rfl
  have g4 := kR.free 4
  have KR1 : Hid (Blk wr (w.heap.size + 1) #[.int .i64 0, .int .i64 0, .int .i64 0, .int .i64 0, .slice none 0 0] 35) := kR
  clear kA kR
  go_wp2_with fail
  have hF := (((((KR1.out.other (show w.heap.size + 1 ≠ w.heap.size by omega) 4 (.slice sA sm sc)).set 0 (.int .i64 x.term)).set 1 (.int .i64 x.vote)).set 2 (.int .i64 x.base)).set 3 (.int .i64 x.bterm)).set 4 (.slice sA sm sc)
  have OF := (((((O1.out.other (O1.out.below (show w.heap.size < _ by omega)) 4 (.slice sA sm sc)).other (O1.out.below (show w.heap.size + 1 < _ by omega)) 0 (.int .i64 x.term)).other (O1.out.below (show w.heap.size + 1 < _ by omega)) 1 (.int .i64 x.vote)).other (O1.out.below (show w.heap.size + 1 < _ by omega)) 2 (.int .i64 x.base)).other (O1.out.below (show w.heap.size + 1 < _ by omega)) 3 (.int .i64 x.bterm)).other (O1.out.below (show w.heap.size + 1 < _ by omega)) 4 (.slice sA sm sc)
  have FB := (((((B1.out.setCell (Nat.le_refl _) (.slice sA sm sc) (p := ⟨_, 4, none⟩)).setCell (show w.heap.size ≤ w.heap.size + 1 by omega) (.int .i64 x.term) (p := ⟨_, 0, none⟩)).setCell (show w.heap.size ≤ w.heap.size + 1 by omega) (.int .i64 x.vote) (p := ⟨_, 1, none⟩)).setCell (show w.heap.size ≤ w.heap.size + 1 by omega) (.int .i64 x.base) (p := ⟨_, 2, none⟩)).setCell (show w.heap.size ≤ w.heap.size + 1 by omega) (.int .i64 x.bterm) (p := ⟨_, 3, none⟩)).setCell (show w.heap.size ≤ w.heap.size + 1 by omega) (.slice sA sm sc) (p := ⟨_, 4, none⟩)
  clear e0 f0 e1 f1 e2 f2 e3 f3 e4 f4 r0 g0 r1 g1 r2 g2 r3 g3 r4 g4
  generalize (((((wr.setCell ⟨w.heap.size, 4, none⟩ (.slice sA sm sc)).setCell ⟨w.heap.size + 1, 0, none⟩ (.int .i64 x.term)).setCell ⟨w.heap.size + 1, 1, none⟩ (.int .i64 x.vote)).setCell ⟨w.heap.size + 1, 2, none⟩ (.int .i64 x.base)).setCell ⟨w.heap.size + 1, 3, none⟩ (.int .i64 x.bterm)).setCell ⟨w.heap.size + 1, 4, none⟩ (.slice sA sm sc) = WF at *
  have hG : Blk WF (w.heap.size + 1) #[.int .i64 x.term, .int .i64 x.vote, .int .i64 x.base, .int .i64 x.bterm, .slice sA sm sc] 35 := hF
  have mm0 := hG.cell 0 (.int .i64 x.term) rfl
  have mm1 := hG.cell 1 (.int .i64 x.vote) rfl
  have mm2 := hG.cell 2 (.int .i64 x.base) rfl
  have mm3 := hG.cell 3 (.int .i64 x.bterm) rfl
  have mm4 := hG.cell 4 (.slice sA sm sc) rfl
  exact bodyPost_ret (v := .agg #[.int .i64 x.term, .int .i64 x.vote, .int .i64 x.base, .int .i64 x.bterm, .slice sA sm sc]) (by simp [results, go_sem, mm0, mm1, mm2, mm3, mm4]) rfl ⟨_, rfl, ⟨_, rfl, OF.mono (by omega)⟩, FB⟩
end Go.Proofs.Ytjejcpieajeflaa
