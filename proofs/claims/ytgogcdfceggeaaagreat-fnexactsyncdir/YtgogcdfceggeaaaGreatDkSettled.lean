/-
  The contract of spec.l4Settled.
-/
import Derived.Test.YtgogcdfceggeaaaGreatRows
import Derived.Test.YtgogcdfceggeaaaGreatImSetP
import Derived.Test.YtgogcdfceggeaaaGreatImTakeM
import Derived.Test.YtgogcdfceggeaaaGreatImToldO
import Derived.Test.YtgogcdfceggeaaaGreatDkRead
import Derived.Test.YtgogcdfceggeaaaGreatDkOkD
namespace Go.Proofs.YtgogcdfceggeaaaGreat
open Go.ChangeShapes Go.WideShapes Go.ChangeAt Go.RowKit Go.PlainAid
set_option linter.unusedVariables false

theorem keptN_snoc (l : List Lnk) (ns : List Nod) (k : Nat) (hk : k < ns.length) : keptN l (ns.take (k + 1)) = if linked l (ns.getD k default).id = true then keptN l (ns.take k) ++ [ns.getD k default] else keptN l (ns.take k) := by
  unfold keptN
  rw [take_getD ns k hk, List.filter_append, List.filter_cons, List.filter_nil]
  split
  · rfl
  · rw [List.append_nil]

set_option maxRecDepth 20000 in
set_option maxHeartbeats 4000000 in
theorem settledV (room next : Int) (v1 v2 v3 lv iv : Value) (l : List Lnk) (ns : List Nod) (w : World) (B : Nat) (hlv : Lies w B 2 lv (lnkR l)) (hiv : Lies w B 3 iv (nodR ns)) (hl : l.length ≤ 1048576) (hns : ns.length ≤ 1000) (hB : B ≤ w.heap.size) :
    Calls Tryz.prog 15 #[.agg #[.int .i64 room, .int .i64 next, v1, v2, v3], lv, iv] w fun e w' => ∃ u, e = .returned (.agg #[.int .i64 room, .int .i64 next, u, lv, .slice none 0 0]) ∧ Owns w' w.heap.size 69 3 u (nodR (keptN l ns)) ∧ Below w.heap.size w w' := by
  have HLV : Hid (Lies w B 2 lv (lnkR l)) := hlv
  have HB : Hid (B ≤ w.heap.size) := hB
  have HL : Hid (l.length ≤ 1048576) := hl
  obtain ⟨iA, ic, rfl, hlk⟩ := nod_look hiv
  obtain ⟨lA, lc, rfl, _⟩ := lnk_look hlv
  have HI : Hid (∀ j, j < ns.length → ∃ g off, iA = some ⟨g, off, none⟩ ∧ g < B ∧ _) := hlk
  have q1 : (ns.length : Int) ≤ 1000 := by omega
  have HNS : Hid (ns.length ≤ 1000) := hns
  clear hlk hlv hiv hl hns hB
  generalize hN : ns.length = n at *
  have HN : Hid (ns.length = n) := hN
  clear hN
  go_enter Tryz.func15, Tryz.ntmps15
  go_wp2_with fail
  have b0 : Below w.heap.size w (((w.alloc (.cells #[.int .i64 room, .int .i64 next, v1, v2, v3] 32)).alloc (.cells #[.int .i64 0, .int .i64 0, .slice none 0 0, .slice none 0 0, .slice none 0 0] 32)).alloc (.cells #[.int .i64 room, .int .i64 next, .slice none 0 0, .slice lA l.length lc, .slice none 0 0] 32)) := (((Below.refl _ w).alloc (Nat.le_refl _) _).alloc (by simp) _).alloc (by simp; omega) _
  have kO := Blk.new ((w.alloc (.cells #[.int .i64 room, .int .i64 next, v1, v2, v3] 32)).alloc (.cells #[.int .i64 0, .int .i64 0, .slice none 0 0, .slice none 0 0, .slice none 0 0] 32)) #[.int .i64 room, .int .i64 next, .slice none 0 0, .slice lA l.length lc, .slice none 0 0] 32
  have kR := (Blk.new (w.alloc (.cells #[.int .i64 room, .int .i64 next, v1, v2, v3] 32)) #[.int .i64 0, .int .i64 0, .slice none 0 0, .slice none 0 0, .slice none 0 0] 32).alloc (.cells #[.int .i64 room, .int .i64 next, .slice none 0 0, .slice lA l.length lc, .slice none 0 0] 32)
  simp only [World.size_alloc] at kO kR
  have ST : Hid (Blk (((w.alloc (.cells #[.int .i64 room, .int .i64 next, v1, v2, v3] 32)).alloc (.cells #[.int .i64 0, .int .i64 0, .slice none 0 0, .slice none 0 0, .slice none 0 0] 32)).alloc (.cells #[.int .i64 room, .int .i64 next, .slice none 0 0, .slice lA l.length lc, .slice none 0 0] 32)) (w.heap.size + 1 + 1) #[.int .i64 room, .int .i64 next, .slice none 0 0, .slice lA l.length lc, .slice none 0 0] 32 ∧ Blk (((w.alloc (.cells #[.int .i64 room, .int .i64 next, v1, v2, v3] 32)).alloc (.cells #[.int .i64 0, .int .i64 0, .slice none 0 0, .slice none 0 0, .slice none 0 0] 32)).alloc (.cells #[.int .i64 room, .int .i64 next, .slice none 0 0, .slice lA l.length lc, .slice none 0 0] 32)) (w.heap.size + 1) #[.int .i64 0, .int .i64 0, .slice none 0 0, .slice none 0 0, .slice none 0 0] 32 ∧ Below w.heap.size w (((w.alloc (.cells #[.int .i64 room, .int .i64 next, v1, v2, v3] 32)).alloc (.cells #[.int .i64 0, .int .i64 0, .slice none 0 0, .slice none 0 0, .slice none 0 0] 32)).alloc (.cells #[.int .i64 room, .int .i64 next, .slice none 0 0, .slice lA l.length lc, .slice none 0 0] 32))) := ⟨kO, kR, b0⟩
  clear b0 kO kR
  generalize ((w.alloc (.cells #[.int .i64 room, .int .i64 next, v1, v2, v3] 32)).alloc (.cells #[.int .i64 0, .int .i64 0, .slice none 0 0, .slice none 0 0, .slice none 0 0] 32)).alloc (.cells #[.int .i64 room, .int .i64 next, .slice none 0 0, .slice lA l.length lc, .slice none 0 0] 32) = W at *
  go_loopw [8] (fun v8 wr => ∃ (k : Nat) (s : Value), k ≤ n ∧ v8 = .int .i64 (k : Int) ∧ Blk wr (w.heap.size + 1 + 1) #[.int .i64 room, .int .i64 next, s, .slice lA l.length lc, .slice none 0 0] 32 ∧ Blk wr (w.heap.size + 1) #[.int .i64 0, .int .i64 0, .slice none 0 0, .slice none 0 0, .slice none 0 0] 32 ∧ Owns wr (w.heap.size + 1 + 1 + 1) 69 3 s (nodR (keptN l (ns.take k))) ∧ Below w.heap.size w wr) (fun i _ => n - (intOf i).toNat)
  case atStart => exact ⟨0, _, by omega, rfl, ST.out.1, ST.out.2.1, Owns.nil _ _ _ _, ST.out.2.2⟩
  case round =>
    obtain ⟨k, s, hk, rfl, hO, hRk, hOw, hb⟩ := hrel
    have BR : Hid (Below w.heap.size w wr) := hb
    have KO : Hid (Blk wr (w.heap.size + 1 + 1) #[.int .i64 room, .int .i64 next, s, .slice lA l.length lc, .slice none 0 0] 32) := hO
    have KR : Hid (Blk wr (w.heap.size + 1) #[.int .i64 0, .int .i64 0, .slice none 0 0, .slice none 0 0, .slice none 0 0] 32) := hRk
    have OW : Hid (Owns wr (w.heap.size + 1 + 1 + 1) 69 3 s (nodR (keptN l (ns.take k)))) := hOw
    obtain ⟨sA, sm, sc, rfl⟩ := hOw.shape
    clear hO hRk hOw hb
    by_cases hlt : k < n
    · have q2 : (k : Int) < (n : Int) := by omega
      have q3 : (3 * (k : Int)) ≤ 3000 := by omega
      obtain ⟨gi, off, rfl, hgB, hc0, hc1, hc2⟩ := HI.out k hlt
      have hgw : gi < w.heap.size := Nat.lt_of_lt_of_le hgB HB.out
      rw [← BR.out.cell (p := ⟨_, _, none⟩) hgw] at hc0 hc1 hc2
      have cL := fun id => linkedV l (.slice lA l.length lc) id wr w.heap.size ((HLV.out.on (BR.out.mono HB.out)).mono HB.out) HL.out
      have HKS := keptN_snoc l ns k (by rw [HN.out]; exact hlt)
      generalize hxx : ns.getD k default = xx at *
      obtain ⟨xi, xd, xs⟩ := xx
      simp only at hc0 hc1 hc2 HKS
      have HLE : Hid ((nodR (keptN l (ns.take k))).length ≤ 2097152) := by
        unfold Hid
        rw [nodR_length]
        have h1 : (keptN l (ns.take k)).length ≤ (ns.take k).length := List.length_filter_le _ _
        rw [List.length_take] at h1
        have := HNS.out
        omega
      cases hlk : linked l xi with
      | false =>
        have cL := cL xi
        rw [hlk] at cL HKS
        have HKS2 : Hid (keptN l (ns.take (k + 1)) = keptN l (ns.take k)) := by unfold Hid; rw [HKS]; simp
        clear HKS hlk
        go_wp2_with fail
        refine cL.mono ?_
        rintro e w1 ⟨rfl, rfl⟩
        go_wp2_with fail
        go_roundw
        case rel => exact ⟨k + 1, _, by omega, by go_num, KO.out, KR.out, by rw [HKS2.out]; exact OW.out, BR.out⟩
        case measure => simp [intOf]; omega
      | true =>
        have cL := cL xi
        rw [hlk] at cL HKS
        have e2 : nodR (keptN l (ns.take (k + 1))) = nodR (keptN l (ns.take k)) ++ [[.int .i64 xi, .string xd, .int .i64 xs]] := by rw [HKS, if_pos rfl]; unfold nodR; rw [List.map_append]; rfl
        have HE2 : Hid (nodR (keptN l (ns.take (k + 1))) = nodR (keptN l (ns.take k)) ++ [[.int .i64 xi, .string xd, .int .i64 xs]]) := e2
        clear HKS hlk e2
        have hz1 : w.heap.size + 1 + 1 + 1 ≤ wr.heap.size := KO.out.lt
        obtain ⟨nA, nm, nc, w5, r5, hO5, hb5, hk5, _⟩ := run_append_row (P := Tryz.prog) wr.drew 28 28 69 (.agg #[.int .i64 0, .string ⟨#[]⟩, .int .i64 0]) 3 32 Tryz.underlying28 Tryz.infoNod rfl (by omega) (w.heap.size + 1 + 1 + 1) (.slice sA sm sc) (nodR (keptN l (ns.take k))) (OW.out.kept fun _ _ _ => rfl) [.int .i64 xi, .string xd, .int .i64 xs] rfl (by intro y hy; simp at hy; rcases hy with rfl | rfl | rfl <;> rfl) HLE.out (by omega) hz1
        have B5 : Hid (Below (w.heap.size + 1 + 1 + 1) wr w5) := (Below.refl _ wr).drew.trans hb5
        have K5 : Hid (Blk w5 (w.heap.size + 1 + 1) #[.int .i64 room, .int .i64 next, .slice sA sm sc, .slice lA l.length lc, .slice none 0 0] 32) := KO.out.on B5.out (by omega)
        have R5 : Hid (Blk w5 (w.heap.size + 1) #[.int .i64 0, .int .i64 0, .slice none 0 0, .slice none 0 0, .slice none 0 0] 32) := KR.out.on B5.out (by omega)
        have O5 : Hid (Owns w5 (w.heap.size + 1 + 1 + 1) 69 3 (.slice nA nm nc) (nodR (keptN l (ns.take (k + 1))))) := by unfold Hid; rw [HE2.out]; exact hO5
        have hcO := KO.out.cell 2 _ rfl
        have S0 : Hid (wr.drew.cell? ⟨w.heap.size + 1 + 1, 2, none⟩ = some (.slice sA sm sc) ∧ wr.drew.cell? ⟨gi, off + k * 3, none⟩ = some (.int .i64 xi) ∧ wr.drew.cell? ⟨gi, off + k * 3 + 1, none⟩ = some (.string xd) ∧ wr.drew.cell? ⟨gi, off + k * 3 + 2, none⟩ = some (.int .i64 xs)) := ⟨hcO, hc0, hc1, hc2⟩
        have S1 : Hid ((wr.drew.alloc (.cells #[.int .i64 xi, .string xd, .int .i64 xs] 69)).cell? ⟨w.heap.size + 1 + 1, 2, none⟩ = some (.slice sA sm sc) ∧ (wr.drew.alloc (.cells #[.int .i64 xi, .string xd, .int .i64 xs] 69)).cell? ⟨gi, off + k * 3, none⟩ = some (.int .i64 xi) ∧ (wr.drew.alloc (.cells #[.int .i64 xi, .string xd, .int .i64 xs] 69)).cell? ⟨gi, off + k * 3 + 1, none⟩ = some (.string xd) ∧ (wr.drew.alloc (.cells #[.int .i64 xi, .string xd, .int .i64 xs] 69)).cell? ⟨gi, off + k * 3 + 2, none⟩ = some (.int .i64 xs)) := by
          have hBA : Below wr.heap.size wr (wr.drew.alloc (.cells #[.int .i64 xi, .string xd, .int .i64 xs] 69)) := ((Below.refl _ wr).drew).alloc (Nat.le_refl _) _
          have hgr : gi < wr.heap.size := Nat.lt_of_lt_of_le hgw BR.out.size
          exact ⟨(hBA.cell (p := ⟨_, _, none⟩) KO.out.lt).trans hcO, (hBA.cell (p := ⟨_, _, none⟩) hgr).trans hc0, (hBA.cell (p := ⟨_, _, none⟩) hgr).trans hc1, (hBA.cell (p := ⟨_, _, none⟩) hgr).trans hc2⟩
        have y2 := K5.out.cell 2 _ rfl
        have z2 := K5.out.free 2
        have FK : Hid (Blk (w5.setCell ⟨w.heap.size + 1 + 1, 2, none⟩ (.slice nA nm nc)) (w.heap.size + 1 + 1) #[.int .i64 room, .int .i64 next, .slice nA nm nc, .slice lA l.length lc, .slice none 0 0] 32) := K5.out.set 2 _
        have FR : Hid (Blk (w5.setCell ⟨w.heap.size + 1 + 1, 2, none⟩ (.slice nA nm nc)) (w.heap.size + 1) #[.int .i64 0, .int .i64 0, .slice none 0 0, .slice none 0 0, .slice none 0 0] 32) := R5.out.other (by omega) _ _
        have FO : Hid (Owns (w5.setCell ⟨w.heap.size + 1 + 1, 2, none⟩ (.slice nA nm nc)) (w.heap.size + 1 + 1 + 1) 69 3 (.slice nA nm nc) (nodR (keptN l (ns.take (k + 1))))) := O5.out.other (O5.out.below (by omega)) _ _
        have FB : Hid (Below w.heap.size w (w5.setCell ⟨w.heap.size + 1 + 1, 2, none⟩ (.slice nA nm nc))) := (BR.out.trans (B5.out.mono (by omega))).setCell (p := ⟨w.heap.size + 1 + 1, 2, none⟩) (by show w.heap.size ≤ w.heap.size + 1 + 1; omega) _
        clear hO5 hb5 hk5 hcO
        go_wp2_with fail
        refine cL.mono ?_
        rintro e w1 ⟨rfl, rfl⟩
        go_wp2_with fail
        refine wp_region_until (fun w' => w'.cell? ⟨w.heap.size + 1 + 1, 2, none⟩ = some (.slice sA sm sc) ∧ w'.cell? ⟨gi, off + k * 3, none⟩ = some (.int .i64 xi) ∧ w'.cell? ⟨gi, off + k * 3 + 1, none⟩ = some (.string xd) ∧ w'.cell? ⟨gi, off + k * 3 + 2, none⟩ = some (.int .i64 xs)) (fun i => i == 7 || i == 9) 10 (by rfl) (by kernel_rfl) ?_
        refine until_take 0 (v := ?va0) (by rfl) (by kernel_rfl) (by exact fun _ _ _ h => h) (by rfl) ?hya0 S0.out ?ra0
        case hya0 =>
          intro w hSw
          try dsimp only at hSw
          go_simp
          try with_reducible rfl
        try simp only [Act.put, List.setIfInBounds_toArray, List.set_cons_zero, List.set_cons_succ]
        refine until_take 1 (v := ?va1) (by rfl) (by kernel_rfl) (by exact fun _ _ _ h => h) (by rfl) ?hya1 S0.out ?ra1
        case hya1 =>
          intro w hSw
          try dsimp only at hSw
          go_simp
          try with_reducible rfl
        try simp only [Act.put, List.setIfInBounds_toArray, List.set_cons_zero, List.set_cons_succ]
        refine until_take 2 (v := ?va2) (by rfl) (by kernel_rfl) (by exact fun _ _ _ h => h) (by rfl) ?hya2 S0.out ?ra2
        case hya2 =>
          intro w hSw
          try dsimp only at hSw
          go_simp
          try with_reducible rfl
        try simp only [Act.put, List.setIfInBounds_toArray, List.set_cons_zero, List.set_cons_succ]
        refine until_take 3 (v := ?va3) (by rfl) (by kernel_rfl) (by exact fun _ _ _ h => h) (by rfl) ?hya3 S0.out ?ra3
        case hya3 =>
          intro w hSw
          try dsimp only at hSw
          go_simp
          try with_reducible rfl
        try simp only [Act.put, List.setIfInBounds_toArray, List.set_cons_zero, List.set_cons_succ]
        refine until_take 4 (v := ?va4) (by rfl) (by kernel_rfl) (by exact fun _ _ _ h => h) (by rfl) ?hya4 S0.out ?ra4
        case hya4 =>
          intro w hSw
          try dsimp only at hSw
          go_simp
          try with_reducible rfl
        try simp only [Act.put, List.setIfInBounds_toArray, List.set_cons_zero, List.set_cons_succ]
        refine until_take 5 (v := ?va5) (by rfl) (by kernel_rfl) (by exact fun _ _ _ h => h) (by rfl) ?hya5 S0.out ?ra5
        case hya5 =>
          intro w hSw
          try dsimp only at hSw
          go_simp
          try with_reducible rfl
        try simp only [Act.put, List.setIfInBounds_toArray, List.set_cons_zero, List.set_cons_succ]
        refine until_one 6 (by rfl) (by kernel_rfl) (fun K hK => ?_)
        go_simp
        refine hK.out _ _ (fun _ _ => S1.out) ?_
        clear hK K
        try simp only [Act.put, List.setIfInBounds_toArray, List.set_cons_zero, List.set_cons_succ]
        refine until_one 7 (by rfl) (by kernel_rfl) (fun K hK => ?_)
        refine step_append_run (by rfl) (.tmp 29) (.tmp 34) 28 (by rfl) _ _ _ _ (by rfl) (by rfl) r5 ?_
        refine hK.out _ _ (fun h => by cases h) ?_
        clear hK K
        try simp only [Act.put, List.setIfInBounds_toArray, List.set_cons_zero, List.set_cons_succ]
        refine until_pure 8 (v := ?vb8) (by rfl) (by kernel_rfl) (by exact fun _ _ _ h => h) (by rfl) ?hyb8 ?rb8
        case hyb8 =>
          intro w
          go_simp
          try with_reducible rfl
        try simp only [Act.put, List.setIfInBounds_toArray, List.set_cons_zero, List.set_cons_succ]
        refine until_one 9 (by rfl) (by kernel_rfl) (fun K hK => ?_)
        go_simp
        refine hK.out _ _ (fun h => by cases h) ?_
        clear hK K
        refine until_done (by kernel_rfl) ?_ _
        go_wp2_with fail
        go_roundw
        case rel => exact ⟨k + 1, _, by omega, by go_num, FK.out, FR.out, FO.out, FB.out⟩
        case measure => simp [intOf]; omega
    · obtain rfl : k = n := by omega
      have HFI : Hid (keptN l (ns.take k) = keptN l ns) := by unfold Hid; rw [← HN.out, List.take_length]
      have r0 := KO.out.cell 0 _ rfl
      have r1 := KO.out.cell 1 _ rfl
      have r2 := KO.out.cell 2 _ rfl
      have r3 := KO.out.cell 3 _ rfl
      have r4 := KO.out.cell 4 _ rfl
      have hg : w.heap.size ≤ w.heap.size + 1 := by omega
      have g0 := KR.out.cell 0 _ rfl
      have f0 := KR.out.free 0
      have g1 := KR.out.cell 1 _ rfl
      have f1 := KR.out.free 1
      have g2 := KR.out.cell 2 _ rfl
      have f2 := KR.out.free 2
      have g3 := KR.out.cell 3 _ rfl
      have f3 := KR.out.free 3
      have g4 := KR.out.cell 4 _ rfl
      have f4 := KR.out.free 4
      go_wp2_with fail
      have hB := BR.out
      clear r0 r1 r2 r3 r4
      have FB := (((((hB.setCell hg (.int .i64 room) (p := ⟨_, 0, none⟩)).setCell hg (.int .i64 next) (p := ⟨_, 1, none⟩)).setCell hg (.slice sA sm sc) (p := ⟨_, 2, none⟩)).setCell hg (.slice lA l.length lc) (p := ⟨_, 3, none⟩)).setCell hg (.slice none 0 0) (p := ⟨_, 4, none⟩))
      have hF := (((((KR.out.set 0 (.int .i64 room)).set 1 (.int .i64 next)).set 2 (.slice sA sm sc)).set 3 (.slice lA l.length lc)).set 4 (.slice none 0 0))
      have mm0 := OW.out.notBlk KR.out (by decide)
      have F0 := (((((OW.out.other mm0 0 (.int .i64 room)).other mm0 1 (.int .i64 next)).other mm0 2 (.slice sA sm sc)).other mm0 3 (.slice lA l.length lc)).other mm0 4 (.slice none 0 0))
      clear g0 f0 g1 f1 g2 f2 g3 f3 g4 f4
      generalize (((((wr.setCell ⟨w.heap.size + 1, 0, none⟩ (.int .i64 room)).setCell ⟨w.heap.size + 1, 1, none⟩ (.int .i64 next)).setCell ⟨w.heap.size + 1, 2, none⟩ (.slice sA sm sc)).setCell ⟨w.heap.size + 1, 3, none⟩ (.slice lA l.length lc)).setCell ⟨w.heap.size + 1, 4, none⟩ (.slice none 0 0)) = WF at *
      have hG : Blk WF (w.heap.size + 1) #[.int .i64 room, .int .i64 next, .slice sA sm sc, .slice lA l.length lc, .slice none 0 0] 32 := hF
      have l0 := hG.cell 0 (.int .i64 room) rfl
      have l1 := hG.cell 1 (.int .i64 next) rfl
      have l2 := hG.cell 2 (.slice sA sm sc) rfl
      have l3 := hG.cell 3 (.slice lA l.length lc) rfl
      have l4 := hG.cell 4 (.slice none 0 0) rfl
      exact bodyPost_ret (v := .agg #[.int .i64 room, .int .i64 next, .slice sA sm sc, .slice lA l.length lc, .slice none 0 0]) (by simp [results, go_sem, l0, l1, l2, l3, l4]) rfl ⟨_, rfl, by rw [← HFI.out]; exact F0.mono (by omega), FB⟩
end Go.Proofs.YtgogcdfceggeaaaGreat
