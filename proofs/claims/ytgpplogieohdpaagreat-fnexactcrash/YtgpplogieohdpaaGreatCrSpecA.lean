/-
  The contract of spec.l4Settled.
-/
import Derived.Test.YtgpplogieohdpaaGreatRows
import Derived.Test.YtgpplogieohdpaaGreatImSetA
import Derived.Test.YtgpplogieohdpaaGreatImTakeM
import Derived.Test.YtgpplogieohdpaaGreatImToldO
import Derived.Test.YtgpplogieohdpaaGreatDkRead
import Derived.Test.YtgpplogieohdpaaGreatDkOkD
import Derived.Test.YtgpplogieohdpaaGreatCrMixA
namespace Go.Proofs.YtgpplogieohdpaaGreat
open Go.ChangeShapes Go.WideShapes Go.ChangeAt Go.RowKit Go.PlainAid
set_option linter.unusedVariables false

theorem keptN_snoc (l : List Lnk) (ns : List Nod) (k : Nat) (hk : k < ns.length) : keptN l (ns.take (k + 1)) = if linked l (ns.getD k default).id = true then keptN l (ns.take k) ++ [ns.getD k default] else keptN l (ns.take k) := by
  unfold keptN
  rw [take_getD ns k hk, List.filter_append, List.filter_cons, List.filter_nil]
  split
  · rfl
  · rw [List.append_nil]

set_option maxRecDepth 20000 in
set_option maxHeartbeats 4000000 in
theorem settledV (room next : Int) (v1 v2 v3 lv iv : Value) (l : List Lnk) (ns : List Nod) (w : World) (B : Nat) (hlv : Lies w B 2 lv (lnkR l)) (hiv : Lies w B 3 iv (nodR ns)) (hl : l.length ≤ 1048576) (hns : ns.length ≤ 1000) (hB : B ≤ w.heap.size) :
    Calls Tryz.prog 18 #[.agg #[.int .i64 room, .int .i64 next, v1, v2, v3], lv, iv] w fun e w' => ∃ u, e = .returned (.agg #[.int .i64 room, .int .i64 next, u, lv, .slice none 0 0]) ∧ Owns w' w.heap.size 47 3 u (nodR (keptN l ns)) ∧ Below w.heap.size w w' := by
  have HLV : Hid (Lies w B 2 lv (lnkR l)) := hlv
  have HB : Hid (B ≤ w.heap.size) := hB
  have HL : Hid (l.length ≤ 1048576) := hl
  obtain ⟨iA, ic, rfl, hlk⟩ := nod_look hiv
  obtain ⟨lA, lc, rfl, _⟩ := lnk_look hlv
  have HI : Hid (∀ j, j < ns.length → ∃ g off, iA = some ⟨g, off, none⟩ ∧ g < B ∧ _) := hlk
  have q1 : (ns.length : Int) ≤ 1000 := by omega
  have HNS : Hid (ns.length ≤ 1000) := hns
  clear hlk hlv hiv hl hns hB
  generalize hN : ns.length = n at *
  have HN : Hid (ns.length = n) := hN
  clear hN
  go_enter Tryz.func18, Tryz.ntmps18
  go_wp2_with fail
  have b0 : Below w.heap.size w (((w.alloc (.cells #[.int .i64 room, .int .i64 next, v1, v2, v3] 33)).alloc (.cells #[.int .i64 0, .int .i64 0, .slice none 0 0, .slice none 0 0, .slice none 0 0] 33)).alloc (.cells #[.int .i64 room, .int .i64 next, .slice none 0 0, .slice lA l.length lc, .slice none 0 0] 33)) := (((Below.refl _ w).alloc (Nat.le_refl _) _).alloc (by simp) _).alloc (by simp; omega) _
  have kO := Blk.new ((w.alloc (.cells #[.int .i64 room, .int .i64 next, v1, v2, v3] 33)).alloc (.cells #[.int .i64 0, .int .i64 0, .slice none 0 0, .slice none 0 0, .slice none 0 0] 33)) #[.int .i64 room, .int .i64 next, .slice none 0 0, .slice lA l.length lc, .slice none 0 0] 33
  have kR := (Blk.new (w.alloc (.cells #[.int .i64 room, .int .i64 next, v1, v2, v3] 33)) #[.int .i64 0, .int .i64 0, .slice none 0 0, .slice none 0 0, .slice none 0 0] 33).alloc (.cells #[.int .i64 room, .int .i64 next, .slice none 0 0, .slice lA l.length lc, .slice none 0 0] 33)
  simp only [World.size_alloc] at kO kR
  have ST : Hid (Blk (((w.alloc (.cells #[.int .i64 room, .int .i64 next, v1, v2, v3] 33)).alloc (.cells #[.int .i64 0, .int .i64 0, .slice none 0 0, .slice none 0 0, .slice none 0 0] 33)).alloc (.cells #[.int .i64 room, .int .i64 next, .slice none 0 0, .slice lA l.length lc, .slice none 0 0] 33)) (w.heap.size + 1 + 1) #[.int .i64 room, .int .i64 next, .slice none 0 0, .slice lA l.length lc, .slice none 0 0] 33 ∧ Blk (((w.alloc (.cells #[.int .i64 room, .int .i64 next, v1, v2, v3] 33)).alloc (.cells #[.int .i64 0, .int .i64 0, .slice none 0 0, .slice none 0 0, .slice none 0 0] 33)).alloc (.cells #[.int .i64 room, .int .i64 next, .slice none 0 0, .slice lA l.length lc, .slice none 0 0] 33)) (w.heap.size + 1) #[.int .i64 0, .int .i64 0, .slice none 0 0, .slice none 0 0, .slice none 0 0] 33 ∧ Below w.heap.size w (((w.alloc (.cells #[.int .i64 room, .int .i64 next, v1, v2, v3] 33)).alloc (.cells #[.int .i64 0, .int .i64 0, .slice none 0 0, .slice none 0 0, .slice none 0 0] 33)).alloc (.cells #[.int .i64 room, .int .i64 next, .slice none 0 0, .slice lA l.length lc, .slice none 0 0] 33))) := ⟨kO, kR, b0⟩
  clear b0 kO kR
  generalize ((w.alloc (.cells #[.int .i64 room, .int .i64 next, v1, v2, v3] 33)).alloc (.cells #[.int .i64 0, .int .i64 0, .slice none 0 0, .slice none 0 0, .slice none 0 0] 33)).alloc (.cells #[.int .i64 room, .int .i64 next, .slice none 0 0, .slice lA l.length lc, .slice none 0 0] 33) = W at *
  go_loopw [8] (fun v8 wr => ∃ (k : Nat) (s : Value), k ≤ n ∧ v8 = .int .i64 (k : Int) ∧ Blk wr (w.heap.size + 1 + 1) #[.int .i64 room, .int .i64 next, s, .slice lA l.length lc, .slice none 0 0] 33 ∧ Blk wr (w.heap.size + 1) #[.int .i64 0, .int .i64 0, .slice none 0 0, .slice none 0 0, .slice none 0 0] 33 ∧ Owns wr (w.heap.size + 1 + 1 + 1) 47 3 s (nodR (keptN l (ns.take k))) ∧ Below w.heap.size w wr) (fun i _ => n - (intOf i).toNat)
  case atStart => exact ⟨0, _, by omega, rfl, ST.out.1, ST.out.2.1, Owns.nil _ _ _ _, ST.out.2.2⟩
  case round =>
    obtain ⟨k, s, hk, rfl, hO, hRk, hOw, hb⟩ := hrel
    have BR : Hid (Below w.heap.size w wr) := hb
    have KO : Hid (Blk wr (w.heap.size + 1 + 1) #[.int .i64 room, .int .i64 next, s, .slice lA l.length lc, .slice none 0 0] 33) := hO
    have KR : Hid (Blk wr (w.heap.size + 1) #[.int .i64 0, .int .i64 0, .slice none 0 0, .slice none 0 0, .slice none 0 0] 33) := hRk
    have OW : Hid (Owns wr (w.heap.size + 1 + 1 + 1) 47 3 s (nodR (keptN l (ns.take k)))) := hOw
    obtain ⟨sA, sm, sc, rfl⟩ := hOw.shape
    clear hO hRk hOw hb
    by_cases hlt : k < n
    · have q2 : (k : Int) < (n : Int) := by omega
      have q3 : (3 * (k : Int)) ≤ 3000 := by omega
      obtain ⟨gi, off, rfl, hgB, hc0, hc1, hc2⟩ := HI.out k hlt
      have hgw : gi < w.heap.size := Nat.lt_of_lt_of_le hgB HB.out
      rw [← BR.out.cell (p := ⟨_, _, none⟩) hgw] at hc0 hc1 hc2
      have cL := fun id => linkedV l (.slice lA l.length lc) id wr w.heap.size ((HLV.out.on (BR.out.mono HB.out)).mono HB.out) HL.out
      have HKS := keptN_snoc l ns k (by rw [HN.out]; exact hlt)
      generalize hxx : ns.getD k default = xx at *
      obtain ⟨xi, xd, xs⟩ := xx
      simp only at hc0 hc1 hc2 HKS
      have HLE : Hid ((nodR (keptN l (ns.take k))).length ≤ 2097152) := by
        unfold Hid
        rw [nodR_length]
        have h1 : (keptN l (ns.take k)).length ≤ (ns.take k).length := List.length_filter_le _ _
        rw [List.length_take] at h1
        have := HNS.out
        omega
      cases hlk : linked l xi with
      | false =>
        have cL := cL xi
        rw [hlk] at cL HKS
        have HKS2 : Hid (keptN l (ns.take (k + 1)) = keptN l (ns.take k)) := by unfold Hid; rw [HKS]; simp
        clear HKS hlk
        go_wp2_with fail
        refine cL.mono ?_
        rintro e w1 ⟨rfl, rfl⟩
        go_wp2_with fail
        go_roundw
        case rel => exact ⟨k + 1, _, by omega, by go_num, KO.out, KR.out, by rw [HKS2.out]; exact OW.out, BR.out⟩
        case measure => simp [intOf]; omega
      | true =>
        have cL := cL xi
        rw [hlk] at cL HKS
        have e2 : nodR (keptN l (ns.take (k + 1))) = nodR (keptN l (ns.take k)) ++ [[.int .i64 xi, .string xd, .int .i64 xs]] := by rw [HKS, if_pos rfl]; unfold nodR; rw [List.map_append]; rfl
        have HE2 : Hid (nodR (keptN l (ns.take (k + 1))) = nodR (keptN l (ns.take k)) ++ [[.int .i64 xi, .string xd, .int .i64 xs]]) := e2
        clear HKS hlk e2
        have hz1 : w.heap.size + 1 + 1 + 1 ≤ wr.heap.size := KO.out.lt
        obtain ⟨nA, nm, nc, w5, r5, hO5, hb5, hk5, _⟩ := run_append_row (P := Tryz.prog) wr.drew 29 29 47 (.agg #[.int .i64 0, .string ⟨#[]⟩, .int .i64 0]) 3 32 Tryz.underlying29 Tryz.infoNod rfl (by omega) (w.heap.size + 1 + 1 + 1) (.slice sA sm sc) (nodR (keptN l (ns.take k))) (OW.out.kept fun _ _ _ => rfl) [.int .i64 xi, .string xd, .int .i64 xs] rfl (by intro y hy; simp at hy; rcases hy with rfl | rfl | rfl <;> rfl) HLE.out (by omega) hz1
        have B5 : Hid (Below (w.heap.size + 1 + 1 + 1) wr w5) := (Below.refl _ wr).drew.trans hb5
        have K5 : Hid (Blk w5 (w.heap.size + 1 + 1) #[.int .i64 room, .int .i64 next, .slice sA sm sc, .slice lA l.length lc, .slice none 0 0] 33) := KO.out.on B5.out (by omega)
        have R5 : Hid (Blk w5 (w.heap.size + 1) #[.int .i64 0, .int .i64 0, .slice none 0 0, .slice none 0 0, .slice none 0 0] 33) := KR.out.on B5.out (by omega)
        have O5 : Hid (Owns w5 (w.heap.size + 1 + 1 + 1) 47 3 (.slice nA nm nc) (nodR (keptN l (ns.take (k + 1))))) := by unfold Hid; rw [HE2.out]; exact hO5
        have hcO := KO.out.cell 2 _ rfl
        have S0 : Hid (wr.drew.cell? ⟨w.heap.size + 1 + 1, 2, none⟩ = some (.slice sA sm sc) ∧ wr.drew.cell? ⟨gi, off + k * 3, none⟩ = some (.int .i64 xi) ∧ wr.drew.cell? ⟨gi, off + k * 3 + 1, none⟩ = some (.string xd) ∧ wr.drew.cell? ⟨gi, off + k * 3 + 2, none⟩ = some (.int .i64 xs)) := ⟨hcO, hc0, hc1, hc2⟩
        have S1 : Hid ((wr.drew.alloc (.cells #[.int .i64 xi, .string xd, .int .i64 xs] 47)).cell? ⟨w.heap.size + 1 + 1, 2, none⟩ = some (.slice sA sm sc) ∧ (wr.drew.alloc (.cells #[.int .i64 xi, .string xd, .int .i64 xs] 47)).cell? ⟨gi, off + k * 3, none⟩ = some (.int .i64 xi) ∧ (wr.drew.alloc (.cells #[.int .i64 xi, .string xd, .int .i64 xs] 47)).cell? ⟨gi, off + k * 3 + 1, none⟩ = some (.string xd) ∧ (wr.drew.alloc (.cells #[.int .i64 xi, .string xd, .int .i64 xs] 47)).cell? ⟨gi, off + k * 3 + 2, none⟩ = some (.int .i64 xs)) := by
          have hBA : Below wr.heap.size wr (wr.drew.alloc (.cells #[.int .i64 xi, .string xd, .int .i64 xs] 47)) := ((Below.refl _ wr).drew).alloc (Nat.le_refl _) _
          have hgr : gi < wr.heap.size := Nat.lt_of_lt_of_le hgw BR.out.size
          exact ⟨(hBA.cell (p := ⟨_, _, none⟩) KO.out.lt).trans hcO, (hBA.cell (p := ⟨_, _, none⟩) hgr).trans hc0, (hBA.cell (p := ⟨_, _, none⟩) hgr).trans hc1, (hBA.cell (p := ⟨_, _, none⟩) hgr).trans hc2⟩
        have y2 := K5.out.cell 2 _ rfl
        have z2 := K5.out.free 2
        have FK : Hid (Blk (w5.setCell ⟨w.heap.size + 1 + 1, 2, none⟩ (.slice nA nm nc)) (w.heap.size + 1 + 1) #[.int .i64 room, .int .i64 next, .slice nA nm nc, .slice lA l.length lc, .slice none 0 0] 33) := K5.out.set 2 _
        have FR : Hid (Blk (w5.setCell ⟨w.heap.size + 1 + 1, 2, none⟩ (.slice nA nm nc)) (w.heap.size + 1) #[.int .i64 0, .int .i64 0, .slice none 0 0, .slice none 0 0, .slice none 0 0] 33) := R5.out.other (by omega) _ _
        have FO : Hid (Owns (w5.setCell ⟨w.heap.size + 1 + 1, 2, none⟩ (.slice nA nm nc)) (w.heap.size + 1 + 1 + 1) 47 3 (.slice nA nm nc) (nodR (keptN l (ns.take (k + 1))))) := O5.out.other (O5.out.below (by omega)) _ _
        have FB : Hid (Below w.heap.size w (w5.setCell ⟨w.heap.size + 1 + 1, 2, none⟩ (.slice nA nm nc))) := (BR.out.trans (B5.out.mono (by omega))).setCell (p := ⟨w.heap.size + 1 + 1, 2, none⟩) (by show w.heap.size ≤ w.heap.size + 1 + 1; omega) _
        clear hO5 hb5 hk5 hcO
        go_wp2_with fail
        refine cL.mono ?_
        rintro e w1 ⟨rfl, rfl⟩
        go_wp2_with fail
        refine wp_region_until (fun w' => w'.cell? ⟨w.heap.size + 1 + 1, 2, none⟩ = some (.slice sA sm sc) ∧ w'.cell? ⟨gi, off + k * 3, none⟩ = some (.int .i64 xi) ∧ w'.cell? ⟨gi, off + k * 3 + 1, none⟩ = some (.string xd) ∧ w'.cell? ⟨gi, off + k * 3 + 2, none⟩ = some (.int .i64 xs)) (fun i => i == 7 || i == 9) 10 (by rfl) (by kernel_rfl) ?_
        refine until_take 0 (v := ?va0) (by rfl) (by kernel_rfl) (by exact fun _ _ _ h => h) (by rfl) ?hya0 S0.out ?ra0
        case hya0 =>
          intro w hSw
          try dsimp only at hSw
          go_simp
          try with_reducible rfl
        try simp only [Act.put, List.setIfInBounds_toArray, List.set_cons_zero, List.set_cons_succ]
        refine until_take 1 (v := ?va1) (by rfl) (by kernel_rfl) (by exact fun _ _ _ h => h) (by rfl) ?hya1 S0.out ?ra1
        case hya1 =>
          intro w hSw
          try dsimp only at hSw
          go_simp
          try with_reducible rfl
        try simp only [Act.put, List.setIfInBounds_toArray, List.set_cons_zero, List.set_cons_succ]
        refine until_take 2 (v := ?va2) (by rfl) (by kernel_rfl) (by exact fun _ _ _ h => h) (by rfl) ?hya2 S0.out ?ra2
        case hya2 =>
          intro w hSw
          try dsimp only at hSw
          go_simp
          try with_reducible rfl
        try simp only [Act.put, List.setIfInBounds_toArray, List.set_cons_zero, List.set_cons_succ]
        refine until_take 3 (v := ?va3) (by rfl) (by kernel_rfl) (by exact fun _ _ _ h => h) (by rfl) ?hya3 S0.out ?ra3
        case hya3 =>
          intro w hSw
          try dsimp only at hSw
          go_simp
          try with_reducible rfl
        try simp only [Act.put, List.setIfInBounds_toArray, List.set_cons_zero, List.set_cons_succ]
        refine until_take 4 (v := ?va4) (by rfl) (by kernel_rfl) (by exact fun _ _ _ h => h) (by rfl) ?hya4 S0.out ?ra4
        case hya4 =>
          intro w hSw
          try dsimp only at hSw
          go_simp
          try with_reducible rfl
        try simp only [Act.put, List.setIfInBounds_toArray, List.set_cons_zero, List.set_cons_succ]
        refine until_take 5 (v := ?va5) (by rfl) (by kernel_rfl) (by exact fun _ _ _ h => h) (by rfl) ?hya5 S0.out ?ra5
        case hya5 =>
          intro w hSw
          try dsimp only at hSw
          go_simp
          try with_reducible rfl
        try simp only [Act.put, List.setIfInBounds_toArray, List.set_cons_zero, List.set_cons_succ]
        refine until_one 6 (by rfl) (by kernel_rfl) (fun K hK => ?_)
        go_simp
        refine hK.out _ _ (fun _ _ => S1.out) ?_
        clear hK K
        try simp only [Act.put, List.setIfInBounds_toArray, List.set_cons_zero, List.set_cons_succ]
        refine until_one 7 (by rfl) (by kernel_rfl) (fun K hK => ?_)
        refine step_append_run (by rfl) (.tmp 29) (.tmp 34) 29 (by rfl) _ _ _ _ (by rfl) (by rfl) r5 ?_
        refine hK.out _ _ (fun h => by cases h) ?_
        clear hK K
        try simp only [Act.put, List.setIfInBounds_toArray, List.set_cons_zero, List.set_cons_succ]
        refine until_pure 8 (v := ?vb8) (by rfl) (by kernel_rfl) (by exact fun _ _ _ h => h) (by rfl) ?hyb8 ?rb8
        case hyb8 =>
          intro w
          go_simp
          try with_reducible rfl
        try simp only [Act.put, List.setIfInBounds_toArray, List.set_cons_zero, List.set_cons_succ]
        refine until_one 9 (by rfl) (by kernel_rfl) (fun K hK => ?_)
        go_simp
        refine hK.out _ _ (fun h => by cases h) ?_
        clear hK K
        refine until_done (by kernel_rfl) ?_ _
        go_wp2_with fail
        go_roundw
        case rel => exact ⟨k + 1, _, by omega, by go_num, FK.out, FR.out, FO.out, FB.out⟩
        case measure => simp [intOf]; omega
    · obtain rfl : k = n := by omega
      have HFI : Hid (keptN l (ns.take k) = keptN l ns) := by unfold Hid; rw [← HN.out, List.take_length]
      have r0 := KO.out.cell 0 _ rfl
      have r1 := KO.out.cell 1 _ rfl
      have r2 := KO.out.cell 2 _ rfl
      have r3 := KO.out.cell 3 _ rfl
      have r4 := KO.out.cell 4 _ rfl
      have hg : w.heap.size ≤ w.heap.size + 1 := by omega
      have g0 := KR.out.cell 0 _ rfl
      have f0 := KR.out.free 0
      have g1 := KR.out.cell 1 _ rfl
      have f1 := KR.out.free 1
      have g2 := KR.out.cell 2 _ rfl
      have f2 := KR.out.free 2
      have g3 := KR.out.cell 3 _ rfl
      have f3 := KR.out.free 3
      have g4 := KR.out.cell 4 _ rfl
      have f4 := KR.out.free 4
      go_wp2_with fail
      have hB := BR.out
      clear r0 r1 r2 r3 r4
      have FB := (((((hB.setCell hg (.int .i64 room) (p := ⟨_, 0, none⟩)).setCell hg (.int .i64 next) (p := ⟨_, 1, none⟩)).setCell hg (.slice sA sm sc) (p := ⟨_, 2, none⟩)).setCell hg (.slice lA l.length lc) (p := ⟨_, 3, none⟩)).setCell hg (.slice none 0 0) (p := ⟨_, 4, none⟩))
      have hF := (((((KR.out.set 0 (.int .i64 room)).set 1 (.int .i64 next)).set 2 (.slice sA sm sc)).set 3 (.slice lA l.length lc)).set 4 (.slice none 0 0))
      have mm0 := OW.out.notBlk KR.out (by decide)
      have F0 := (((((OW.out.other mm0 0 (.int .i64 room)).other mm0 1 (.int .i64 next)).other mm0 2 (.slice sA sm sc)).other mm0 3 (.slice lA l.length lc)).other mm0 4 (.slice none 0 0))
      clear g0 f0 g1 f1 g2 f2 g3 f3 g4 f4
      generalize (((((wr.setCell ⟨w.heap.size + 1, 0, none⟩ (.int .i64 room)).setCell ⟨w.heap.size + 1, 1, none⟩ (.int .i64 next)).setCell ⟨w.heap.size + 1, 2, none⟩ (.slice sA sm sc)).setCell ⟨w.heap.size + 1, 3, none⟩ (.slice lA l.length lc)).setCell ⟨w.heap.size + 1, 4, none⟩ (.slice none 0 0)) = WF at *
      have hG : Blk WF (w.heap.size + 1) #[.int .i64 room, .int .i64 next, .slice sA sm sc, .slice lA l.length lc, .slice none 0 0] 33 := hF
      have l0 := hG.cell 0 (.int .i64 room) rfl
      have l1 := hG.cell 1 (.int .i64 next) rfl
      have l2 := hG.cell 2 (.slice sA sm sc) rfl
      have l3 := hG.cell 3 (.slice lA l.length lc) rfl
      have l4 := hG.cell 4 (.slice none 0 0) rfl
      exact bodyPost_ret (v := .agg #[.int .i64 room, .int .i64 next, .slice sA sm sc, .slice lA l.length lc, .slice none 0 0]) (by simp [results, go_sem, l0, l1, l2, l3, l4]) rfl ⟨_, rfl, by rw [← HFI.out]; exact F0.mono (by omega), FB⟩
end Go.Proofs.YtgpplogieohdpaaGreat

/-
  The contract of spec.Crash.
-/
namespace Go.Proofs.YtgpplogieohdpaaGreat
open Go.ChangeShapes Go.WideShapes Go.ChangeAt Go.RowKit Go.PlainAid
set_option linter.unusedVariables false

theorem cutL_snoc (cuts : List Int) (ns : List Nod) (k : Nat) (hk : k < ns.length) : nodR ((cutL cuts ns).take (k + 1)) = nodR ((cutL cuts ns).take k) ++ [[.int .i64 (cutN (ns.getD k default) (cuts.getD k 0)).id, .string (cutN (ns.getD k default) (cuts.getD k 0)).data, .int .i64 (cutN (ns.getD k default) (cuts.getD k 0)).sure]] := by
  rw [nodR_snoc _ k (by rw [cutL_length]; exact hk), cutL_get _ _ _ hk]
  rfl
theorem cut_size (xd : ByteArray) (S : Int) (h0 : 0 ≤ S) (h1 : S ≤ xd.size) : ((xd.extract 0 S.toNat).size : Int) = S := by
  rw [ByteArray.size_extract]
  omega

set_option maxRecDepth 20000 in
set_option maxHeartbeats 4000000 in
theorem specCrashV (d : Dsk) (v : Value) (keep : Int) (cuts : List Int) (cv : Value) (w : World) (B : Nat) (hv : DiskV w B v d) (hcv : NumsV w B cv cuts) (hcl : cuts.length ≤ 1048576) (hf : Fits d) (hw : wtD d ≤ 1048576) (hB : B ≤ w.heap.size) :
    Calls Tryz.prog 5 #[v, .int .i64 keep, cv] w fun e w' => ∃ x, e = .returned x ∧ DiskO w' w.heap.size x (crashR d keep cuts) ∧ Below w.heap.size w w' := by
  have HV : Hid (DiskV w B v d) := hv
  have HB : Hid (B ≤ w.heap.size) := hB
  have HF : Hid (Fits d) := hf
  have HW : Hid (wtD d ≤ 1048576) := hw
  have hlk : ∃ a1 b1 v2 v3, v = .agg #[.int .i64 d.room, .int .i64 d.next, .slice a1 d.nods.length b1, v2, v3] ∧ ∀ j, j < d.nods.length → ∃ g off, a1 = some ⟨g, off, none⟩ ∧ g < B ∧ w.cell? ⟨g, off + j * 3, none⟩ = some (.int .i64 (d.nods.getD j default).id) ∧ w.cell? ⟨g, off + j * 3 + 1, none⟩ = some (.string (d.nods.getD j default).data) ∧ w.cell? ⟨g, off + j * 3 + 2, none⟩ = some (.int .i64 (d.nods.getD j default).sure) := by
    obtain ⟨v1, v2, v3, rfl, h1, h2, h3⟩ := hv
    obtain ⟨A1, c1, rfl, hx⟩ := nod_look h1
    exact ⟨A1, c1, v2, v3, rfl, hx⟩
  obtain ⟨a1, b1, v2, v3, rfl, hl1⟩ := hlk
  obtain ⟨cA, cc, rfl, hc1, hc2, hc3⟩ := hcv
  have HL1 : Hid (∀ j, j < d.nods.length → ∃ g off, a1 = some ⟨g, off, none⟩ ∧ g < B ∧ w.cell? ⟨g, off + j * 3, none⟩ = some (.int .i64 (d.nods.getD j default).id) ∧ w.cell? ⟨g, off + j * 3 + 1, none⟩ = some (.string (d.nods.getD j default).data) ∧ w.cell? ⟨g, off + j * 3 + 2, none⟩ = some (.int .i64 (d.nods.getD j default).sure)) := hl1
  have HC3 : Hid (∀ j, j < cuts.length → ∃ g off, cA = some ⟨g, off, none⟩ ∧ g < B ∧ w.cell? ⟨g, off + j, none⟩ = some (.int .i64 (cuts.getD j 0))) := hc3
  have qc : (cuts.length : Int) ≤ 1048576 := by omega
  clear hf hB hw hv hl1 hc1 hc2 hc3 hcl
  go_enter Tryz.func5, Tryz.ntmps5
  go_wp2_with fail
  have hb0 := below_alloc2' w (.cells #[.int .i64 d.room, .int .i64 d.next, .slice a1 d.nods.length b1, v2, v3] 33) (.cells #[.int .i64 0, .int .i64 0, .slice none 0 0, .slice none 0 0, .slice none 0 0] 33)
  have bA := (Blk.new w #[.int .i64 d.room, .int .i64 d.next, .slice a1 d.nods.length b1, v2, v3] 33).alloc (.cells #[.int .i64 0, .int .i64 0, .slice none 0 0, .slice none 0 0, .slice none 0 0] 33)
  have bR := Blk.new (w.alloc (.cells #[.int .i64 d.room, .int .i64 d.next, .slice a1 d.nods.length b1, v2, v3] 33)) #[.int .i64 0, .int .i64 0, .slice none 0 0, .slice none 0 0, .slice none 0 0] 33
  have hsz : ((w.alloc (.cells #[.int .i64 d.room, .int .i64 d.next, .slice a1 d.nods.length b1, v2, v3] 33)).alloc (.cells #[.int .i64 0, .int .i64 0, .slice none 0 0, .slice none 0 0, .slice none 0 0] 33)).heap.size = w.heap.size + 1 + 1 := by simp
  simp only [World.size_alloc] at bR
  generalize (w.alloc (.cells #[.int .i64 d.room, .int .i64 d.next, .slice a1 d.nods.length b1, v2, v3] 33)).alloc (.cells #[.int .i64 0, .int .i64 0, .slice none 0 0, .slice none 0 0, .slice none 0 0] 33) = W at *
  have B0 : Hid (Below w.heap.size w W) := hb0
  have K0 : Hid (Blk W w.heap.size #[.int .i64 d.room, .int .i64 d.next, .slice a1 d.nods.length b1, v2, v3] 33) := bA
  have R0 : Hid (Blk W (w.heap.size + 1) #[.int .i64 0, .int .i64 0, .slice none 0 0, .slice none 0 0, .slice none 0 0] 33) := bR
  have SZ : Hid (W.heap.size = w.heap.size + 1 + 1) := hsz
  clear hb0 bA bR hsz
  refine (specOkV d _ W B (HV.out.on (B0.out.mono HB.out)) HF.out HW.out (Nat.le_trans HB.out B0.out.size)).mono ?_
  rintro e w1 ⟨rfl, hb1⟩
  have B1 : Hid (Below w.heap.size w w1) := B0.out.trans (hb1.mono B0.out.size)
  have K1 : Hid (Blk w1 w.heap.size #[.int .i64 d.room, .int .i64 d.next, .slice a1 d.nods.length b1, v2, v3] 33) := K0.out.on hb1 K0.out.lt
  have R1 : Hid (Blk w1 (w.heap.size + 1) #[.int .i64 0, .int .i64 0, .slice none 0 0, .slice none 0 0, .slice none 0 0] 33) := R0.out.on hb1 R0.out.lt
  have Z1 : Hid (w.heap.size + 1 + 1 ≤ w1.heap.size) := by unfold Hid; rw [← SZ.out]; exact hb1.size
  clear hb1 K0 R0
  cases hok : diskOk d with
  | false =>
    have HN : Hid (diskOk d = false) := hok
    clear hok
    have BZ : Hid (Below w.heap.size w w1) := B1.out
    have g0 := R1.out.cell 0 _ rfl
    have f0 := R1.out.free 0
    have g1 := R1.out.cell 1 _ rfl
    have f1 := R1.out.free 1
    have g2 := R1.out.cell 2 _ rfl
    have f2 := R1.out.free 2
    have g3 := R1.out.cell 3 _ rfl
    have f3 := R1.out.free 3
    have g4 := R1.out.cell 4 _ rfl
    have f4 := R1.out.free 4
    go_wp2_with fail
    have hg : w.heap.size ≤ w.heap.size + 1 := by omega
    have hB := BZ.out
    have FB := (((((hB.setCell hg (.int .i64 0) (p := ⟨_, 0, none⟩)).setCell hg (.int .i64 0) (p := ⟨_, 1, none⟩)).setCell hg (.slice none 0 0) (p := ⟨_, 2, none⟩)).setCell hg (.slice none 0 0) (p := ⟨_, 3, none⟩)).setCell hg (.slice none 0 0) (p := ⟨_, 4, none⟩))
    have hF := (((((R1.out.set 0 (.int .i64 0)).set 1 (.int .i64 0)).set 2 (.slice none 0 0)).set 3 (.slice none 0 0)).set 4 (.slice none 0 0))
    clear g0 f0 g1 f1 g2 f2 g3 f3 g4 f4
    generalize (((((w1.setCell ⟨w.heap.size + 1, 0, none⟩ (.int .i64 0)).setCell ⟨w.heap.size + 1, 1, none⟩ (.int .i64 0)).setCell ⟨w.heap.size + 1, 2, none⟩ (.slice none 0 0)).setCell ⟨w.heap.size + 1, 3, none⟩ (.slice none 0 0)).setCell ⟨w.heap.size + 1, 4, none⟩ (.slice none 0 0)) = WF at *
    have hG : Blk WF (w.heap.size + 1) #[.int .i64 0, .int .i64 0, .slice none 0 0, .slice none 0 0, .slice none 0 0] 33 := hF
    have l0 := hG.cell 0 (.int .i64 0) rfl
    have l1 := hG.cell 1 (.int .i64 0) rfl
    have l2 := hG.cell 2 (.slice none 0 0) rfl
    have l3 := hG.cell 3 (.slice none 0 0) rfl
    have l4 := hG.cell 4 (.slice none 0 0) rfl
    exact bodyPost_ret (v := .agg #[.int .i64 0, .int .i64 0, .slice none 0 0, .slice none 0 0, .slice none 0 0]) (by simp [results, go_sem, l0, l1, l2, l3, l4]) rfl (by rw [crashR_no HN.out]; exact ⟨_, rfl, ⟨_, _, _, rfl, Owns.nil _ _ _ _, Owns.nil _ _ _ _, Owns.nil _ _ _ _⟩, FB⟩)
  | true =>
    have HD : Hid (Whole d) := (whole_iff d).1 hok
    have hR := (sizeOk_iff d).1 ((whole_iff d).1 hok).size
    have HSZ : Hid (d.dir.length + d.movs.length ≤ 1048575 ∧ d.nods.length ≤ 10 ∧ (crashL d keep).length ≤ 1048576) := by
      have h2 := names_len d.dir (d.movs.take keep.toNat)
      rw [List.length_take] at h2
      have := hR.l; have := hR.m; have := hR.n
      unfold Hid crashL
      omega
    have HRR : Hid (crashR d keep cuts = crashD d keep cuts) := crashR_yes hok
    have q1 : (d.nods.length : Int) ≤ 10 := by have := hR.n; omega
    clear hR hok
    have HE := Owns.empty w1 (w.heap.size + 1 + 1) 47 3 Z1.out
    have hBE : Below w1.heap.size w1 (w1.alloc (.cells #[] 47)) := (Below.refl _ w1).alloc (Nat.le_refl _) _
    have KE : Hid (Blk (w1.alloc (.cells #[] 47)) w.heap.size #[.int .i64 d.room, .int .i64 d.next, .slice a1 d.nods.length b1, v2, v3] 33) := K1.out.on hBE K1.out.lt
    have RE : Hid (Blk (w1.alloc (.cells #[] 47)) (w.heap.size + 1) #[.int .i64 0, .int .i64 0, .slice none 0 0, .slice none 0 0, .slice none 0 0] 33) := R1.out.on hBE R1.out.lt
    have BE : Hid (Below w.heap.size w (w1.alloc (.cells #[] 47))) := B1.out.trans (hBE.mono B1.out.size)
    have OE : Hid (Owns (w1.alloc (.cells #[] 47)) (w.heap.size + 1 + 1) 47 3 (.slice (some ⟨w1.heap.size, 0, none⟩) 0 0) []) := HE
    clear HE hBE
    go_wp2_with fail
    go_loopw [7, 8] (fun v7 v8 wr => ∃ k : Nat, k ≤ d.nods.length ∧ v8 = .int .i64 (k : Int) ∧ Owns wr (w.heap.size + 1 + 1) 47 3 v7 (nodR ((cutL cuts d.nods).take k)) ∧ Blk wr w.heap.size #[.int .i64 d.room, .int .i64 d.next, .slice a1 d.nods.length b1, v2, v3] 33 ∧ Blk wr (w.heap.size + 1) #[.int .i64 0, .int .i64 0, .slice none 0 0, .slice none 0 0, .slice none 0 0] 33 ∧ Below w.heap.size w wr) (fun _ i _ => d.nods.length - (intOf i).toNat)
    case atStart => exact ⟨0, by omega, rfl, by rw [List.take_zero]; exact OE.out, KE.out, RE.out, BE.out⟩
    case round =>
      obtain ⟨k, hk, rfl, hO, hK, hRk, hb⟩ := hrel
      obtain ⟨sA, sm, sc, rfl⟩ := hO.shape
      have OK : Hid (Owns wr (w.heap.size + 1 + 1) 47 3 (.slice sA sm sc) (nodR ((cutL cuts d.nods).take k))) := hO
      have KK : Hid (Blk wr w.heap.size #[.int .i64 d.room, .int .i64 d.next, .slice a1 d.nods.length b1, v2, v3] 33) := hK
      have RK : Hid (Blk wr (w.heap.size + 1) #[.int .i64 0, .int .i64 0, .slice none 0 0, .slice none 0 0, .slice none 0 0] 33) := hRk
      have BK : Hid (Below w.heap.size w wr) := hb
      clear hO hK hRk hb KE RE BE OE
      by_cases hlt : k < d.nods.length
      · have q2 : (k : Int) < (d.nods.length : Int) := by omega
        have x2 := KK.out.cell 2 _ rfl
        have hB3 : Below B w wr := BK.out.mono HB.out
        obtain ⟨gi, off, rfl, hgB, hc0, hc1, hc2⟩ := HL1.out k hlt
        rw [← hB3.cell (p := ⟨_, _, none⟩) hgB] at hc0 hc1 hc2
        have hsu := nod_sure HD.out k hlt
        have hdm := HF.out.nx _ (getD_mem d.nods k hlt)
        have hwt := wt_data _ (getD_mem d.nods k hlt)
        have HSN : Hid (nodR ((cutL cuts d.nods).take (k + 1)) = nodR ((cutL cuts d.nods).take k) ++ [[.int .i64 (cutN (d.nods.getD k default) (cuts.getD k 0)).id, .string (cutN (d.nods.getD k default) (cuts.getD k 0)).data, .int .i64 (cutN (d.nods.getD k default) (cuts.getD k 0)).sure]]) := cutL_snoc cuts d.nods k hlt
        have HLE : Hid ((nodR ((cutL cuts d.nods).take k)).length ≤ 2097152) := by
          unfold Hid
          rw [nodR_length, List.length_take, cutL_length]
          omega
        generalize hxx : d.nods.getD k default = xx at *
        obtain ⟨xi, xd, xs⟩ := xx
        simp only at hc0 hc1 hc2 hsu hdm hwt
        have s0 := hsu.1
        have s1 := hsu.2
        have qd : (xd.size : Int) ≤ 1048576 := by have := HW.out; unfold wtD at this; omega
        have HBZ : Hid (w.heap.size + 1 + 1 ≤ wr.heap.size) := RK.out.lt
        clear hsu hdm hwt hxx
        generalize hRk : nodR ((cutL cuts d.nods).take k) = Rk at *
        unfold cutN at HSN
        simp only at HSN
        by_cases hcl : k < cuts.length
        · have q5 : (k : Int) < (cuts.length : Int) := by omega
          obtain ⟨gc, oc, rfl, hgc, hcw⟩ := HC3.out k hcl
          have hgw : gc < wr.heap.size := Nat.lt_of_lt_of_le hgc (Nat.le_trans HB.out BK.out.size)
          have hcz : ∀ o, (wr.alloc o).cell? ⟨gc, oc + k, none⟩ = some (.int .i64 (cuts.getD k 0)) := fun o => by
            rw [((Below.refl wr.heap.size wr).alloc (Nat.le_refl _) _).cell (p := ⟨_, _, none⟩) hgw, hB3.cell (p := ⟨_, _, none⟩) hgc]
            exact hcw
          have hcz1 := hcz (.cells #[.int .i64 xi, .string xd, .int .i64 xs] 47)
          clear hcw hB3 hcz
          generalize cuts.getD k 0 = mr at *
          by_cases hpos : 0 < mr
          · by_cases hbig : (xd.size : Int) - xs < mr
            · have HS : Hid (cutS xd.size xs mr = xs + ((xd.size : Int) - xs)) := by unfold Hid cutS; rw [if_neg (by omega), if_pos hbig]; omega
              rw [HS.out] at HSN
              have HSN2 : Hid (nodR ((cutL cuts d.nods).take (k + 1)) = Rk ++ [[.int .i64 xi, .string (xd.extract 0 (xs + ((xd.size : Int) - xs)).toNat), .int .i64 ((min (xs + ((xd.size : Int) - xs)).toNat xd.size : Nat) : Int)]]) := by
                have hmn : ((min (xs + ((xd.size : Int) - xs)).toNat xd.size : Nat) : Int) = xs + ((xd.size : Int) - xs) := by omega
                unfold Hid
                rw [hmn]
                exact HSN.out
              clear HSN HS
              go_wp2_with (at_builtin; refine wpList_append_row rfl (.tmp 69) (.tmp 71) 29 47 (.agg #[.int .i64 0, .string ⟨#[]⟩, .int .i64 0]) 3 32 rfl Tryz.underlying29 Tryz.infoNod rfl (by omega) (w.heap.size + 1 + 1) _ Rk rfl (OK.out.alloc _) [.int .i64 xi, .string (xd.extract 0 (xs + ((xd.size : Int) - xs)).toNat), .int .i64 ((min (xs + ((xd.size : Int) - xs)).toNat xd.size : Nat) : Int)] rfl (by intro u hu; simp at hu; rcases hu with rfl | rfl | rfl <;> rfl) (by simp only [World.size_alloc]; rfl) HLE.out (by omega) (by rw [World.size_alloc]; have := HBZ.out; omega) ?_; intro v' w2 hO2 hb2 _ _)
              go_roundw
              case rel => exact ⟨k + 1, by omega, by go_num, by rw [HSN2.out]; exact hO2, (KK.out.alloc _).on hb2 (by omega), (RK.out.alloc _).on hb2 (by omega), (BK.out.alloc BK.out.size _).trans (hb2.mono (by omega))⟩
              case measure => simp [intOf]; omega
            · have HS : Hid (cutS xd.size xs mr = xs + mr) := by unfold Hid cutS; rw [if_neg (by omega), if_neg hbig]
              rw [HS.out] at HSN
              have HSN2 : Hid (nodR ((cutL cuts d.nods).take (k + 1)) = Rk ++ [[.int .i64 xi, .string (xd.extract 0 (xs + mr).toNat), .int .i64 ((min (xs + mr).toNat xd.size : Nat) : Int)]]) := by
                have hmn : ((min (xs + mr).toNat xd.size : Nat) : Int) = xs + mr := by omega
                unfold Hid
                rw [hmn]
                exact HSN.out
              clear HSN HS
              go_wp2_with (at_builtin; refine wpList_append_row rfl (.tmp 69) (.tmp 71) 29 47 (.agg #[.int .i64 0, .string ⟨#[]⟩, .int .i64 0]) 3 32 rfl Tryz.underlying29 Tryz.infoNod rfl (by omega) (w.heap.size + 1 + 1) _ Rk rfl (OK.out.alloc _) [.int .i64 xi, .string (xd.extract 0 (xs + mr).toNat), .int .i64 ((min (xs + mr).toNat xd.size : Nat) : Int)] rfl (by intro u hu; simp at hu; rcases hu with rfl | rfl | rfl <;> rfl) (by simp only [World.size_alloc]; rfl) HLE.out (by omega) (by rw [World.size_alloc]; have := HBZ.out; omega) ?_; intro v' w2 hO2 hb2 _ _)
              go_roundw
              case rel => exact ⟨k + 1, by omega, by go_num, by rw [HSN2.out]; exact hO2, (KK.out.alloc _).on hb2 (by omega), (RK.out.alloc _).on hb2 (by omega), (BK.out.alloc BK.out.size _).trans (hb2.mono (by omega))⟩
              case measure => simp [intOf]; omega
          · have HS : Hid (cutS xd.size xs mr = xs) := by
              unfold Hid cutS
              by_cases c : mr < 0
              · rw [if_pos c]
              · rw [if_neg c, if_neg (by omega)]; omega
            rw [HS.out] at HSN
            have HSN2 : Hid (nodR ((cutL cuts d.nods).take (k + 1)) = Rk ++ [[.int .i64 xi, .string (xd.extract 0 (xs).toNat), .int .i64 (max xs 0)]]) := by
              have hmn : (max xs 0) = xs := by omega
              unfold Hid
              rw [hmn]
              exact HSN.out
            clear HSN HS
            go_wp2_with (at_builtin; refine wpList_append_row rfl (.tmp 69) (.tmp 71) 29 47 (.agg #[.int .i64 0, .string ⟨#[]⟩, .int .i64 0]) 3 32 rfl Tryz.underlying29 Tryz.infoNod rfl (by omega) (w.heap.size + 1 + 1) _ Rk rfl (OK.out.alloc _) [.int .i64 xi, .string (xd.extract 0 (xs).toNat), .int .i64 (max xs 0)] rfl (by intro u hu; simp at hu; rcases hu with rfl | rfl | rfl <;> rfl) (by simp only [World.size_alloc]; rfl) HLE.out (by omega) (by rw [World.size_alloc]; have := HBZ.out; omega) ?_; intro v' w2 hO2 hb2 _ _)
            go_roundw
            case rel => exact ⟨k + 1, by omega, by go_num, by rw [HSN2.out]; exact hO2, (KK.out.alloc _).on hb2 (by omega), (RK.out.alloc _).on hb2 (by omega), (BK.out.alloc BK.out.size _).trans (hb2.mono (by omega))⟩
            case measure => simp [intOf]; omega
        · have q5 : ¬ (k : Int) < (cuts.length : Int) := by omega
          have hz : cuts.getD k 0 = 0 := by rw [List.getD_eq_getElem?_getD, List.getElem?_eq_none (by omega)]; rfl
          rw [hz] at HSN
          have HS : Hid (cutS xd.size xs 0 = xs) := by unfold Hid cutS; rw [if_neg (by omega), if_neg (by omega)]; omega
          rw [HS.out] at HSN
          clear hB3 hz
          have HSN2 : Hid (nodR ((cutL cuts d.nods).take (k + 1)) = Rk ++ [[.int .i64 xi, .string (xd.extract 0 (xs).toNat), .int .i64 (max xs 0)]]) := by
            have hmn : (max xs 0) = xs := by omega
            unfold Hid
            rw [hmn]
            exact HSN.out
          clear HSN HS
          go_wp2_with (at_builtin; refine wpList_append_row rfl (.tmp 69) (.tmp 71) 29 47 (.agg #[.int .i64 0, .string ⟨#[]⟩, .int .i64 0]) 3 32 rfl Tryz.underlying29 Tryz.infoNod rfl (by omega) (w.heap.size + 1 + 1) _ Rk rfl (OK.out.alloc _) [.int .i64 xi, .string (xd.extract 0 (xs).toNat), .int .i64 (max xs 0)] rfl (by intro u hu; simp at hu; rcases hu with rfl | rfl | rfl <;> rfl) (by simp only [World.size_alloc]; rfl) HLE.out (by omega) (by rw [World.size_alloc]; have := HBZ.out; omega) ?_; intro v' w2 hO2 hb2 _ _)
          go_roundw
          case rel => exact ⟨k + 1, by omega, by go_num, by rw [HSN2.out]; exact hO2, (KK.out.alloc _).on hb2 (by omega), (RK.out.alloc _).on hb2 (by omega), (BK.out.alloc BK.out.size _).trans (hb2.mono (by omega))⟩
          case measure => simp [intOf]; omega
      · obtain rfl : k = d.nods.length := by omega
        have HFI : Hid ((cutL cuts d.nods).take d.nods.length = cutL cuts d.nods) := by unfold Hid; rw [← cutL_length cuts d.nods, List.take_length]
        rw [HFI.out] at OK
        clear hlt hk
        have cN := namesV d (.agg #[.int .i64 d.room, .int .i64 d.next, .slice a1 d.nods.length b1, v2, v3]) keep wr.drew B (HV.out.on (BK.out.drew.mono HB.out)) HF.out HSZ.out.1 (Nat.le_trans HB.out BK.out.size)
        have S0 : Hid (wr.drew.cell? ⟨w.heap.size, 0, none⟩ = some (.int .i64 d.room) ∧ wr.drew.cell? ⟨w.heap.size, 1, none⟩ = some (.int .i64 d.next) ∧ wr.drew.cell? ⟨w.heap.size, 2, none⟩ = some (.slice a1 d.nods.length b1) ∧ wr.drew.cell? ⟨w.heap.size, 3, none⟩ = some v2 ∧ wr.drew.cell? ⟨w.heap.size, 4, none⟩ = some v3) := ⟨KK.out.cell 0 _ rfl, KK.out.cell 1 _ rfl, KK.out.cell 2 _ rfl, KK.out.cell 3 _ rfl, KK.out.cell 4 _ rfl⟩
        have x2 := KK.out.cell 2 _ rfl
        go_wp2_with fail
        clear x2
        refine wp_region_until (fun w' => w'.cell? ⟨w.heap.size, 0, none⟩ = some (.int .i64 d.room) ∧ w'.cell? ⟨w.heap.size, 1, none⟩ = some (.int .i64 d.next) ∧ w'.cell? ⟨w.heap.size, 2, none⟩ = some (.slice a1 d.nods.length b1) ∧ w'.cell? ⟨w.heap.size, 3, none⟩ = some v2 ∧ w'.cell? ⟨w.heap.size, 4, none⟩ = some v3) (fun i => i == 6) 7 (by rfl) (by kernel_rfl) ?_
        refine until_take 0 (v := ?_) (by rfl) (by kernel_rfl) (by exact fun _ _ _ h => h) (by rfl) ?_ S0.out ?_
        rotate_left
        · intro w hSw
          try dsimp only at hSw
          go_simp
          try with_reducible rfl
        try simp only [Act.put, List.setIfInBounds_toArray, List.set_cons_zero, List.set_cons_succ]
        refine until_take 1 (v := ?_) (by rfl) (by kernel_rfl) (by exact fun _ _ _ h => h) (by rfl) ?_ S0.out ?_
        rotate_left
        · intro w hSw
          try dsimp only at hSw
          go_simp
          try with_reducible rfl
        try simp only [Act.put, List.setIfInBounds_toArray, List.set_cons_zero, List.set_cons_succ]
        refine until_take 2 (v := ?_) (by rfl) (by kernel_rfl) (by exact fun _ _ _ h => h) (by rfl) ?_ S0.out ?_
        rotate_left
        · intro w hSw
          try dsimp only at hSw
          go_simp
          try with_reducible rfl
        try simp only [Act.put, List.setIfInBounds_toArray, List.set_cons_zero, List.set_cons_succ]
        refine until_take 4 (v := ?_) (by rfl) (by kernel_rfl) (by exact fun _ _ _ h => h) (by rfl) ?_ S0.out ?_
        rotate_left
        · intro w hSw
          try dsimp only at hSw
          go_simp
          try with_reducible rfl
        try simp only [Act.put, List.setIfInBounds_toArray, List.set_cons_zero, List.set_cons_succ]
        refine until_one 3 (by rfl) (by kernel_rfl) (fun K hK => ?_)
        go_simp
        refine cN.mono ?_
        rintro e w2 ⟨u2, rfl, hO2, hb2⟩
        have hb21 : Below wr.heap.size wr w2 := (Below.refl _ wr).drew.trans hb2
        have B2 : Hid (Below w.heap.size w w2) := BK.out.trans (hb21.mono BK.out.size)
        have K2 : Hid (Blk w2 w.heap.size #[.int .i64 d.room, .int .i64 d.next, .slice a1 d.nods.length b1, v2, v3] 33) := KK.out.on hb21 KK.out.lt
        have R2 : Hid (Blk w2 (w.heap.size + 1) #[.int .i64 0, .int .i64 0, .slice none 0 0, .slice none 0 0, .slice none 0 0] 33) := RK.out.on hb21 RK.out.lt
        have OI : Hid (Owns w2 (w.heap.size + 1 + 1) 47 3 (.slice sA sm sc) (nodR (cutL cuts d.nods))) := OK.out.on hb21
        obtain ⟨A2, m2, k2, rfl⟩ := hO2.shape
        have O2 : Hid (Owns w2 w.heap.size 84 2 (.slice A2 m2 k2) (lnkR (crashL d keep))) := hO2.mono BK.out.size
        clear hb2 hb21 hO2 cN
        go_wp2_with fail
        refine hK.out _ _ (fun _ _ => ⟨K2.out.cell 0 _ rfl, K2.out.cell 1 _ rfl, K2.out.cell 2 _ rfl, K2.out.cell 3 _ rfl, K2.out.cell 4 _ rfl⟩) ?_
        clear hK K
        try simp only [Act.put, List.setIfInBounds_toArray, List.set_cons_zero, List.set_cons_succ]
        have cS := settledV d.room d.next (.slice a1 d.nods.length b1) v2 v3 (.slice A2 m2 k2) (.slice sA sm sc) (crashL d keep) (cutL cuts d.nods) w2 w2.heap.size O2.out.lies OI.out.lies HSZ.out.2.2 (by rw [cutL_length]; have := HSZ.out; omega) (Nat.le_refl _)
        refine until_one 5 (by rfl) (by kernel_rfl) (fun K hK => ?_)
        go_simp
        refine cS.mono ?_
        rintro e w3 ⟨u3, rfl, hO3, hb3⟩
        have BZ : Hid (Below w.heap.size w w3) := B2.out.trans (hb3.mono B2.out.size)
        have K3 : Hid (Blk w3 w.heap.size #[.int .i64 d.room, .int .i64 d.next, .slice a1 d.nods.length b1, v2, v3] 33) := K2.out.on hb3 K2.out.lt
        have R3 : Hid (Blk w3 (w.heap.size + 1) #[.int .i64 0, .int .i64 0, .slice none 0 0, .slice none 0 0, .slice none 0 0] 33) := R2.out.on hb3 R2.out.lt
        obtain ⟨A1, m1, k1, rfl⟩ := hO3.shape
        have O1 : Hid (Owns w3 w.heap.size 47 3 (.slice A1 m1 k1) (nodR (keptN (crashL d keep) (cutL cuts d.nods)))) := hO3.mono B2.out.size
        have O2b : Hid (Owns w3 w.heap.size 84 2 (.slice A2 m2 k2) (lnkR (crashL d keep))) := O2.out.on hb3
        clear hb3 hO3 cS
        go_wp2_with fail
        refine hK.out _ _ (fun _ _ => ⟨K3.out.cell 0 _ rfl, K3.out.cell 1 _ rfl, K3.out.cell 2 _ rfl, K3.out.cell 3 _ rfl, K3.out.cell 4 _ rfl⟩) ?_
        clear hK K
        try simp only [Act.put, List.setIfInBounds_toArray, List.set_cons_zero, List.set_cons_succ]
        have g0 := R3.out.cell 0 _ rfl
        have f0 := R3.out.free 0
        have g1 := R3.out.cell 1 _ rfl
        have f1 := R3.out.free 1
        have g2 := R3.out.cell 2 _ rfl
        have f2 := R3.out.free 2
        have g3 := R3.out.cell 3 _ rfl
        have f3 := R3.out.free 3
        have g4 := R3.out.cell 4 _ rfl
        have f4 := R3.out.free 4
        refine until_one 6 (by rfl) (by kernel_rfl) (fun K hK => ?_)
        go_simp
        refine hK.out _ _ (fun h => by cases h) ?_
        clear hK K
        try simp only [Act.put, List.setIfInBounds_toArray, List.set_cons_zero, List.set_cons_succ]
        refine until_done (by kernel_rfl) ?_ _
        go_wp2_with fail
        have hg : w.heap.size ≤ w.heap.size + 1 := by omega
        have hB := BZ.out
        have FB := (((((hB.setCell hg (.int .i64 d.room) (p := ⟨_, 0, none⟩)).setCell hg (.int .i64 d.next) (p := ⟨_, 1, none⟩)).setCell hg (.slice A1 m1 k1) (p := ⟨_, 2, none⟩)).setCell hg (.slice A2 m2 k2) (p := ⟨_, 3, none⟩)).setCell hg (.slice none 0 0) (p := ⟨_, 4, none⟩))
        have hF := (((((R3.out.set 0 (.int .i64 d.room)).set 1 (.int .i64 d.next)).set 2 (.slice A1 m1 k1)).set 3 (.slice A2 m2 k2)).set 4 (.slice none 0 0))
        have mm0 := O1.out.notBlk R3.out (by decide)
        have F0 := (((((O1.out.other mm0 0 (.int .i64 d.room)).other mm0 1 (.int .i64 d.next)).other mm0 2 (.slice A1 m1 k1)).other mm0 3 (.slice A2 m2 k2)).other mm0 4 (.slice none 0 0))
        have mm1 := O2b.out.notBlk R3.out (by decide)
        have F1 := (((((O2b.out.other mm1 0 (.int .i64 d.room)).other mm1 1 (.int .i64 d.next)).other mm1 2 (.slice A1 m1 k1)).other mm1 3 (.slice A2 m2 k2)).other mm1 4 (.slice none 0 0))
        clear g0 f0 g1 f1 g2 f2 g3 f3 g4 f4
        generalize (((((w3.setCell ⟨w.heap.size + 1, 0, none⟩ (.int .i64 d.room)).setCell ⟨w.heap.size + 1, 1, none⟩ (.int .i64 d.next)).setCell ⟨w.heap.size + 1, 2, none⟩ (.slice A1 m1 k1)).setCell ⟨w.heap.size + 1, 3, none⟩ (.slice A2 m2 k2)).setCell ⟨w.heap.size + 1, 4, none⟩ (.slice none 0 0)) = WF at *
        have hG : Blk WF (w.heap.size + 1) #[.int .i64 d.room, .int .i64 d.next, .slice A1 m1 k1, .slice A2 m2 k2, .slice none 0 0] 33 := hF
        have l0 := hG.cell 0 (.int .i64 d.room) rfl
        have l1 := hG.cell 1 (.int .i64 d.next) rfl
        have l2 := hG.cell 2 (.slice A1 m1 k1) rfl
        have l3 := hG.cell 3 (.slice A2 m2 k2) rfl
        have l4 := hG.cell 4 (.slice none 0 0) rfl
        exact bodyPost_ret (v := .agg #[.int .i64 d.room, .int .i64 d.next, .slice A1 m1 k1, .slice A2 m2 k2, .slice none 0 0]) (by simp [results, go_sem, l0, l1, l2, l3, l4]) rfl (by rw [HRR.out]; exact ⟨_, rfl, ⟨_, _, _, rfl, F0, F1, Owns.nil _ _ _ _⟩, FB⟩)
end Go.Proofs.YtgpplogieohdpaaGreat
