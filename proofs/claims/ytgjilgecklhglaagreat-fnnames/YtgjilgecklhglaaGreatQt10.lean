/- DkSettled DkSyncDirS DkMakeS DsDef -/
import Derived.Test.YtgjilgecklhglaaGreatRows
import Derived.Test.YtgjilgecklhglaaGreatQt3
import Derived.Test.YtgjilgecklhglaaGreatQt4
import Derived.Test.YtgjilgecklhglaaGreatQt0
import Derived.Test.YtgjilgecklhglaaGreatQt6
import Derived.Test.YtgjilgecklhglaaGreatQt9
import Derived.Test.YtgjilgecklhglaaGreatQt2
import Derived.Test.YtgjilgecklhglaaGreatQt5
import Derived.Test.YtgjilgecklhglaaGreatQt7
import Derived.Test.YtgjilgecklhglaaGreatQt8
open List (setIfInBounds_toArray set_cons_zero set_cons_succ)
namespace Go.Proofs.YtgjilgecklhglaaGreat
open Go.ChangeShapes Go.WideShapes Go.ChangeAt Go.RowKit Go.PlainAid
set_option linter.unusedVariables false
theorem keptN_snoc (l : List Lnk) (ns : List Nod) (k : Nat) (hk : k < ns.length) : keptN l (ns.take (k + 1)) = if linked l (ns.getD k default).id = true then keptN l (ns.take k) ++ [ns.getD k default] else keptN l (ns.take k) := by
 unfold keptN
 rw [take_getD ns k hk, List.filter_append, List.filter_cons, List.filter_nil]
 split
 ·rfl
 ·rw [List.append_nil]
set_option maxRecDepth 20000 in
set_option maxHeartbeats 4000000 in
theorem settledV (room next : Int) (v1 v2 v3 lv iv : Value) (l : List Lnk) (ns : List Nod) (w : World) (B : Nat) (hlv : Lies w B 2 lv (lnkR l)) (hiv : Lies w B 3 iv (nodR ns)) (hl : l.length ≤ 1048576) (hns : ns.length ≤ 1000) (hB : B ≤ w.heap.size) :
  Calls Tryz.prog 34 #[.agg #[.int .i64 room, .int .i64 next, v1, v2, v3], lv, iv] w fun e w' => ∃ u, e = .returned (.agg #[.int .i64 room, .int .i64 next, u, lv, .slice none 0 0]) ∧ Owns w' w.heap.size 47 3 u (nodR (keptN l ns)) ∧ Below w.heap.size w w' := by
 have HLV : Hid (Lies w B 2 lv (lnkR l)) := hlv
 have HB : Hid (B ≤ w.heap.size) := hB
 have HL : Hid (l.length ≤ 1048576) := hl
 obtain ⟨iA, ic, rfl, hlk⟩ := nod_look hiv
 obtain ⟨lA, lc, rfl, _⟩ := lnk_look hlv
 have HI : Hid (∀ j, j < ns.length → ∃ g off, iA = some ⟨g, off, none⟩ ∧ g < B ∧ _) := hlk
 have q1 : (ns.length : Int) ≤ 1000 := by omega
 have HNS : Hid (ns.length ≤ 1000) := hns
 clear hlk hlv hiv hl hns hB
 generalize hN : ns.length = n at *
 have HN : Hid (ns.length = n) := hN
 clear hN
 go_enter Tryz.func34, Tryz.ntmps34
 go_wp2_with fail
 have b0 : Below w.heap.size w (((w.alloc (.cells #[.int .i64 room, .int .i64 next, v1, v2, v3] 28)).alloc (.cells #[.int .i64 0, .int .i64 0, .slice none 0 0, .slice none 0 0, .slice none 0 0] 28)).alloc (.cells #[.int .i64 room, .int .i64 next, .slice none 0 0, .slice lA l.length lc, .slice none 0 0] 28)) := (((Below.refl _ w).alloc (Nat.le_refl _) _).alloc (by simp) _).alloc (by simp; omega) _
 have kO := Blk.new ((w.alloc (.cells #[.int .i64 room, .int .i64 next, v1, v2, v3] 28)).alloc (.cells #[.int .i64 0, .int .i64 0, .slice none 0 0, .slice none 0 0, .slice none 0 0] 28)) #[.int .i64 room, .int .i64 next, .slice none 0 0, .slice lA l.length lc, .slice none 0 0] 28
 have kR := (Blk.new (w.alloc (.cells #[.int .i64 room, .int .i64 next, v1, v2, v3] 28)) #[.int .i64 0, .int .i64 0, .slice none 0 0, .slice none 0 0, .slice none 0 0] 28).alloc (.cells #[.int .i64 room, .int .i64 next, .slice none 0 0, .slice lA l.length lc, .slice none 0 0] 28)
 simp only [World.size_alloc] at kO kR
 have ST : Hid (Blk (((w.alloc (.cells #[.int .i64 room, .int .i64 next, v1, v2, v3] 28)).alloc (.cells #[.int .i64 0, .int .i64 0, .slice none 0 0, .slice none 0 0, .slice none 0 0] 28)).alloc (.cells #[.int .i64 room, .int .i64 next, .slice none 0 0, .slice lA l.length lc, .slice none 0 0] 28)) (w.heap.size + 1 + 1) #[.int .i64 room, .int .i64 next, .slice none 0 0, .slice lA l.length lc, .slice none 0 0] 28 ∧ Blk (((w.alloc (.cells #[.int .i64 room, .int .i64 next, v1, v2, v3] 28)).alloc (.cells #[.int .i64 0, .int .i64 0, .slice none 0 0, .slice none 0 0, .slice none 0 0] 28)).alloc (.cells #[.int .i64 room, .int .i64 next, .slice none 0 0, .slice lA l.length lc, .slice none 0 0] 28)) (w.heap.size + 1) #[.int .i64 0, .int .i64 0, .slice none 0 0, .slice none 0 0, .slice none 0 0] 28 ∧ Below w.heap.size w (((w.alloc (.cells #[.int .i64 room, .int .i64 next, v1, v2, v3] 28)).alloc (.cells #[.int .i64 0, .int .i64 0, .slice none 0 0, .slice none 0 0, .slice none 0 0] 28)).alloc (.cells #[.int .i64 room, .int .i64 next, .slice none 0 0, .slice lA l.length lc, .slice none 0 0] 28))) := ⟨kO, kR, b0⟩
 clear b0 kO kR
 generalize ((w.alloc (.cells #[.int .i64 room, .int .i64 next, v1, v2, v3] 28)).alloc (.cells #[.int .i64 0, .int .i64 0, .slice none 0 0, .slice none 0 0, .slice none 0 0] 28)).alloc (.cells #[.int .i64 room, .int .i64 next, .slice none 0 0, .slice lA l.length lc, .slice none 0 0] 28) = W at *
 go_loopw [8] (fun v8 wr => ∃ (k : Nat) (s : Value), k ≤ n ∧ v8 = .int .i64 (k : Int) ∧ Blk wr (w.heap.size + 1 + 1) #[.int .i64 room, .int .i64 next, s, .slice lA l.length lc, .slice none 0 0] 28 ∧ Blk wr (w.heap.size + 1) #[.int .i64 0, .int .i64 0, .slice none 0 0, .slice none 0 0, .slice none 0 0] 28 ∧ Owns wr (w.heap.size + 1 + 1 + 1) 47 3 s (nodR (keptN l (ns.take k))) ∧ Below w.heap.size w wr) (fun i _ => n - (intOf i).toNat)
 case atStart => exact ⟨0, _, by omega, rfl, ST.out.1, ST.out.2.1, Owns.nil _ _ _ _, ST.out.2.2⟩
 case round =>
  obtain ⟨k, s, hk, rfl, hO, hRk, hOw, hb⟩ := hrel
  have BR : Hid (Below w.heap.size w wr) := hb
  have KO : Hid (Blk wr (w.heap.size + 1 + 1) #[.int .i64 room, .int .i64 next, s, .slice lA l.length lc, .slice none 0 0] 28) := hO
  have KR : Hid (Blk wr (w.heap.size + 1) #[.int .i64 0, .int .i64 0, .slice none 0 0, .slice none 0 0, .slice none 0 0] 28) := hRk
  have OW : Hid (Owns wr (w.heap.size + 1 + 1 + 1) 47 3 s (nodR (keptN l (ns.take k)))) := hOw
  obtain ⟨sA, sm, sc, rfl⟩ := hOw.shape
  clear hO hRk hOw hb
  by_cases hlt : k < n
  ·have q2 : (k : Int) < (n : Int) := by omega
   have q3 : (3 * (k : Int)) ≤ 3000 := by omega
   obtain ⟨gi, off, rfl, hgB, hc0, hc1, hc2⟩ := HI.out k hlt
   have hgw : gi < w.heap.size := Nat.lt_of_lt_of_le hgB HB.out
   rw [← BR.out.cell (p := ⟨_, _, none⟩) hgw] at hc0 hc1 hc2
   have cL := fun id => linkedV l (.slice lA l.length lc) id wr w.heap.size ((HLV.out.on (BR.out.mono HB.out)).mono HB.out) HL.out
   have HKS := keptN_snoc l ns k (by rw [HN.out]; exact hlt)
   generalize hxx : ns.getD k default = xx at *
   obtain ⟨xi, xd, xs⟩ := xx
   simp only at hc0 hc1 hc2 HKS
   have HLE : Hid ((nodR (keptN l (ns.take k))).length ≤ 2097152) := by
    unfold Hid
    rw [nodR_length]
    have h1 : (keptN l (ns.take k)).length ≤ (ns.take k).length := List.length_filter_le _ _
    rw [List.length_take] at h1
    have := HNS.out
    omega
   cases hlk : linked l xi with
   | false =>
    have cL := cL xi
    rw [hlk] at cL HKS
    have HKS2 : Hid (keptN l (ns.take (k + 1)) = keptN l (ns.take k)) := by unfold Hid; rw [HKS]; simp
    clear HKS hlk
    go_wp2_with fail
    refine cL.mono ?_
    rintro e w1 ⟨rfl, rfl⟩
    go_wp2_with fail
    go_roundw
    case rel => exact ⟨k + 1, _, by omega, by go_num, KO.out, KR.out, by rw [HKS2.out]; exact OW.out, BR.out⟩
    case measure => simp [intOf]; omega
   | true =>
    have cL := cL xi
    rw [hlk] at cL HKS
    have e2 : nodR (keptN l (ns.take (k + 1))) = nodR (keptN l (ns.take k)) ++ [[.int .i64 xi, .string xd, .int .i64 xs]] := by rw [HKS, if_pos rfl]; unfold nodR; rw [List.map_append]; rfl
    have HE2 : Hid (nodR (keptN l (ns.take (k + 1))) = nodR (keptN l (ns.take k)) ++ [[.int .i64 xi, .string xd, .int .i64 xs]]) := e2
    clear HKS hlk e2
    have hz1 : w.heap.size + 1 + 1 + 1 ≤ wr.heap.size := KO.out.lt
    obtain ⟨nA, nm, nc, w5, r5, hO5, hb5, hk5, _⟩ := run_append_row (P := Tryz.prog) wr.drew 24 24 47 (.agg #[.int .i64 0, .string ⟨#[]⟩, .int .i64 0]) 3 32 Tryz.underlying24 Tryz.infoNod rfl (by omega) (w.heap.size + 1 + 1 + 1) (.slice sA sm sc) (nodR (keptN l (ns.take k))) (OW.out.kept fun _ _ _ => rfl) [.int .i64 xi, .string xd, .int .i64 xs] rfl (by intro y hy; simp at hy; rcases hy with rfl | rfl | rfl <;> rfl) HLE.out (by omega) hz1
    have B5 : Hid (Below (w.heap.size + 1 + 1 + 1) wr w5) := (Below.refl _ wr).drew.trans hb5
    have K5 : Hid (Blk w5 (w.heap.size + 1 + 1) #[.int .i64 room, .int .i64 next, .slice sA sm sc, .slice lA l.length lc, .slice none 0 0] 28) := KO.out.on B5.out (by omega)
    have R5 : Hid (Blk w5 (w.heap.size + 1) #[.int .i64 0, .int .i64 0, .slice none 0 0, .slice none 0 0, .slice none 0 0] 28) := KR.out.on B5.out (by omega)
    have O5 : Hid (Owns w5 (w.heap.size + 1 + 1 + 1) 47 3 (.slice nA nm nc) (nodR (keptN l (ns.take (k + 1))))) := by unfold Hid; rw [HE2.out]; exact hO5
    have hcO := KO.out.cell 2 _ rfl
    have S0 : Hid (wr.drew.cell? ⟨w.heap.size + 1 + 1, 2, none⟩ = some (.slice sA sm sc) ∧ wr.drew.cell? ⟨gi, off + k * 3, none⟩ = some (.int .i64 xi) ∧ wr.drew.cell? ⟨gi, off + k * 3 + 1, none⟩ = some (.string xd) ∧ wr.drew.cell? ⟨gi, off + k * 3 + 2, none⟩ = some (.int .i64 xs)) := ⟨hcO, hc0, hc1, hc2⟩
    have S1 : Hid ((wr.drew.alloc (.cells #[.int .i64 xi, .string xd, .int .i64 xs] 47)).cell? ⟨w.heap.size + 1 + 1, 2, none⟩ = some (.slice sA sm sc) ∧ (wr.drew.alloc (.cells #[.int .i64 xi, .string xd, .int .i64 xs] 47)).cell? ⟨gi, off + k * 3, none⟩ = some (.int .i64 xi) ∧ (wr.drew.alloc (.cells #[.int .i64 xi, .string xd, .int .i64 xs] 47)).cell? ⟨gi, off + k * 3 + 1, none⟩ = some (.string xd) ∧ (wr.drew.alloc (.cells #[.int .i64 xi, .string xd, .int .i64 xs] 47)).cell? ⟨gi, off + k * 3 + 2, none⟩ = some (.int .i64 xs)) := by
     have hBA : Below wr.heap.size wr (wr.drew.alloc (.cells #[.int .i64 xi, .string xd, .int .i64 xs] 47)) := ((Below.refl _ wr).drew).alloc (Nat.le_refl _) _
     have hgr : gi < wr.heap.size := Nat.lt_of_lt_of_le hgw BR.out.size
     exact ⟨(hBA.cell (p := ⟨_, _, none⟩) KO.out.lt).trans hcO, (hBA.cell (p := ⟨_, _, none⟩) hgr).trans hc0, (hBA.cell (p := ⟨_, _, none⟩) hgr).trans hc1, (hBA.cell (p := ⟨_, _, none⟩) hgr).trans hc2⟩
    have y2 := K5.out.cell 2 _ rfl
    have z2 := K5.out.free 2
    have FK : Hid (Blk (w5.setCell ⟨w.heap.size + 1 + 1, 2, none⟩ (.slice nA nm nc)) (w.heap.size + 1 + 1) #[.int .i64 room, .int .i64 next, .slice nA nm nc, .slice lA l.length lc, .slice none 0 0] 28) := K5.out.set 2 _
    have FR : Hid (Blk (w5.setCell ⟨w.heap.size + 1 + 1, 2, none⟩ (.slice nA nm nc)) (w.heap.size + 1) #[.int .i64 0, .int .i64 0, .slice none 0 0, .slice none 0 0, .slice none 0 0] 28) := R5.out.other (by omega) _ _
    have FO : Hid (Owns (w5.setCell ⟨w.heap.size + 1 + 1, 2, none⟩ (.slice nA nm nc)) (w.heap.size + 1 + 1 + 1) 47 3 (.slice nA nm nc) (nodR (keptN l (ns.take (k + 1))))) := O5.out.other (O5.out.below (by omega)) _ _
    have FB : Hid (Below w.heap.size w (w5.setCell ⟨w.heap.size + 1 + 1, 2, none⟩ (.slice nA nm nc))) := (BR.out.trans (B5.out.mono (by omega))).setCell (p := ⟨w.heap.size + 1 + 1, 2, none⟩) (by show w.heap.size ≤ w.heap.size + 1 + 1; omega) _
    clear hO5 hb5 hk5 hcO
    go_wp2_with fail
    refine cL.mono ?_
    rintro e w1 ⟨rfl, rfl⟩
    go_wp2_with fail
    refine wp_region_until (fun w' => w'.cell? ⟨w.heap.size + 1 + 1, 2, none⟩ = some (.slice sA sm sc) ∧ w'.cell? ⟨gi, off + k * 3, none⟩ = some (.int .i64 xi) ∧ w'.cell? ⟨gi, off + k * 3 + 1, none⟩ = some (.string xd) ∧ w'.cell? ⟨gi, off + k * 3 + 2, none⟩ = some (.int .i64 xs)) (fun i => i == 7 || i == 9) 10 (by rfl) (by kernel_rfl) ?_
    refine until_take 0 (v := ?va0) (by rfl) (by kernel_rfl) (by exact fun _ _ _ h => h) (by rfl) ?hya0 S0.out ?ra0
    case hya0 =>
     intro w hSw
     try dsimp only at hSw
     go_simp
     try with_reducible rfl
    try simp only [Act.put, zQ1, zQ2, zQ3]
    refine until_take 1 (v := ?va1) (by rfl) (by kernel_rfl) (by exact fun _ _ _ h => h) (by rfl) ?hya1 S0.out ?ra1
    case hya1 =>
     intro w hSw
     try dsimp only at hSw
     go_simp
     try with_reducible rfl
    try simp only [Act.put, zQ1, zQ2, zQ3]
    refine until_take 2 (v := ?va2) (by rfl) (by kernel_rfl) (by exact fun _ _ _ h => h) (by rfl) ?hya2 S0.out ?ra2
    case hya2 =>
     intro w hSw
     try dsimp only at hSw
     go_simp
     try with_reducible rfl
    try simp only [Act.put, zQ1, zQ2, zQ3]
    refine until_take 3 (v := ?va3) (by rfl) (by kernel_rfl) (by exact fun _ _ _ h => h) (by rfl) ?hya3 S0.out ?ra3
    case hya3 =>
     intro w hSw
     try dsimp only at hSw
     go_simp
     try with_reducible rfl
    try simp only [Act.put, zQ1, zQ2, zQ3]
    refine until_take 4 (v := ?va4) (by rfl) (by kernel_rfl) (by exact fun _ _ _ h => h) (by rfl) ?hya4 S0.out ?ra4
    case hya4 =>
     intro w hSw
     try dsimp only at hSw
     go_simp
     try with_reducible rfl
    try simp only [Act.put, zQ1, zQ2, zQ3]
    refine until_take 5 (v := ?va5) (by rfl) (by kernel_rfl) (by exact fun _ _ _ h => h) (by rfl) ?hya5 S0.out ?ra5
    case hya5 =>
     intro w hSw
     try dsimp only at hSw
     go_simp
     try with_reducible rfl
    try simp only [Act.put, zQ1, zQ2, zQ3]
    refine uNe 6 (fun K hK => ?_)
    go_simp
    refine hK.out _ _ (fun _ _ => S1.out) ?_
    clear hK K
    try simp only [Act.put, zQ1, zQ2, zQ3]
    refine uNe 7 (fun K hK => ?_)
    refine step_append_run (by rfl) (.tmp 29) (.tmp 34) 24 (by rfl) _ _ _ _ (by rfl) (by rfl) r5 ?_
    refine hK.out _ _ (fun h => by cases h) ?_
    clear hK K
    try simp only [Act.put, zQ1, zQ2, zQ3]
    refine until_pure 8 (v := ?vb8) (by rfl) (by kernel_rfl) (by exact fun _ _ _ h => h) (by rfl) ?hyb8 ?rb8
    case hyb8 =>
     intro w
     go_simp
     try with_reducible rfl
    try simp only [Act.put, zQ1, zQ2, zQ3]
    refine uNe 9 (fun K hK => ?_)
    go_simp
    refine hK.out _ _ (fun h => by cases h) ?_
    clear hK K
    refine until_done (by kernel_rfl) ?_ _
    go_wp2_with fail
    go_roundw
    case rel => exact ⟨k + 1, _, by omega, by go_num, FK.out, FR.out, FO.out, FB.out⟩
    case measure => simp [intOf]; omega
  ·obtain rfl : k = n := by omega
   have HFI : Hid (keptN l (ns.take k) = keptN l ns) := by unfold Hid; rw [← HN.out, List.take_length]
   have r0 := KO.out.cell 0 _ rfl
   have r1 := KO.out.cell 1 _ rfl
   have r2 := KO.out.cell 2 _ rfl
   have r3 := KO.out.cell 3 _ rfl
   have r4 := KO.out.cell 4 _ rfl
   have hg : w.heap.size ≤ w.heap.size + 1 := by omega
   have g0 := KR.out.cell 0 _ rfl
   have f0 := KR.out.free 0
   have g1 := KR.out.cell 1 _ rfl
   have f1 := KR.out.free 1
   have g2 := KR.out.cell 2 _ rfl
   have f2 := KR.out.free 2
   have g3 := KR.out.cell 3 _ rfl
   have f3 := KR.out.free 3
   have g4 := KR.out.cell 4 _ rfl
   have f4 := KR.out.free 4
   go_wp2_with fail
   have hB := BR.out
   clear r0 r1 r2 r3 r4
   have FB := (((((hB.setCell hg (.int .i64 room) (p := ⟨_, 0, none⟩)).setCell hg (.int .i64 next) (p := ⟨_, 1, none⟩)).setCell hg (.slice sA sm sc) (p := ⟨_, 2, none⟩)).setCell hg (.slice lA l.length lc) (p := ⟨_, 3, none⟩)).setCell hg (.slice none 0 0) (p := ⟨_, 4, none⟩))
   have hF := (((((KR.out.set 0 (.int .i64 room)).set 1 (.int .i64 next)).set 2 (.slice sA sm sc)).set 3 (.slice lA l.length lc)).set 4 (.slice none 0 0))
   have mm0 := OW.out.notBlk KR.out (by decide)
   have F0 := (((((OW.out.other mm0 0 (.int .i64 room)).other mm0 1 (.int .i64 next)).other mm0 2 (.slice sA sm sc)).other mm0 3 (.slice lA l.length lc)).other mm0 4 (.slice none 0 0))
   clear g0 f0 g1 f1 g2 f2 g3 f3 g4 f4
   generalize (((((wr.setCell ⟨w.heap.size + 1, 0, none⟩ (.int .i64 room)).setCell ⟨w.heap.size + 1, 1, none⟩ (.int .i64 next)).setCell ⟨w.heap.size + 1, 2, none⟩ (.slice sA sm sc)).setCell ⟨w.heap.size + 1, 3, none⟩ (.slice lA l.length lc)).setCell ⟨w.heap.size + 1, 4, none⟩ (.slice none 0 0)) = WF at *
   have hG : Blk WF (w.heap.size + 1) #[.int .i64 room, .int .i64 next, .slice sA sm sc, .slice lA l.length lc, .slice none 0 0] 28 := hF
   have l0 := hG.cell 0 (.int .i64 room) rfl
   have l1 := hG.cell 1 (.int .i64 next) rfl
   have l2 := hG.cell 2 (.slice sA sm sc) rfl
   have l3 := hG.cell 3 (.slice lA l.length lc) rfl
   have l4 := hG.cell 4 (.slice none 0 0) rfl
   exact bodyPost_ret (v := .agg #[.int .i64 room, .int .i64 next, .slice sA sm sc, .slice lA l.length lc, .slice none 0 0]) (by simp [results, go_sem, l0, l1, l2, l3, l4]) rfl ⟨_, rfl, by rw [← HFI.out]; exact F0.mono (by omega), FB⟩
end Go.Proofs.YtgjilgecklhglaaGreat
namespace Go.Proofs.YtgjilgecklhglaaGreat
open Go.ChangeShapes Go.WideShapes Go.ChangeAt Go.RowKit Go.PlainAid
set_option linter.unusedVariables false
set_option maxRecDepth 20000 in
set_option maxHeartbeats 8000000 in
theorem specSyncDirV (d : Dsk) (v : Value) (w : World) (B : Nat) (hv : DiskV w B v d) (hf : Fits d) (hw : wtD d ≤ 1048576) (hB : B ≤ w.heap.size) :
  Calls Tryz.prog 11 #[v] w fun e w' => ∃ x, e = .returned (.tuple #[x, .int .i64 (syncDirR d).2]) ∧ DiskO w' w.heap.size x (syncDirR d).1 ∧ Below w.heap.size w w' := by
 have HV : Hid (DiskV w B v d) := hv
 have HF : Hid (Fits d) := hf
 have HB : Hid (B ≤ w.heap.size) := hB
 have HW : Hid (wtD d ≤ 1048576) := hw
 have hlk : ∃ a1 b1 a3 b3 v2, v = .agg #[.int .i64 d.room, .int .i64 d.next, .slice a1 d.nods.length b1, v2, .slice a3 d.movs.length b3] ∧ Lies w B 3 (.slice a1 d.nods.length b1) (nodR d.nods) := by
  obtain ⟨v1, v2, v3, rfl, h1, h2, h3⟩ := hv
  obtain ⟨A1, c1, rfl, _⟩ := nod_look h1
  obtain ⟨A3, c3, rfl, _⟩ := mov_look h3
  exact ⟨A1, c1, A3, c3, v2, rfl, h1⟩
 obtain ⟨a1, b1, a3, b3, v2, rfl, hl1⟩ := hlk
 have HL1 : Hid (Lies w B 3 (.slice a1 d.nods.length b1) (nodR d.nods)) := hl1
 have q1 : (d.nods.length : Int) ≤ 9223372036854775807 := by have := hf.n; unfold maxLen at this; omega
 have q3 : (d.movs.length : Int) ≤ 9223372036854775807 := by have := hf.m; unfold maxLen at this; omega
 clear hf hB hw hv hl1
 go_enter Tryz.func11, Tryz.ntmps11
 go_wp2_with fail
 have hb0 := below_alloc2' w (.cells #[.int .i64 d.room, .int .i64 d.next, .slice a1 d.nods.length b1, v2, .slice a3 d.movs.length b3] 28) (.cells #[.int .i64 0, .int .i64 0, .slice none 0 0, .slice none 0 0, .slice none 0 0] 28)
 have bA := (Blk.new w #[.int .i64 d.room, .int .i64 d.next, .slice a1 d.nods.length b1, v2, .slice a3 d.movs.length b3] 28).alloc (.cells #[.int .i64 0, .int .i64 0, .slice none 0 0, .slice none 0 0, .slice none 0 0] 28)
 have bR := Blk.new (w.alloc (.cells #[.int .i64 d.room, .int .i64 d.next, .slice a1 d.nods.length b1, v2, .slice a3 d.movs.length b3] 28)) #[.int .i64 0, .int .i64 0, .slice none 0 0, .slice none 0 0, .slice none 0 0] 28
 simp only [World.size_alloc] at bR
 generalize (w.alloc (.cells #[.int .i64 d.room, .int .i64 d.next, .slice a1 d.nods.length b1, v2, .slice a3 d.movs.length b3] 28)).alloc (.cells #[.int .i64 0, .int .i64 0, .slice none 0 0, .slice none 0 0, .slice none 0 0] 28) = W at *
 have B0 : Hid (Below w.heap.size w W) := hb0
 have K0 : Hid (Blk W w.heap.size #[.int .i64 d.room, .int .i64 d.next, .slice a1 d.nods.length b1, v2, .slice a3 d.movs.length b3] 28) := bA
 have R0 : Hid (Blk W (w.heap.size + 1) #[.int .i64 0, .int .i64 0, .slice none 0 0, .slice none 0 0, .slice none 0 0] 28) := bR
 clear hb0 bA bR
 refine (specOkV d _ W B (HV.out.on (B0.out.mono HB.out)) HF.out HW.out (Nat.le_trans HB.out B0.out.size)).mono ?_
 rintro e w1 ⟨rfl, hb1⟩
 have B1 : Hid (Below w.heap.size w w1) := B0.out.trans (hb1.mono B0.out.size)
 have K1 : Hid (Blk w1 w.heap.size #[.int .i64 d.room, .int .i64 d.next, .slice a1 d.nods.length b1, v2, .slice a3 d.movs.length b3] 28) := K0.out.on hb1 K0.out.lt
 have R1 : Hid (Blk w1 (w.heap.size + 1) #[.int .i64 0, .int .i64 0, .slice none 0 0, .slice none 0 0, .slice none 0 0] 28) := R0.out.on hb1 R0.out.lt
 clear hb1 K0 R0
 have hg : w.heap.size ≤ w.heap.size + 1 := by omega
 cases hok : diskOk d with
 | false =>
  have hRR : syncDirR d = (zeroD, 1) := syncDirR_no hok
  clear hok
  have g0 := R1.out.cell 0 _ rfl
  have f0 := R1.out.free 0
  have g1 := R1.out.cell 1 _ rfl
  have f1 := R1.out.free 1
  have g2 := R1.out.cell 2 _ rfl
  have f2 := R1.out.free 2
  have g3 := R1.out.cell 3 _ rfl
  have f3 := R1.out.free 3
  have g4 := R1.out.cell 4 _ rfl
  have f4 := R1.out.free 4
  go_wp2_with fail
  have hB := B1.out
  have FB := (((((hB.setCell hg (.int .i64 0) (p := ⟨_, 0, none⟩)).setCell hg (.int .i64 0) (p := ⟨_, 1, none⟩)).setCell hg (.slice none 0 0) (p := ⟨_, 2, none⟩)).setCell hg (.slice none 0 0) (p := ⟨_, 3, none⟩)).setCell hg (.slice none 0 0) (p := ⟨_, 4, none⟩))
  have hF := (((((R1.out.set 0 (.int .i64 0)).set 1 (.int .i64 0)).set 2 (.slice none 0 0)).set 3 (.slice none 0 0)).set 4 (.slice none 0 0))
  clear g0 f0 g1 f1 g2 f2 g3 f3 g4 f4
  generalize (((((w1.setCell ⟨w.heap.size + 1, 0, none⟩ (.int .i64 0)).setCell ⟨w.heap.size + 1, 1, none⟩ (.int .i64 0)).setCell ⟨w.heap.size + 1, 2, none⟩ (.slice none 0 0)).setCell ⟨w.heap.size + 1, 3, none⟩ (.slice none 0 0)).setCell ⟨w.heap.size + 1, 4, none⟩ (.slice none 0 0)) = WF at *
  have hG : Blk WF (w.heap.size + 1) #[.int .i64 0, .int .i64 0, .slice none 0 0, .slice none 0 0, .slice none 0 0] 28 := hF
  have l0 := hG.cell 0 (.int .i64 0) rfl
  have l1 := hG.cell 1 (.int .i64 0) rfl
  have l2 := hG.cell 2 (.slice none 0 0) rfl
  have l3 := hG.cell 3 (.slice none 0 0) rfl
  have l4 := hG.cell 4 (.slice none 0 0) rfl
  exact bodyPost_ret (v := .tuple #[.agg #[.int .i64 0, .int .i64 0, .slice none 0 0, .slice none 0 0, .slice none 0 0], .int .i64 1]) (by simp [results, go_sem, l0, l1, l2, l3, l4]) rfl (by rw [hRR]; exact ⟨_, rfl, ⟨_, _, _, rfl, Owns.nil _ _ _ _, Owns.nil _ _ _ _, Owns.nil _ _ _ _⟩, FB⟩)
 | true =>
  have hR := (sizeOk_iff d).1 ((whole_iff d).1 hok).size
  have HSZ : Hid (d.dir.length + d.movs.length ≤ 1048575 ∧ d.nods.length ≤ 10 ∧ (now d).length ≤ 1048576) := by
   have h2 := names_len d.dir d.movs
   have := hR.l; have := hR.m; have := hR.n
   unfold Hid now
   omega
  have hRR : Hid (syncDirR d = (⟨d.room, d.next, keptN (now d) d.nods, now d, []⟩, 0)) := syncDirR_yes hok
  clear hR hok
  have cN := namesV d (.agg #[.int .i64 d.room, .int .i64 d.next, .slice a1 d.nods.length b1, v2, .slice a3 d.movs.length b3]) (d.movs.length : Int) w1.drew B (HV.out.on (B1.out.drew.mono HB.out)) HF.out HSZ.out.1 (Nat.le_trans HB.out B1.out.size)
  rw [Int.toNat_natCast, List.take_length] at cN
  have S0 : Hid (w1.drew.cell? ⟨w.heap.size, 0, none⟩ = some (.int .i64 d.room) ∧ w1.drew.cell? ⟨w.heap.size, 1, none⟩ = some (.int .i64 d.next) ∧ w1.drew.cell? ⟨w.heap.size, 2, none⟩ = some (.slice a1 d.nods.length b1) ∧ w1.drew.cell? ⟨w.heap.size, 3, none⟩ = some v2 ∧ w1.drew.cell? ⟨w.heap.size, 4, none⟩ = some (.slice a3 d.movs.length b3)) := ⟨K1.out.cell 0 _ rfl, K1.out.cell 1 _ rfl, K1.out.cell 2 _ rfl, K1.out.cell 3 _ rfl, K1.out.cell 4 _ rfl⟩
  go_wp2_with fail
  refine wp_region_until (fun w' => w'.cell? ⟨w.heap.size, 0, none⟩ = some (.int .i64 d.room) ∧ w'.cell? ⟨w.heap.size, 1, none⟩ = some (.int .i64 d.next) ∧ w'.cell? ⟨w.heap.size, 2, none⟩ = some (.slice a1 d.nods.length b1) ∧ w'.cell? ⟨w.heap.size, 3, none⟩ = some v2 ∧ w'.cell? ⟨w.heap.size, 4, none⟩ = some (.slice a3 d.movs.length b3)) (fun i => i == 9) 11 (by rfl) (by kernel_rfl) ?_
  refine until_take 0 (v := ?va0) (by rfl) (by kernel_rfl) (by exact fun _ _ _ h => h) (by rfl) ?hya0 S0.out ?ra0
  case hya0 =>
   intro w hSw
   try dsimp only at hSw
   go_simp
   try with_reducible rfl
  try simp only [Act.put, zQ1, zQ2, zQ3]
  refine until_take 1 (v := ?va1) (by rfl) (by kernel_rfl) (by exact fun _ _ _ h => h) (by rfl) ?hya1 S0.out ?ra1
  case hya1 =>
   intro w hSw
   try dsimp only at hSw
   go_simp
   try with_reducible rfl
  try simp only [Act.put, zQ1, zQ2, zQ3]
  refine until_take 2 (v := ?va2) (by rfl) (by kernel_rfl) (by exact fun _ _ _ h => h) (by rfl) ?hya2 S0.out ?ra2
  case hya2 =>
   intro w hSw
   try dsimp only at hSw
   go_simp
   try with_reducible rfl
  try simp only [Act.put, zQ1, zQ2, zQ3]
  refine until_take 3 (v := ?va3) (by rfl) (by kernel_rfl) (by exact fun _ _ _ h => h) (by rfl) ?hya3 S0.out ?ra3
  case hya3 =>
   intro w hSw
   try dsimp only at hSw
   go_simp
   try with_reducible rfl
  try simp only [Act.put, zQ1, zQ2, zQ3]
  refine until_take 4 (v := ?va4) (by rfl) (by kernel_rfl) (by exact fun _ _ _ h => h) (by rfl) ?hya4 S0.out ?ra4
  case hya4 =>
   intro w hSw
   try dsimp only at hSw
   go_simp
   try with_reducible rfl
  try simp only [Act.put, zQ1, zQ2, zQ3]
  refine until_take 6 (v := ?va6) (by rfl) (by kernel_rfl) (by exact fun _ _ _ h => h) (by rfl) ?hya6 S0.out ?ra6
  case hya6 =>
   intro w hSw
   try dsimp only at hSw
   go_simp
   try with_reducible rfl
  try simp only [Act.put, zQ1, zQ2, zQ3]
  refine until_take 7 (v := ?va7) (by rfl) (by kernel_rfl) (by exact fun _ _ _ h => h) (by rfl) ?hya7 S0.out ?ra7
  case hya7 =>
   intro w hSw
   try dsimp only at hSw
   go_simp
   try with_reducible rfl
  try simp only [Act.put, zQ1, zQ2, zQ3]
  refine uNe 5 (fun K hK => ?_)
  go_simp
  refine cN.mono ?_
  rintro e w2 ⟨u2, rfl, hO2, hb2⟩
  have hb21 : Below w1.heap.size w1 w2 := (Below.refl _ w1).drew.trans hb2
  have B2 : Hid (Below w.heap.size w w2) := B1.out.trans (hb21.mono B1.out.size)
  have K2 : Hid (Blk w2 w.heap.size #[.int .i64 d.room, .int .i64 d.next, .slice a1 d.nods.length b1, v2, .slice a3 d.movs.length b3] 28) := K1.out.on hb21 K1.out.lt
  have R2 : Hid (Blk w2 (w.heap.size + 1) #[.int .i64 0, .int .i64 0, .slice none 0 0, .slice none 0 0, .slice none 0 0] 28) := R1.out.on hb21 R1.out.lt
  obtain ⟨A2, m2, k2, rfl⟩ := hO2.shape
  have O2 : Hid (Owns w2 w.heap.size 49 2 (.slice A2 m2 k2) (lnkR (now d))) := hO2.mono B1.out.size
  clear hb2 hb21 hO2 cN
  go_wp2_with fail
  refine hK.out _ _ (fun _ _ => ⟨K2.out.cell 0 _ rfl, K2.out.cell 1 _ rfl, K2.out.cell 2 _ rfl, K2.out.cell 3 _ rfl, K2.out.cell 4 _ rfl⟩) ?_
  clear hK K
  try simp only [Act.put, zQ1, zQ2, zQ3]
  have cS := settledV d.room d.next (.slice a1 d.nods.length b1) v2 (.slice a3 d.movs.length b3) (.slice A2 m2 k2) (.slice a1 d.nods.length b1) (now d) d.nods w2 w2.heap.size O2.out.lies ((HL1.out.on (B2.out.mono HB.out)).mono (Nat.le_trans HB.out B2.out.size)) HSZ.out.2.2 (by have := HSZ.out; omega) (Nat.le_refl _)
  refine uNe 8 (fun K hK => ?_)
  go_simp
  refine cS.mono ?_
  rintro e w3 ⟨u3, rfl, hO3, hb3⟩
  have B3 : Hid (Below w.heap.size w w3) := B2.out.trans (hb3.mono B2.out.size)
  have K3 : Hid (Blk w3 w.heap.size #[.int .i64 d.room, .int .i64 d.next, .slice a1 d.nods.length b1, v2, .slice a3 d.movs.length b3] 28) := K2.out.on hb3 K2.out.lt
  have R3 : Hid (Blk w3 (w.heap.size + 1) #[.int .i64 0, .int .i64 0, .slice none 0 0, .slice none 0 0, .slice none 0 0] 28) := R2.out.on hb3 R2.out.lt
  obtain ⟨A1, m1, k1, rfl⟩ := hO3.shape
  have O1 : Hid (Owns w3 w.heap.size 47 3 (.slice A1 m1 k1) (nodR (keptN (now d) d.nods))) := hO3.mono B2.out.size
  have O2b : Hid (Owns w3 w.heap.size 49 2 (.slice A2 m2 k2) (lnkR (now d))) := O2.out.on hb3
  clear hb3 hO3 cS
  go_wp2_with fail
  refine hK.out _ _ (fun _ _ => ⟨K3.out.cell 0 _ rfl, K3.out.cell 1 _ rfl, K3.out.cell 2 _ rfl, K3.out.cell 3 _ rfl, K3.out.cell 4 _ rfl⟩) ?_
  clear hK K
  try simp only [Act.put, zQ1, zQ2, zQ3]
  have g0 := R3.out.cell 0 _ rfl
  have f0 := R3.out.free 0
  have g1 := R3.out.cell 1 _ rfl
  have f1 := R3.out.free 1
  have g2 := R3.out.cell 2 _ rfl
  have f2 := R3.out.free 2
  have g3 := R3.out.cell 3 _ rfl
  have f3 := R3.out.free 3
  have g4 := R3.out.cell 4 _ rfl
  have f4 := R3.out.free 4
  refine uNe 9 (fun K hK => ?_)
  go_simp
  refine hK.out _ _ (fun h => by cases h) ?_
  clear hK K
  try simp only [Act.put, zQ1, zQ2, zQ3]
  refine until_pure 10 (v := ?vb10) (by rfl) (by kernel_rfl) (by exact fun _ _ _ h => h) (by rfl) ?hyb10 ?rb10
  case hyb10 =>
   intro w
   go_simp
   try with_reducible rfl
  try simp only [Act.put, zQ1, zQ2, zQ3]
  refine until_done (by kernel_rfl) ?_ _
  go_wp2_with fail
  have hB := B3.out
  have FB := (((((hB.setCell hg (.int .i64 d.room) (p := ⟨_, 0, none⟩)).setCell hg (.int .i64 d.next) (p := ⟨_, 1, none⟩)).setCell hg (.slice A1 m1 k1) (p := ⟨_, 2, none⟩)).setCell hg (.slice A2 m2 k2) (p := ⟨_, 3, none⟩)).setCell hg (.slice none 0 0) (p := ⟨_, 4, none⟩))
  have hF := (((((R3.out.set 0 (.int .i64 d.room)).set 1 (.int .i64 d.next)).set 2 (.slice A1 m1 k1)).set 3 (.slice A2 m2 k2)).set 4 (.slice none 0 0))
  have mm0 := O1.out.notBlk R3.out (by decide)
  have F0 := (((((O1.out.other mm0 0 (.int .i64 d.room)).other mm0 1 (.int .i64 d.next)).other mm0 2 (.slice A1 m1 k1)).other mm0 3 (.slice A2 m2 k2)).other mm0 4 (.slice none 0 0))
  have mm1 := O2b.out.notBlk R3.out (by decide)
  have F1 := (((((O2b.out.other mm1 0 (.int .i64 d.room)).other mm1 1 (.int .i64 d.next)).other mm1 2 (.slice A1 m1 k1)).other mm1 3 (.slice A2 m2 k2)).other mm1 4 (.slice none 0 0))
  clear g0 f0 g1 f1 g2 f2 g3 f3 g4 f4
  generalize (((((w3.setCell ⟨w.heap.size + 1, 0, none⟩ (.int .i64 d.room)).setCell ⟨w.heap.size + 1, 1, none⟩ (.int .i64 d.next)).setCell ⟨w.heap.size + 1, 2, none⟩ (.slice A1 m1 k1)).setCell ⟨w.heap.size + 1, 3, none⟩ (.slice A2 m2 k2)).setCell ⟨w.heap.size + 1, 4, none⟩ (.slice none 0 0)) = WF at *
  have hG : Blk WF (w.heap.size + 1) #[.int .i64 d.room, .int .i64 d.next, .slice A1 m1 k1, .slice A2 m2 k2, .slice none 0 0] 28 := hF
  have l0 := hG.cell 0 (.int .i64 d.room) rfl
  have l1 := hG.cell 1 (.int .i64 d.next) rfl
  have l2 := hG.cell 2 (.slice A1 m1 k1) rfl
  have l3 := hG.cell 3 (.slice A2 m2 k2) rfl
  have l4 := hG.cell 4 (.slice none 0 0) rfl
  exact bodyPost_ret (v := .tuple #[.agg #[.int .i64 d.room, .int .i64 d.next, .slice A1 m1 k1, .slice A2 m2 k2, .slice none 0 0], .int .i64 0]) (by simp [results, go_sem, l0, l1, l2, l3, l4]) rfl (by rw [hRR.out]; exact ⟨_, rfl, ⟨_, _, _, rfl, F0, F1, Owns.nil _ _ _ _⟩, FB⟩)
end Go.Proofs.YtgjilgecklhglaaGreat
namespace Go.Proofs.YtgjilgecklhglaaGreat
open Go.ChangeShapes Go.WideShapes Go.ChangeAt Go.RowKit Go.PlainAid
set_option linter.unusedVariables false
set_option maxRecDepth 20000 in
set_option maxHeartbeats 8000000 in
theorem specMakeV (d : Dsk) (v : Value) (name : ByteArray) (w : World) (B : Nat) (hv : DiskV w B v d) (hf : Fits d) (hw : wtD d ≤ 1048576) (hB : B ≤ w.heap.size) (hs : name.size ≤ maxLen) :
  Calls Tryz.prog 9 #[v, .string name] w fun e w' => ∃ x, e = .returned (.tuple #[x, .int .i64 (makeR d name).2]) ∧ DiskO w' w.heap.size x (makeR d name).1 ∧ Below w.heap.size w w' := by
 have HV : Hid (DiskV w B v d) := hv
 have HF : Hid (Fits d) := hf
 have HB : Hid (B ≤ w.heap.size) := hB
 have HW : Hid (wtD d ≤ 1048576) := hw
 have cN := fun wx => nameV name wx (by unfold maxLen at hs; omega)
 have hlk : ∃ A1 c1 A3 c3 v2, v = .agg #[.int .i64 d.room, .int .i64 d.next, .slice A1 d.nods.length c1, v2, .slice A3 d.movs.length c3] := by
  obtain ⟨v1, v2, v3, rfl, h1, h2, h3⟩ := hv
  obtain ⟨A1, c1, rfl, _⟩ := nod_look h1
  obtain ⟨A3, c3, rfl, _⟩ := mov_look h3
  exact ⟨A1, c1, A3, c3, v2, rfl⟩
 obtain ⟨a1, b1, a3, b3, v2, rfl⟩ := hlk
 have q1 : (d.nods.length : Int) ≤ 9223372036854775807 := by have := hf.n; unfold maxLen at this; omega
 have q3 : (d.movs.length : Int) ≤ 9223372036854775807 := by have := hf.m; unfold maxLen at this; omega
 clear hf hB hw hs hv
 go_enter Tryz.func9, Tryz.ntmps9
 go_wp2_with fail
 have hb0 := below_alloc2' w (.cells #[.int .i64 d.room, .int .i64 d.next, .slice a1 d.nods.length b1, v2, .slice a3 d.movs.length b3] 28) (.cells #[.int .i64 0, .int .i64 0, .slice none 0 0, .slice none 0 0, .slice none 0 0] 28)
 have bA := (Blk.new w #[.int .i64 d.room, .int .i64 d.next, .slice a1 d.nods.length b1, v2, .slice a3 d.movs.length b3] 28).alloc (.cells #[.int .i64 0, .int .i64 0, .slice none 0 0, .slice none 0 0, .slice none 0 0] 28)
 have bR := Blk.new (w.alloc (.cells #[.int .i64 d.room, .int .i64 d.next, .slice a1 d.nods.length b1, v2, .slice a3 d.movs.length b3] 28)) #[.int .i64 0, .int .i64 0, .slice none 0 0, .slice none 0 0, .slice none 0 0] 28
 simp only [World.size_alloc] at bR
 generalize (w.alloc (.cells #[.int .i64 d.room, .int .i64 d.next, .slice a1 d.nods.length b1, v2, .slice a3 d.movs.length b3] 28)).alloc (.cells #[.int .i64 0, .int .i64 0, .slice none 0 0, .slice none 0 0, .slice none 0 0] 28) = W at *
 have B0 : Hid (Below w.heap.size w W) := hb0
 have K0 : Hid (Blk W w.heap.size #[.int .i64 d.room, .int .i64 d.next, .slice a1 d.nods.length b1, v2, .slice a3 d.movs.length b3] 28) := bA
 have R0 : Hid (Blk W (w.heap.size + 1) #[.int .i64 0, .int .i64 0, .slice none 0 0, .slice none 0 0, .slice none 0 0] 28) := bR
 clear hb0 bA bR
 refine (specOkV d _ W B (HV.out.on (B0.out.mono HB.out)) HF.out HW.out (Nat.le_trans HB.out B0.out.size)).mono ?_
 rintro e w1 ⟨rfl, hb1⟩
 have B1 : Hid (Below w.heap.size w w1) := B0.out.trans (hb1.mono B0.out.size)
 have K1 : Hid (Blk w1 w.heap.size #[.int .i64 d.room, .int .i64 d.next, .slice a1 d.nods.length b1, v2, .slice a3 d.movs.length b3] 28) := K0.out.on hb1 K0.out.lt
 have R1 : Hid (Blk w1 (w.heap.size + 1) #[.int .i64 0, .int .i64 0, .slice none 0 0, .slice none 0 0, .slice none 0 0] 28) := R0.out.on hb1 R0.out.lt
 clear hb1 K0 R0
 have hg : w.heap.size ≤ w.heap.size + 1 := by omega
 cases hok : diskOk d with
 | false =>
  have hRR : makeR d name = (zeroD, 1) := makeR_no hok
  clear hok
  have g0 := R1.out.cell 0 _ rfl
  have f0 := R1.out.free 0
  have g1 := R1.out.cell 1 _ rfl
  have f1 := R1.out.free 1
  have g2 := R1.out.cell 2 _ rfl
  have f2 := R1.out.free 2
  have g3 := R1.out.cell 3 _ rfl
  have f3 := R1.out.free 3
  have g4 := R1.out.cell 4 _ rfl
  have f4 := R1.out.free 4
  go_wp2_with fail
  have hB := B1.out
  have FB := (((((hB.setCell hg (.int .i64 0) (p := ⟨_, 0, none⟩)).setCell hg (.int .i64 0) (p := ⟨_, 1, none⟩)).setCell hg (.slice none 0 0) (p := ⟨_, 2, none⟩)).setCell hg (.slice none 0 0) (p := ⟨_, 3, none⟩)).setCell hg (.slice none 0 0) (p := ⟨_, 4, none⟩))
  have hF := (((((R1.out.set 0 (.int .i64 0)).set 1 (.int .i64 0)).set 2 (.slice none 0 0)).set 3 (.slice none 0 0)).set 4 (.slice none 0 0))
  clear g0 f0 g1 f1 g2 f2 g3 f3 g4 f4
  generalize (((((w1.setCell ⟨w.heap.size + 1, 0, none⟩ (.int .i64 0)).setCell ⟨w.heap.size + 1, 1, none⟩ (.int .i64 0)).setCell ⟨w.heap.size + 1, 2, none⟩ (.slice none 0 0)).setCell ⟨w.heap.size + 1, 3, none⟩ (.slice none 0 0)).setCell ⟨w.heap.size + 1, 4, none⟩ (.slice none 0 0)) = WF at *
  have hG : Blk WF (w.heap.size + 1) #[.int .i64 0, .int .i64 0, .slice none 0 0, .slice none 0 0, .slice none 0 0] 28 := hF
  have l0 := hG.cell 0 (.int .i64 0) rfl
  have l1 := hG.cell 1 (.int .i64 0) rfl
  have l2 := hG.cell 2 (.slice none 0 0) rfl
  have l3 := hG.cell 3 (.slice none 0 0) rfl
  have l4 := hG.cell 4 (.slice none 0 0) rfl
  exact bodyPost_ret (v := .tuple #[.agg #[.int .i64 0, .int .i64 0, .slice none 0 0, .slice none 0 0, .slice none 0 0], .int .i64 1]) (by simp [results, go_sem, l0, l1, l2, l3, l4]) rfl (by rw [hRR]; exact ⟨_, rfl, ⟨_, _, _, rfl, Owns.nil _ _ _ _, Owns.nil _ _ _ _, Owns.nil _ _ _ _⟩, FB⟩)
 | true =>
  have hR := (sizeOk_iff d).1 ((whole_iff d).1 hok).size
  have HSZ : Hid (d.dir.length + d.movs.length ≤ 1048575 ∧ d.nods.length ≤ 10 ∧ d.dir.length ≤ 1048576 ∧ d.movs.length ≤ 1048576) := by
   have := hR.l; have := hR.m; have := hR.n
   unfold Hid
   omega
  have HNX : Hid (1 ≤ d.next ∧ d.next ≤ 1000000) := ⟨hR.x0, hR.x1⟩
  have hRY : Hid (makeR d name = (makeD d name, makeC d name)) := makeR_yes hok
  clear hR hok
  go_wp2_with fail
  refine (cN _).mono ?_
  rintro e w0 ⟨rfl, rfl⟩
  cases hno : nameOk name with
  | false =>
   have hRR : Hid (makeR d name = (d, 1)) := by unfold Hid; rw [hRY.out, makeD_no (by rw [makeC_bad hno]; omega), makeC_bad hno]
   clear hno cN
   have y0 := K1.out.cell 0 _ rfl
   have y1 := K1.out.cell 1 _ rfl
   have y2 := K1.out.cell 2 _ rfl
   have y3 := K1.out.cell 3 _ rfl
   have y4 := K1.out.cell 4 _ rfl
   go_wp2_with fail
   refine (copyV d (.agg #[.int .i64 d.room, .int .i64 d.next, .slice a1 d.nods.length b1, v2, .slice a3 d.movs.length b3]) w1 B (HV.out.on (B1.out.mono HB.out)) (by have := HSZ.out; omega) HSZ.out.2.2.1 HSZ.out.2.2.2 (Nat.le_trans HB.out B1.out.size)).mono ?_
   rintro e w9 ⟨x, rfl, hO9, hb9⟩
   clear y0 y1 y2 y3 y4
   have hsz9 : Hid (w1.heap.size ≤ w9.heap.size) := hb9.size
   have B9 : Hid (Below w.heap.size w w9) := B1.out.trans (hb9.mono B1.out.size)
   have K9 : Hid (Blk w9 w.heap.size #[.int .i64 d.room, .int .i64 d.next, .slice a1 d.nods.length b1, v2, .slice a3 d.movs.length b3] 28) := K1.out.on hb9 K1.out.lt
   have R9 : Hid (Blk w9 (w.heap.size + 1) #[.int .i64 0, .int .i64 0, .slice none 0 0, .slice none 0 0, .slice none 0 0] 28) := R1.out.on hb9 R1.out.lt
   obtain ⟨x1, x2, x3, rfl, o1, o2, o3⟩ := hO9
   obtain ⟨A1, m1, k1, rfl⟩ := o1.shape
   obtain ⟨A2, m2, k2, rfl⟩ := o2.shape
   obtain ⟨A3, m3, k3, rfl⟩ := o3.shape
   have O1 : Hid (Owns w9 w.heap.size 47 3 (.slice A1 m1 k1) (nodR d.nods)) := o1.mono B1.out.size
   have O2 : Hid (Owns w9 w.heap.size 49 2 (.slice A2 m2 k2) (lnkR d.dir)) := o2.mono B1.out.size
   have O3 : Hid (Owns w9 w.heap.size 51 4 (.slice A3 m3 k3) (movR d.movs)) := o3.mono B1.out.size
   clear hb9 o1 o2 o3 K9
   have g0 := R9.out.cell 0 _ rfl
   have f0 := R9.out.free 0
   have g1 := R9.out.cell 1 _ rfl
   have f1 := R9.out.free 1
   have g2 := R9.out.cell 2 _ rfl
   have f2 := R9.out.free 2
   have g3 := R9.out.cell 3 _ rfl
   have f3 := R9.out.free 3
   have g4 := R9.out.cell 4 _ rfl
   have f4 := R9.out.free 4
   go_wp2_with fail
   have hB := B9.out
   have FB := (((((hB.setCell hg (.int .i64 d.room) (p := ⟨_, 0, none⟩)).setCell hg (.int .i64 d.next) (p := ⟨_, 1, none⟩)).setCell hg (.slice A1 m1 k1) (p := ⟨_, 2, none⟩)).setCell hg (.slice A2 m2 k2) (p := ⟨_, 3, none⟩)).setCell hg (.slice A3 m3 k3) (p := ⟨_, 4, none⟩))
   have hF := (((((R9.out.set 0 (.int .i64 d.room)).set 1 (.int .i64 d.next)).set 2 (.slice A1 m1 k1)).set 3 (.slice A2 m2 k2)).set 4 (.slice A3 m3 k3))
   have mm0 := O1.out.notBlk R9.out (by decide)
   have F0 := (((((O1.out.other mm0 0 (.int .i64 d.room)).other mm0 1 (.int .i64 d.next)).other mm0 2 (.slice A1 m1 k1)).other mm0 3 (.slice A2 m2 k2)).other mm0 4 (.slice A3 m3 k3))
   have mm1 := O2.out.notBlk R9.out (by decide)
   have F1 := (((((O2.out.other mm1 0 (.int .i64 d.room)).other mm1 1 (.int .i64 d.next)).other mm1 2 (.slice A1 m1 k1)).other mm1 3 (.slice A2 m2 k2)).other mm1 4 (.slice A3 m3 k3))
   have mm2 := O3.out.notBlk R9.out (by decide)
   have F2 := (((((O3.out.other mm2 0 (.int .i64 d.room)).other mm2 1 (.int .i64 d.next)).other mm2 2 (.slice A1 m1 k1)).other mm2 3 (.slice A2 m2 k2)).other mm2 4 (.slice A3 m3 k3))
   clear g0 f0 g1 f1 g2 f2 g3 f3 g4 f4
   generalize (((((w9.setCell ⟨w.heap.size + 1, 0, none⟩ (.int .i64 d.room)).setCell ⟨w.heap.size + 1, 1, none⟩ (.int .i64 d.next)).setCell ⟨w.heap.size + 1, 2, none⟩ (.slice A1 m1 k1)).setCell ⟨w.heap.size + 1, 3, none⟩ (.slice A2 m2 k2)).setCell ⟨w.heap.size + 1, 4, none⟩ (.slice A3 m3 k3)) = WF at *
   have hG : Blk WF (w.heap.size + 1) #[.int .i64 d.room, .int .i64 d.next, .slice A1 m1 k1, .slice A2 m2 k2, .slice A3 m3 k3] 28 := hF
   have l0 := hG.cell 0 (.int .i64 d.room) rfl
   have l1 := hG.cell 1 (.int .i64 d.next) rfl
   have l2 := hG.cell 2 (.slice A1 m1 k1) rfl
   have l3 := hG.cell 3 (.slice A2 m2 k2) rfl
   have l4 := hG.cell 4 (.slice A3 m3 k3) rfl
   exact bodyPost_ret (v := .tuple #[.agg #[.int .i64 d.room, .int .i64 d.next, .slice A1 m1 k1, .slice A2 m2 k2, .slice A3 m3 k3], .int .i64 1]) (by simp [results, go_sem, l0, l1, l2, l3, l4]) rfl (by rw [hRR.out]; exact ⟨_, rfl, ⟨_, _, _, rfl, F0, F1, F2⟩, FB⟩)
  | true =>
   have y0 := K1.out.cell 0 _ rfl
   have y1 := K1.out.cell 1 _ rfl
   have y2 := K1.out.cell 2 _ rfl
   have y3 := K1.out.cell 3 _ rfl
   have y4 := K1.out.cell 4 _ rfl
   go_wp2_with fail
   refine (findV d (.agg #[.int .i64 d.room, .int .i64 d.next, .slice a1 d.nods.length b1, v2, .slice a3 d.movs.length b3]) name w1 B (HV.out.on (B1.out.mono HB.out)) HF.out HSZ.out.1 (by have := HSZ.out; omega) (Nat.le_trans HB.out B1.out.size)).mono ?_
   rintro e w2 ⟨rfl, hb2⟩
   have B2 : Hid (Below w.heap.size w w2) := B1.out.trans (hb2.mono B1.out.size)
   have K2 : Hid (Blk w2 w.heap.size #[.int .i64 d.room, .int .i64 d.next, .slice a1 d.nods.length b1, v2, .slice a3 d.movs.length b3] 28) := K1.out.on hb2 K1.out.lt
   have R2 : Hid (Blk w2 (w.heap.size + 1) #[.int .i64 0, .int .i64 0, .slice none 0 0, .slice none 0 0, .slice none 0 0] 28) := R1.out.on hb2 R1.out.lt
   clear hb2 K1 R1 y0 y1 y2 y3 y4 cN
   cases hfi : find d name with
   | some j =>
    have hRR : Hid (makeR d name = (d, 3)) := by unfold Hid; rw [hRY.out, makeD_no (by rw [makeC_there hno hfi]; omega), makeC_there hno hfi]
    have t0 : idxV (some j) = (j : Int) := rfl
    rw [t0]
    have t1 : (0 : Int) ≤ (j : Int) := by omega
    clear hno hfi t0
    have y0 := K2.out.cell 0 _ rfl
    have y1 := K2.out.cell 1 _ rfl
    have y2 := K2.out.cell 2 _ rfl
    have y3 := K2.out.cell 3 _ rfl
    have y4 := K2.out.cell 4 _ rfl
    go_wp2_with fail
    refine (copyV d (.agg #[.int .i64 d.room, .int .i64 d.next, .slice a1 d.nods.length b1, v2, .slice a3 d.movs.length b3]) w2 B (HV.out.on (B2.out.mono HB.out)) (by have := HSZ.out; omega) HSZ.out.2.2.1 HSZ.out.2.2.2 (Nat.le_trans HB.out B2.out.size)).mono ?_
    rintro e w9 ⟨x, rfl, hO9, hb9⟩
    clear y0 y1 y2 y3 y4
    have hsz9 : Hid (w2.heap.size ≤ w9.heap.size) := hb9.size
    have B9 : Hid (Below w.heap.size w w9) := B2.out.trans (hb9.mono B2.out.size)
    have K9 : Hid (Blk w9 w.heap.size #[.int .i64 d.room, .int .i64 d.next, .slice a1 d.nods.length b1, v2, .slice a3 d.movs.length b3] 28) := K2.out.on hb9 K2.out.lt
    have R9 : Hid (Blk w9 (w.heap.size + 1) #[.int .i64 0, .int .i64 0, .slice none 0 0, .slice none 0 0, .slice none 0 0] 28) := R2.out.on hb9 R2.out.lt
    obtain ⟨x1, x2, x3, rfl, o1, o2, o3⟩ := hO9
    obtain ⟨A1, m1, k1, rfl⟩ := o1.shape
    obtain ⟨A2, m2, k2, rfl⟩ := o2.shape
    obtain ⟨A3, m3, k3, rfl⟩ := o3.shape
    have O1 : Hid (Owns w9 w.heap.size 47 3 (.slice A1 m1 k1) (nodR d.nods)) := o1.mono B2.out.size
    have O2 : Hid (Owns w9 w.heap.size 49 2 (.slice A2 m2 k2) (lnkR d.dir)) := o2.mono B2.out.size
    have O3 : Hid (Owns w9 w.heap.size 51 4 (.slice A3 m3 k3) (movR d.movs)) := o3.mono B2.out.size
    clear hb9 o1 o2 o3 K9
    have g0 := R9.out.cell 0 _ rfl
    have f0 := R9.out.free 0
    have g1 := R9.out.cell 1 _ rfl
    have f1 := R9.out.free 1
    have g2 := R9.out.cell 2 _ rfl
    have f2 := R9.out.free 2
    have g3 := R9.out.cell 3 _ rfl
    have f3 := R9.out.free 3
    have g4 := R9.out.cell 4 _ rfl
    have f4 := R9.out.free 4
    go_wp2_with fail
    have hB := B9.out
    have FB := (((((hB.setCell hg (.int .i64 d.room) (p := ⟨_, 0, none⟩)).setCell hg (.int .i64 d.next) (p := ⟨_, 1, none⟩)).setCell hg (.slice A1 m1 k1) (p := ⟨_, 2, none⟩)).setCell hg (.slice A2 m2 k2) (p := ⟨_, 3, none⟩)).setCell hg (.slice A3 m3 k3) (p := ⟨_, 4, none⟩))
    have hF := (((((R9.out.set 0 (.int .i64 d.room)).set 1 (.int .i64 d.next)).set 2 (.slice A1 m1 k1)).set 3 (.slice A2 m2 k2)).set 4 (.slice A3 m3 k3))
    have mm0 := O1.out.notBlk R9.out (by decide)
    have F0 := (((((O1.out.other mm0 0 (.int .i64 d.room)).other mm0 1 (.int .i64 d.next)).other mm0 2 (.slice A1 m1 k1)).other mm0 3 (.slice A2 m2 k2)).other mm0 4 (.slice A3 m3 k3))
    have mm1 := O2.out.notBlk R9.out (by decide)
    have F1 := (((((O2.out.other mm1 0 (.int .i64 d.room)).other mm1 1 (.int .i64 d.next)).other mm1 2 (.slice A1 m1 k1)).other mm1 3 (.slice A2 m2 k2)).other mm1 4 (.slice A3 m3 k3))
    have mm2 := O3.out.notBlk R9.out (by decide)
    have F2 := (((((O3.out.other mm2 0 (.int .i64 d.room)).other mm2 1 (.int .i64 d.next)).other mm2 2 (.slice A1 m1 k1)).other mm2 3 (.slice A2 m2 k2)).other mm2 4 (.slice A3 m3 k3))
    clear g0 f0 g1 f1 g2 f2 g3 f3 g4 f4
    generalize (((((w9.setCell ⟨w.heap.size + 1, 0, none⟩ (.int .i64 d.room)).setCell ⟨w.heap.size + 1, 1, none⟩ (.int .i64 d.next)).setCell ⟨w.heap.size + 1, 2, none⟩ (.slice A1 m1 k1)).setCell ⟨w.heap.size + 1, 3, none⟩ (.slice A2 m2 k2)).setCell ⟨w.heap.size + 1, 4, none⟩ (.slice A3 m3 k3)) = WF at *
    have hG : Blk WF (w.heap.size + 1) #[.int .i64 d.room, .int .i64 d.next, .slice A1 m1 k1, .slice A2 m2 k2, .slice A3 m3 k3] 28 := hF
    have l0 := hG.cell 0 (.int .i64 d.room) rfl
    have l1 := hG.cell 1 (.int .i64 d.next) rfl
    have l2 := hG.cell 2 (.slice A1 m1 k1) rfl
    have l3 := hG.cell 3 (.slice A2 m2 k2) rfl
    have l4 := hG.cell 4 (.slice A3 m3 k3) rfl
    exact bodyPost_ret (v := .tuple #[.agg #[.int .i64 d.room, .int .i64 d.next, .slice A1 m1 k1, .slice A2 m2 k2, .slice A3 m3 k3], .int .i64 3]) (by simp [results, go_sem, l0, l1, l2, l3, l4]) rfl (by rw [hRR.out]; exact ⟨_, rfl, ⟨_, _, _, rfl, F0, F1, F2⟩, FB⟩)
   | none =>
    have t0 : idxV none = -1 := rfl
    rw [t0]
    clear t0
    have p0 := K2.out.cell 1 _ rfl
    have p1 := K2.out.cell 2 _ rfl
    have p2 := K2.out.cell 4 _ rfl
    have q10 : (d.nods.length : Int) ≤ 10 := by have := HSZ.out; omega
    have q5 : d.next ≤ 1000000 := HNX.out.2
    by_cases hx1 : 10 ≤ d.nods.length
    ·have hRR : Hid (makeR d name = (d, 4)) := by unfold Hid; rw [hRY.out, makeD_no (by rw [makeC_full hno hfi (.inl hx1)]; omega), makeC_full hno hfi (.inl hx1)]
     have t1 : decide ((10 : Int) ≤ (d.nods.length : Int)) = true := decide_eq_true (by omega)
     clear hno hfi hx1
     have y0 := K2.out.cell 0 _ rfl
     have y1 := K2.out.cell 1 _ rfl
     have y2 := K2.out.cell 2 _ rfl
     have y3 := K2.out.cell 3 _ rfl
     have y4 := K2.out.cell 4 _ rfl
     go_wp2_with fail
     refine (copyV d (.agg #[.int .i64 d.room, .int .i64 d.next, .slice a1 d.nods.length b1, v2, .slice a3 d.movs.length b3]) w2 B (HV.out.on (B2.out.mono HB.out)) (by have := HSZ.out; omega) HSZ.out.2.2.1 HSZ.out.2.2.2 (Nat.le_trans HB.out B2.out.size)).mono ?_
     rintro e w9 ⟨x, rfl, hO9, hb9⟩
     clear y0 y1 y2 y3 y4 p0 p1 p2
     have hsz9 : Hid (w2.heap.size ≤ w9.heap.size) := hb9.size
     have B9 : Hid (Below w.heap.size w w9) := B2.out.trans (hb9.mono B2.out.size)
     have K9 : Hid (Blk w9 w.heap.size #[.int .i64 d.room, .int .i64 d.next, .slice a1 d.nods.length b1, v2, .slice a3 d.movs.length b3] 28) := K2.out.on hb9 K2.out.lt
     have R9 : Hid (Blk w9 (w.heap.size + 1) #[.int .i64 0, .int .i64 0, .slice none 0 0, .slice none 0 0, .slice none 0 0] 28) := R2.out.on hb9 R2.out.lt
     obtain ⟨x1, x2, x3, rfl, o1, o2, o3⟩ := hO9
     obtain ⟨A1, m1, k1, rfl⟩ := o1.shape
     obtain ⟨A2, m2, k2, rfl⟩ := o2.shape
     obtain ⟨A3, m3, k3, rfl⟩ := o3.shape
     have O1 : Hid (Owns w9 w.heap.size 47 3 (.slice A1 m1 k1) (nodR d.nods)) := o1.mono B2.out.size
     have O2 : Hid (Owns w9 w.heap.size 49 2 (.slice A2 m2 k2) (lnkR d.dir)) := o2.mono B2.out.size
     have O3 : Hid (Owns w9 w.heap.size 51 4 (.slice A3 m3 k3) (movR d.movs)) := o3.mono B2.out.size
     clear hb9 o1 o2 o3 K9
     have g0 := R9.out.cell 0 _ rfl
     have f0 := R9.out.free 0
     have g1 := R9.out.cell 1 _ rfl
     have f1 := R9.out.free 1
     have g2 := R9.out.cell 2 _ rfl
     have f2 := R9.out.free 2
     have g3 := R9.out.cell 3 _ rfl
     have f3 := R9.out.free 3
     have g4 := R9.out.cell 4 _ rfl
     have f4 := R9.out.free 4
     go_wp2_with fail
     have hB := B9.out
     have FB := (((((hB.setCell hg (.int .i64 d.room) (p := ⟨_, 0, none⟩)).setCell hg (.int .i64 d.next) (p := ⟨_, 1, none⟩)).setCell hg (.slice A1 m1 k1) (p := ⟨_, 2, none⟩)).setCell hg (.slice A2 m2 k2) (p := ⟨_, 3, none⟩)).setCell hg (.slice A3 m3 k3) (p := ⟨_, 4, none⟩))
     have hF := (((((R9.out.set 0 (.int .i64 d.room)).set 1 (.int .i64 d.next)).set 2 (.slice A1 m1 k1)).set 3 (.slice A2 m2 k2)).set 4 (.slice A3 m3 k3))
     have mm0 := O1.out.notBlk R9.out (by decide)
     have F0 := (((((O1.out.other mm0 0 (.int .i64 d.room)).other mm0 1 (.int .i64 d.next)).other mm0 2 (.slice A1 m1 k1)).other mm0 3 (.slice A2 m2 k2)).other mm0 4 (.slice A3 m3 k3))
     have mm1 := O2.out.notBlk R9.out (by decide)
     have F1 := (((((O2.out.other mm1 0 (.int .i64 d.room)).other mm1 1 (.int .i64 d.next)).other mm1 2 (.slice A1 m1 k1)).other mm1 3 (.slice A2 m2 k2)).other mm1 4 (.slice A3 m3 k3))
     have mm2 := O3.out.notBlk R9.out (by decide)
     have F2 := (((((O3.out.other mm2 0 (.int .i64 d.room)).other mm2 1 (.int .i64 d.next)).other mm2 2 (.slice A1 m1 k1)).other mm2 3 (.slice A2 m2 k2)).other mm2 4 (.slice A3 m3 k3))
     clear g0 f0 g1 f1 g2 f2 g3 f3 g4 f4
     generalize (((((w9.setCell ⟨w.heap.size + 1, 0, none⟩ (.int .i64 d.room)).setCell ⟨w.heap.size + 1, 1, none⟩ (.int .i64 d.next)).setCell ⟨w.heap.size + 1, 2, none⟩ (.slice A1 m1 k1)).setCell ⟨w.heap.size + 1, 3, none⟩ (.slice A2 m2 k2)).setCell ⟨w.heap.size + 1, 4, none⟩ (.slice A3 m3 k3)) = WF at *
     have hG : Blk WF (w.heap.size + 1) #[.int .i64 d.room, .int .i64 d.next, .slice A1 m1 k1, .slice A2 m2 k2, .slice A3 m3 k3] 28 := hF
     have l0 := hG.cell 0 (.int .i64 d.room) rfl
     have l1 := hG.cell 1 (.int .i64 d.next) rfl
     have l2 := hG.cell 2 (.slice A1 m1 k1) rfl
     have l3 := hG.cell 3 (.slice A2 m2 k2) rfl
     have l4 := hG.cell 4 (.slice A3 m3 k3) rfl
     exact bodyPost_ret (v := .tuple #[.agg #[.int .i64 d.room, .int .i64 d.next, .slice A1 m1 k1, .slice A2 m2 k2, .slice A3 m3 k3], .int .i64 4]) (by simp [results, go_sem, l0, l1, l2, l3, l4]) rfl (by rw [hRR.out]; exact ⟨_, rfl, ⟨_, _, _, rfl, F0, F1, F2⟩, FB⟩)
    have t1 : decide ((10 : Int) ≤ (d.nods.length : Int)) = false := decide_eq_false (by omega)
    by_cases hx2 : 20 ≤ d.movs.length
    ·have hRR : Hid (makeR d name = (d, 4)) := by unfold Hid; rw [hRY.out, makeD_no (by rw [makeC_full hno hfi (.inr (.inl hx2))]; omega), makeC_full hno hfi (.inr (.inl hx2))]
     have t2 : decide ((20 : Int) ≤ (d.movs.length : Int)) = true := decide_eq_true (by omega)
     clear hno hfi hx1 hx2
     have y0 := K2.out.cell 0 _ rfl
     have y1 := K2.out.cell 1 _ rfl
     have y2 := K2.out.cell 2 _ rfl
     have y3 := K2.out.cell 3 _ rfl
     have y4 := K2.out.cell 4 _ rfl
     go_wp2_with fail
     refine (copyV d (.agg #[.int .i64 d.room, .int .i64 d.next, .slice a1 d.nods.length b1, v2, .slice a3 d.movs.length b3]) w2 B (HV.out.on (B2.out.mono HB.out)) (by have := HSZ.out; omega) HSZ.out.2.2.1 HSZ.out.2.2.2 (Nat.le_trans HB.out B2.out.size)).mono ?_
     rintro e w9 ⟨x, rfl, hO9, hb9⟩
     clear y0 y1 y2 y3 y4 p0 p1 p2
     have hsz9 : Hid (w2.heap.size ≤ w9.heap.size) := hb9.size
     have B9 : Hid (Below w.heap.size w w9) := B2.out.trans (hb9.mono B2.out.size)
     have K9 : Hid (Blk w9 w.heap.size #[.int .i64 d.room, .int .i64 d.next, .slice a1 d.nods.length b1, v2, .slice a3 d.movs.length b3] 28) := K2.out.on hb9 K2.out.lt
     have R9 : Hid (Blk w9 (w.heap.size + 1) #[.int .i64 0, .int .i64 0, .slice none 0 0, .slice none 0 0, .slice none 0 0] 28) := R2.out.on hb9 R2.out.lt
     obtain ⟨x1, x2, x3, rfl, o1, o2, o3⟩ := hO9
     obtain ⟨A1, m1, k1, rfl⟩ := o1.shape
     obtain ⟨A2, m2, k2, rfl⟩ := o2.shape
     obtain ⟨A3, m3, k3, rfl⟩ := o3.shape
     have O1 : Hid (Owns w9 w.heap.size 47 3 (.slice A1 m1 k1) (nodR d.nods)) := o1.mono B2.out.size
     have O2 : Hid (Owns w9 w.heap.size 49 2 (.slice A2 m2 k2) (lnkR d.dir)) := o2.mono B2.out.size
     have O3 : Hid (Owns w9 w.heap.size 51 4 (.slice A3 m3 k3) (movR d.movs)) := o3.mono B2.out.size
     clear hb9 o1 o2 o3 K9
     have g0 := R9.out.cell 0 _ rfl
     have f0 := R9.out.free 0
     have g1 := R9.out.cell 1 _ rfl
     have f1 := R9.out.free 1
     have g2 := R9.out.cell 2 _ rfl
     have f2 := R9.out.free 2
     have g3 := R9.out.cell 3 _ rfl
     have f3 := R9.out.free 3
     have g4 := R9.out.cell 4 _ rfl
     have f4 := R9.out.free 4
     go_wp2_with fail
     have hB := B9.out
     have FB := (((((hB.setCell hg (.int .i64 d.room) (p := ⟨_, 0, none⟩)).setCell hg (.int .i64 d.next) (p := ⟨_, 1, none⟩)).setCell hg (.slice A1 m1 k1) (p := ⟨_, 2, none⟩)).setCell hg (.slice A2 m2 k2) (p := ⟨_, 3, none⟩)).setCell hg (.slice A3 m3 k3) (p := ⟨_, 4, none⟩))
     have hF := (((((R9.out.set 0 (.int .i64 d.room)).set 1 (.int .i64 d.next)).set 2 (.slice A1 m1 k1)).set 3 (.slice A2 m2 k2)).set 4 (.slice A3 m3 k3))
     have mm0 := O1.out.notBlk R9.out (by decide)
     have F0 := (((((O1.out.other mm0 0 (.int .i64 d.room)).other mm0 1 (.int .i64 d.next)).other mm0 2 (.slice A1 m1 k1)).other mm0 3 (.slice A2 m2 k2)).other mm0 4 (.slice A3 m3 k3))
     have mm1 := O2.out.notBlk R9.out (by decide)
     have F1 := (((((O2.out.other mm1 0 (.int .i64 d.room)).other mm1 1 (.int .i64 d.next)).other mm1 2 (.slice A1 m1 k1)).other mm1 3 (.slice A2 m2 k2)).other mm1 4 (.slice A3 m3 k3))
     have mm2 := O3.out.notBlk R9.out (by decide)
     have F2 := (((((O3.out.other mm2 0 (.int .i64 d.room)).other mm2 1 (.int .i64 d.next)).other mm2 2 (.slice A1 m1 k1)).other mm2 3 (.slice A2 m2 k2)).other mm2 4 (.slice A3 m3 k3))
     clear g0 f0 g1 f1 g2 f2 g3 f3 g4 f4
     generalize (((((w9.setCell ⟨w.heap.size + 1, 0, none⟩ (.int .i64 d.room)).setCell ⟨w.heap.size + 1, 1, none⟩ (.int .i64 d.next)).setCell ⟨w.heap.size + 1, 2, none⟩ (.slice A1 m1 k1)).setCell ⟨w.heap.size + 1, 3, none⟩ (.slice A2 m2 k2)).setCell ⟨w.heap.size + 1, 4, none⟩ (.slice A3 m3 k3)) = WF at *
     have hG : Blk WF (w.heap.size + 1) #[.int .i64 d.room, .int .i64 d.next, .slice A1 m1 k1, .slice A2 m2 k2, .slice A3 m3 k3] 28 := hF
     have l0 := hG.cell 0 (.int .i64 d.room) rfl
     have l1 := hG.cell 1 (.int .i64 d.next) rfl
     have l2 := hG.cell 2 (.slice A1 m1 k1) rfl
     have l3 := hG.cell 3 (.slice A2 m2 k2) rfl
     have l4 := hG.cell 4 (.slice A3 m3 k3) rfl
     exact bodyPost_ret (v := .tuple #[.agg #[.int .i64 d.room, .int .i64 d.next, .slice A1 m1 k1, .slice A2 m2 k2, .slice A3 m3 k3], .int .i64 4]) (by simp [results, go_sem, l0, l1, l2, l3, l4]) rfl (by rw [hRR.out]; exact ⟨_, rfl, ⟨_, _, _, rfl, F0, F1, F2⟩, FB⟩)
    have t2 : decide ((20 : Int) ≤ (d.movs.length : Int)) = false := decide_eq_false (by omega)
    by_cases hx3 : 1000000 ≤ d.next
    ·have hRR : Hid (makeR d name = (d, 4)) := by unfold Hid; rw [hRY.out, makeD_no (by rw [makeC_full hno hfi (.inr (.inr hx3))]; omega), makeC_full hno hfi (.inr (.inr hx3))]
     have t3 : decide ((1000000 : Int) ≤ d.next) = true := decide_eq_true hx3
     clear hno hfi hx1 hx2 hx3
     have y0 := K2.out.cell 0 _ rfl
     have y1 := K2.out.cell 1 _ rfl
     have y2 := K2.out.cell 2 _ rfl
     have y3 := K2.out.cell 3 _ rfl
     have y4 := K2.out.cell 4 _ rfl
     go_wp2_with fail
     refine (copyV d (.agg #[.int .i64 d.room, .int .i64 d.next, .slice a1 d.nods.length b1, v2, .slice a3 d.movs.length b3]) w2 B (HV.out.on (B2.out.mono HB.out)) (by have := HSZ.out; omega) HSZ.out.2.2.1 HSZ.out.2.2.2 (Nat.le_trans HB.out B2.out.size)).mono ?_
     rintro e w9 ⟨x, rfl, hO9, hb9⟩
     clear y0 y1 y2 y3 y4 p0 p1 p2
     have hsz9 : Hid (w2.heap.size ≤ w9.heap.size) := hb9.size
     have B9 : Hid (Below w.heap.size w w9) := B2.out.trans (hb9.mono B2.out.size)
     have K9 : Hid (Blk w9 w.heap.size #[.int .i64 d.room, .int .i64 d.next, .slice a1 d.nods.length b1, v2, .slice a3 d.movs.length b3] 28) := K2.out.on hb9 K2.out.lt
     have R9 : Hid (Blk w9 (w.heap.size + 1) #[.int .i64 0, .int .i64 0, .slice none 0 0, .slice none 0 0, .slice none 0 0] 28) := R2.out.on hb9 R2.out.lt
     obtain ⟨x1, x2, x3, rfl, o1, o2, o3⟩ := hO9
     obtain ⟨A1, m1, k1, rfl⟩ := o1.shape
     obtain ⟨A2, m2, k2, rfl⟩ := o2.shape
     obtain ⟨A3, m3, k3, rfl⟩ := o3.shape
     have O1 : Hid (Owns w9 w.heap.size 47 3 (.slice A1 m1 k1) (nodR d.nods)) := o1.mono B2.out.size
     have O2 : Hid (Owns w9 w.heap.size 49 2 (.slice A2 m2 k2) (lnkR d.dir)) := o2.mono B2.out.size
     have O3 : Hid (Owns w9 w.heap.size 51 4 (.slice A3 m3 k3) (movR d.movs)) := o3.mono B2.out.size
     clear hb9 o1 o2 o3 K9
     have g0 := R9.out.cell 0 _ rfl
     have f0 := R9.out.free 0
     have g1 := R9.out.cell 1 _ rfl
     have f1 := R9.out.free 1
     have g2 := R9.out.cell 2 _ rfl
     have f2 := R9.out.free 2
     have g3 := R9.out.cell 3 _ rfl
     have f3 := R9.out.free 3
     have g4 := R9.out.cell 4 _ rfl
     have f4 := R9.out.free 4
     go_wp2_with fail
     have hB := B9.out
     have FB := (((((hB.setCell hg (.int .i64 d.room) (p := ⟨_, 0, none⟩)).setCell hg (.int .i64 d.next) (p := ⟨_, 1, none⟩)).setCell hg (.slice A1 m1 k1) (p := ⟨_, 2, none⟩)).setCell hg (.slice A2 m2 k2) (p := ⟨_, 3, none⟩)).setCell hg (.slice A3 m3 k3) (p := ⟨_, 4, none⟩))
     have hF := (((((R9.out.set 0 (.int .i64 d.room)).set 1 (.int .i64 d.next)).set 2 (.slice A1 m1 k1)).set 3 (.slice A2 m2 k2)).set 4 (.slice A3 m3 k3))
     have mm0 := O1.out.notBlk R9.out (by decide)
     have F0 := (((((O1.out.other mm0 0 (.int .i64 d.room)).other mm0 1 (.int .i64 d.next)).other mm0 2 (.slice A1 m1 k1)).other mm0 3 (.slice A2 m2 k2)).other mm0 4 (.slice A3 m3 k3))
     have mm1 := O2.out.notBlk R9.out (by decide)
     have F1 := (((((O2.out.other mm1 0 (.int .i64 d.room)).other mm1 1 (.int .i64 d.next)).other mm1 2 (.slice A1 m1 k1)).other mm1 3 (.slice A2 m2 k2)).other mm1 4 (.slice A3 m3 k3))
     have mm2 := O3.out.notBlk R9.out (by decide)
     have F2 := (((((O3.out.other mm2 0 (.int .i64 d.room)).other mm2 1 (.int .i64 d.next)).other mm2 2 (.slice A1 m1 k1)).other mm2 3 (.slice A2 m2 k2)).other mm2 4 (.slice A3 m3 k3))
     clear g0 f0 g1 f1 g2 f2 g3 f3 g4 f4
     generalize (((((w9.setCell ⟨w.heap.size + 1, 0, none⟩ (.int .i64 d.room)).setCell ⟨w.heap.size + 1, 1, none⟩ (.int .i64 d.next)).setCell ⟨w.heap.size + 1, 2, none⟩ (.slice A1 m1 k1)).setCell ⟨w.heap.size + 1, 3, none⟩ (.slice A2 m2 k2)).setCell ⟨w.heap.size + 1, 4, none⟩ (.slice A3 m3 k3)) = WF at *
     have hG : Blk WF (w.heap.size + 1) #[.int .i64 d.room, .int .i64 d.next, .slice A1 m1 k1, .slice A2 m2 k2, .slice A3 m3 k3] 28 := hF
     have l0 := hG.cell 0 (.int .i64 d.room) rfl
     have l1 := hG.cell 1 (.int .i64 d.next) rfl
     have l2 := hG.cell 2 (.slice A1 m1 k1) rfl
     have l3 := hG.cell 3 (.slice A2 m2 k2) rfl
     have l4 := hG.cell 4 (.slice A3 m3 k3) rfl
     exact bodyPost_ret (v := .tuple #[.agg #[.int .i64 d.room, .int .i64 d.next, .slice A1 m1 k1, .slice A2 m2 k2, .slice A3 m3 k3], .int .i64 4]) (by simp [results, go_sem, l0, l1, l2, l3, l4]) rfl (by rw [hRR.out]; exact ⟨_, rfl, ⟨_, _, _, rfl, F0, F1, F2⟩, FB⟩)
    have t3 : decide ((1000000 : Int) ≤ d.next) = false := decide_eq_false hx3
    have hRR : Hid (makeR d name = (⟨d.room, d.next + 1, d.nods ++ [⟨d.next, ⟨#[]⟩, 0⟩], d.dir, d.movs ++ [⟨1, name, ⟨#[]⟩, d.next⟩]⟩, 0)) := by unfold Hid; rw [hRY.out, makeD_ok (makeC_ok hno hfi (by omega)), makeC_ok hno hfi (by omega)]
    clear hno hfi hx1 hx2 hx3
    have y0 := K2.out.cell 0 _ rfl
    have y1 := K2.out.cell 1 _ rfl
    have y2 := K2.out.cell 2 _ rfl
    have y3 := K2.out.cell 3 _ rfl
    have y4 := K2.out.cell 4 _ rfl
    go_wp2_with fail
    refine (copyV d (.agg #[.int .i64 d.room, .int .i64 d.next, .slice a1 d.nods.length b1, v2, .slice a3 d.movs.length b3]) w2 B (HV.out.on (B2.out.mono HB.out)) (by have := HSZ.out; omega) HSZ.out.2.2.1 HSZ.out.2.2.2 (Nat.le_trans HB.out B2.out.size)).mono ?_
    rintro e w9 ⟨x, rfl, hO9, hb9⟩
    clear y0 y1 y2 y3 y4 p0 p1 p2
    have hsz9 : Hid (w2.heap.size ≤ w9.heap.size) := hb9.size
    have B9 : Hid (Below w.heap.size w w9) := B2.out.trans (hb9.mono B2.out.size)
    have K9 : Hid (Blk w9 w.heap.size #[.int .i64 d.room, .int .i64 d.next, .slice a1 d.nods.length b1, v2, .slice a3 d.movs.length b3] 28) := K2.out.on hb9 K2.out.lt
    have R9 : Hid (Blk w9 (w.heap.size + 1) #[.int .i64 0, .int .i64 0, .slice none 0 0, .slice none 0 0, .slice none 0 0] 28) := R2.out.on hb9 R2.out.lt
    obtain ⟨x1, x2, x3, rfl, o1, o2, o3⟩ := hO9
    obtain ⟨A1, m1, k1, rfl⟩ := o1.shape
    obtain ⟨A2, m2, k2, rfl⟩ := o2.shape
    obtain ⟨A3, m3, k3, rfl⟩ := o3.shape
    have hz : w.heap.size + 1 < w2.heap.size := R2.out.lt
    have hm : w.heap.size ≤ w2.heap.size := B2.out.size
    have HP1 : Hid (Owns (((((w9.setCell ⟨w.heap.size, 0, none⟩ (.int .i64 d.room)).setCell ⟨w.heap.size, 1, none⟩ (.int .i64 d.next)).setCell ⟨w.heap.size, 2, none⟩ (.slice A1 m1 k1)).setCell ⟨w.heap.size, 3, none⟩ (.slice A2 m2 k2)).setCell ⟨w.heap.size, 4, none⟩ (.slice A3 m3 k3)) w2.heap.size 47 3 (.slice A1 m1 k1) (nodR d.nods)) := (((((o1.other (o1.below (show w.heap.size < w2.heap.size by omega)) 0 (.int .i64 d.room)).other (o1.below (show w.heap.size < w2.heap.size by omega)) 1 (.int .i64 d.next)).other (o1.below (show w.heap.size < w2.heap.size by omega)) 2 (.slice A1 m1 k1)).other (o1.below (show w.heap.size < w2.heap.size by omega)) 3 (.slice A2 m2 k2)).other (o1.below (show w.heap.size < w2.heap.size by omega)) 4 (.slice A3 m3 k3))
    have HP2 : Hid (Owns (((((w9.setCell ⟨w.heap.size, 0, none⟩ (.int .i64 d.room)).setCell ⟨w.heap.size, 1, none⟩ (.int .i64 d.next)).setCell ⟨w.heap.size, 2, none⟩ (.slice A1 m1 k1)).setCell ⟨w.heap.size, 3, none⟩ (.slice A2 m2 k2)).setCell ⟨w.heap.size, 4, none⟩ (.slice A3 m3 k3)) w2.heap.size 49 2 (.slice A2 m2 k2) (lnkR d.dir)) := (((((o2.other (o2.below (show w.heap.size < w2.heap.size by omega)) 0 (.int .i64 d.room)).other (o2.below (show w.heap.size < w2.heap.size by omega)) 1 (.int .i64 d.next)).other (o2.below (show w.heap.size < w2.heap.size by omega)) 2 (.slice A1 m1 k1)).other (o2.below (show w.heap.size < w2.heap.size by omega)) 3 (.slice A2 m2 k2)).other (o2.below (show w.heap.size < w2.heap.size by omega)) 4 (.slice A3 m3 k3))
    have HP3 : Hid (Owns (((((w9.setCell ⟨w.heap.size, 0, none⟩ (.int .i64 d.room)).setCell ⟨w.heap.size, 1, none⟩ (.int .i64 d.next)).setCell ⟨w.heap.size, 2, none⟩ (.slice A1 m1 k1)).setCell ⟨w.heap.size, 3, none⟩ (.slice A2 m2 k2)).setCell ⟨w.heap.size, 4, none⟩ (.slice A3 m3 k3)) w2.heap.size 51 4 (.slice A3 m3 k3) (movR d.movs)) := (((((o3.other (o3.below (show w.heap.size < w2.heap.size by omega)) 0 (.int .i64 d.room)).other (o3.below (show w.heap.size < w2.heap.size by omega)) 1 (.int .i64 d.next)).other (o3.below (show w.heap.size < w2.heap.size by omega)) 2 (.slice A1 m1 k1)).other (o3.below (show w.heap.size < w2.heap.size by omega)) 3 (.slice A2 m2 k2)).other (o3.below (show w.heap.size < w2.heap.size by omega)) 4 (.slice A3 m3 k3))
    have HPB : Hid (Below w.heap.size w (((((w9.setCell ⟨w.heap.size, 0, none⟩ (.int .i64 d.room)).setCell ⟨w.heap.size, 1, none⟩ (.int .i64 d.next)).setCell ⟨w.heap.size, 2, none⟩ (.slice A1 m1 k1)).setCell ⟨w.heap.size, 3, none⟩ (.slice A2 m2 k2)).setCell ⟨w.heap.size, 4, none⟩ (.slice A3 m3 k3))) := (((((B9.out.setCell (Nat.le_refl _) (.int .i64 d.room) (p := ⟨_, 0, none⟩)).setCell (Nat.le_refl _) (.int .i64 d.next) (p := ⟨_, 1, none⟩)).setCell (Nat.le_refl _) (.slice A1 m1 k1) (p := ⟨_, 2, none⟩)).setCell (Nat.le_refl _) (.slice A2 m2 k2) (p := ⟨_, 3, none⟩)).setCell (Nat.le_refl _) (.slice A3 m3 k3) (p := ⟨_, 4, none⟩))
    have HPK : Hid (Blk (((((w9.setCell ⟨w.heap.size, 0, none⟩ (.int .i64 d.room)).setCell ⟨w.heap.size, 1, none⟩ (.int .i64 d.next)).setCell ⟨w.heap.size, 2, none⟩ (.slice A1 m1 k1)).setCell ⟨w.heap.size, 3, none⟩ (.slice A2 m2 k2)).setCell ⟨w.heap.size, 4, none⟩ (.slice A3 m3 k3)) w.heap.size #[.int .i64 d.room, .int .i64 d.next, .slice A1 m1 k1, .slice A2 m2 k2, .slice A3 m3 k3] 28) := (((((K9.out.set 0 (.int .i64 d.room)).set 1 (.int .i64 d.next)).set 2 (.slice A1 m1 k1)).set 3 (.slice A2 m2 k2)).set 4 (.slice A3 m3 k3))
    have HPR : Hid (Blk (((((w9.setCell ⟨w.heap.size, 0, none⟩ (.int .i64 d.room)).setCell ⟨w.heap.size, 1, none⟩ (.int .i64 d.next)).setCell ⟨w.heap.size, 2, none⟩ (.slice A1 m1 k1)).setCell ⟨w.heap.size, 3, none⟩ (.slice A2 m2 k2)).setCell ⟨w.heap.size, 4, none⟩ (.slice A3 m3 k3)) (w.heap.size + 1) #[.int .i64 0, .int .i64 0, .slice none 0 0, .slice none 0 0, .slice none 0 0] 28) := (((((R9.out.other (show w.heap.size + 1 ≠ w.heap.size by omega) 0 (.int .i64 d.room)).other (show w.heap.size + 1 ≠ w.heap.size by omega) 1 (.int .i64 d.next)).other (show w.heap.size + 1 ≠ w.heap.size by omega) 2 (.slice A1 m1 k1)).other (show w.heap.size + 1 ≠ w.heap.size by omega) 3 (.slice A2 m2 k2)).other (show w.heap.size + 1 ≠ w.heap.size by omega) 4 (.slice A3 m3 k3))
    clear hb9 o1 o2 o3
    have e0 := K9.out.cell 0 _ rfl
    have t0 := K9.out.free 0
    have e1 := K9.out.cell 1 _ rfl
    have t1 := K9.out.free 1
    have e2 := K9.out.cell 2 _ rfl
    have t2 := K9.out.free 2
    have e3 := K9.out.cell 3 _ rfl
    have t3 := K9.out.free 3
    have e4 := K9.out.cell 4 _ rfl
    have t4 := K9.out.free 4
    have r1 := HPK.out.cell 1 _ rfl
    have r2 := HPK.out.cell 2 _ rfl
    have hzz : w2.heap.size ≤ ((((((w9.setCell ⟨w.heap.size, 0, none⟩ (.int .i64 d.room)).setCell ⟨w.heap.size, 1, none⟩ (.int .i64 d.next)).setCell ⟨w.heap.size, 2, none⟩ (.slice A1 m1 k1)).setCell ⟨w.heap.size, 3, none⟩ (.slice A2 m2 k2)).setCell ⟨w.heap.size, 4, none⟩ (.slice A3 m3 k3))).heap.size := by simp only [World.size_setCell]; exact hsz9.out
    have hYs : ((((((w9.setCell ⟨w.heap.size, 0, none⟩ (.int .i64 d.room)).setCell ⟨w.heap.size, 1, none⟩ (.int .i64 d.next)).setCell ⟨w.heap.size, 2, none⟩ (.slice A1 m1 k1)).setCell ⟨w.heap.size, 3, none⟩ (.slice A2 m2 k2)).setCell ⟨w.heap.size, 4, none⟩ (.slice A3 m3 k3))).heap.size = w9.heap.size := by simp only [World.size_setCell]
    go_wp2_with (at_builtin; refine Shut.out ?_)
    clear r1 r2 e0 t0 e1 t1 e2 t2 e3 t3 e4 t4
    generalize (((((w9.setCell ⟨w.heap.size, 0, none⟩ (.int .i64 d.room)).setCell ⟨w.heap.size, 1, none⟩ (.int .i64 d.next)).setCell ⟨w.heap.size, 2, none⟩ (.slice A1 m1 k1)).setCell ⟨w.heap.size, 3, none⟩ (.slice A2 m2 k2)).setCell ⟨w.heap.size, 4, none⟩ (.slice A3 m3 k3)) = Y at *
    unfold Shut
    refine wpList_append_row (w := Y) rfl (.tmp 45) (.tmp 49) 24 47 (.agg #[.int .i64 0, .string ⟨#[]⟩, .int .i64 0]) 3 32 rfl Tryz.underlying24 Tryz.infoNod rfl (by omega) w2.heap.size (.slice A1 m1 k1) (nodR d.nods) rfl HP1.out [.int .i64 d.next, .string ⟨#[]⟩, .int .i64 0] rfl (by intro y hy; simp at hy; rcases hy with rfl | rfl | rfl <;> rfl) (by rw [hYs]; rfl) (by rw [nodR_length]; have := HSZ.out; omega) (by omega) hzz ?_
    intro v' w5 hO5 hb5 hk5 _
    obtain ⟨nA, nm, nc, rfl⟩ := hO5.shape
    have Q2 : Hid (Owns w5 w2.heap.size 49 2 (.slice A2 m2 k2) (lnkR d.dir)) := HP2.out.kept fun g hg ho => hk5 g hg (HP2.out.apart HP1.out (by decide) g ho)
    have Q3 : Hid (Owns w5 w2.heap.size 51 4 (.slice A3 m3 k3) (movR d.movs)) := HP3.out.kept fun g hg ho => hk5 g hg (HP3.out.apart HP1.out (by decide) g ho)
    have Q1 : Hid (Owns w5 w2.heap.size 47 3 (.slice nA nm nc) (nodR d.nods ++ [[.int .i64 d.next, .string ⟨#[]⟩, .int .i64 0]])) := hO5
    have QB : Hid (Below w.heap.size w w5) := HPB.out.trans (hb5.mono hm)
    have QK : Hid (Blk w5 w.heap.size #[.int .i64 d.room, .int .i64 d.next, .slice A1 m1 k1, .slice A2 m2 k2, .slice A3 m3 k3] 28) := HPK.out.on hb5 (by omega)
    have QR : Hid (Blk w5 (w.heap.size + 1) #[.int .i64 0, .int .i64 0, .slice none 0 0, .slice none 0 0, .slice none 0 0] 28) := HPR.out.on hb5 hz
    have QZ : Hid (w2.heap.size ≤ w5.heap.size) := Nat.le_trans hzz hb5.size
    have y2 := QK.out.cell 2 _ rfl
    have z2 := QK.out.free 2
    have KK : Hid (Blk (w5.setCell ⟨w.heap.size, 2, none⟩ (.slice nA nm nc)) w.heap.size #[.int .i64 d.room, .int .i64 d.next, .slice nA nm nc, .slice A2 m2 k2, .slice A3 m3 k3] 28) := QK.out.set 2 _
    have RRx : Hid (Blk (w5.setCell ⟨w.heap.size, 2, none⟩ (.slice nA nm nc)) (w.heap.size + 1) #[.int .i64 0, .int .i64 0, .slice none 0 0, .slice none 0 0, .slice none 0 0] 28) := QR.out.other (by omega) _ _
    have G1 : Hid (Owns (w5.setCell ⟨w.heap.size, 2, none⟩ (.slice nA nm nc)) w2.heap.size 47 3 (.slice nA nm nc) (nodR d.nods ++ [[.int .i64 d.next, .string ⟨#[]⟩, .int .i64 0]])) := Q1.out.other (Q1.out.below (by omega)) _ _
    have G2 : Hid (Owns (w5.setCell ⟨w.heap.size, 2, none⟩ (.slice nA nm nc)) w2.heap.size 49 2 (.slice A2 m2 k2) (lnkR d.dir)) := Q2.out.other (Q2.out.below (by omega)) _ _
    have G3 : Hid (Owns (w5.setCell ⟨w.heap.size, 2, none⟩ (.slice nA nm nc)) w2.heap.size 51 4 (.slice A3 m3 k3) (movR d.movs)) := Q3.out.other (Q3.out.below (by omega)) _ _
    have GB : Hid (Below w.heap.size w (w5.setCell ⟨w.heap.size, 2, none⟩ (.slice nA nm nc))) := QB.out.setCell (p := ⟨w.heap.size, 2, none⟩) (Nat.le_refl _) _
    have hY5 : (w5.setCell ⟨w.heap.size, 2, none⟩ (.slice nA nm nc)).heap.size = w5.heap.size := by simp only [World.size_setCell]
    have r1 := KK.out.cell 1 _ rfl
    have r4 := KK.out.cell 4 _ rfl
    clear hO5 hb5 hk5 Q1 Q2 Q3 QB QK QR HP1 HP2 HP3 HPB HPK HPR hzz hYs
    go_wp2_with (at_builtin; refine Shut.out ?_)
    clear y2 z2 r1 r4
    generalize w5.setCell ⟨w.heap.size, 2, none⟩ (.slice nA nm nc) = Y2 at *
    unfold Shut
    refine wpList_append_row (w := Y2) rfl (.tmp 53) (.tmp 58) 26 51 (.agg #[.int .i64 0, .string ⟨#[]⟩, .string ⟨#[]⟩, .int .i64 0]) 4 48 rfl Tryz.underlying26 Tryz.infoMov rfl (by omega) w2.heap.size (.slice A3 m3 k3) (movR d.movs) rfl G3.out [.int .i64 1, .string name, .string ⟨#[]⟩, .int .i64 d.next] rfl (by intro y hy; simp at hy; rcases hy with rfl | rfl | rfl | rfl <;> rfl) (by rw [hY5]; rfl) (by rw [movR_length]; have := HSZ.out; omega) (by omega) (by rw [hY5]; exact QZ.out) ?_
    intro v' w6 hO6 hb6 hk6 _
    obtain ⟨pA, pm, pc, rfl⟩ := hO6.shape
    have e1 : movR (d.movs ++ [⟨1, name, ⟨#[]⟩, d.next⟩]) = movR d.movs ++ [[.int .i64 1, .string name, .string ⟨#[]⟩, .int .i64 d.next]] := by unfold movR; rw [List.map_append]; rfl
    have e2 : nodR (d.nods ++ [⟨d.next, ⟨#[]⟩, 0⟩]) = nodR d.nods ++ [[.int .i64 d.next, .string ⟨#[]⟩, .int .i64 0]] := by unfold nodR; rw [List.map_append]; rfl
    have Q1 : Hid (Owns w6 w2.heap.size 47 3 (.slice nA nm nc) (nodR (d.nods ++ [⟨d.next, ⟨#[]⟩, 0⟩]))) := by unfold Hid; rw [e2]; exact G1.out.kept fun g hg ho => hk6 g hg (G1.out.apart G3.out (by decide) g ho)
    have Q2 : Hid (Owns w6 w2.heap.size 49 2 (.slice A2 m2 k2) (lnkR d.dir)) := G2.out.kept fun g hg ho => hk6 g hg (G2.out.apart G3.out (by decide) g ho)
    have Q3 : Hid (Owns w6 w2.heap.size 51 4 (.slice pA pm pc) (movR (d.movs ++ [⟨1, name, ⟨#[]⟩, d.next⟩]))) := by unfold Hid; rw [e1]; exact hO6
    have QB : Hid (Below w.heap.size w w6) := GB.out.trans (hb6.mono hm)
    have QK : Hid (Blk w6 w.heap.size #[.int .i64 d.room, .int .i64 d.next, .slice nA nm nc, .slice A2 m2 k2, .slice A3 m3 k3] 28) := KK.out.on hb6 (by omega)
    have QR : Hid (Blk w6 (w.heap.size + 1) #[.int .i64 0, .int .i64 0, .slice none 0 0, .slice none 0 0, .slice none 0 0] 28) := RRx.out.on hb6 hz
    have y1 := QK.out.cell 1 _ rfl
    have y4 := QK.out.cell 4 _ rfl
    have z4 := QK.out.free 4
    have k7 : Blk (w6.setCell ⟨w.heap.size, 4, none⟩ (.slice pA pm pc)) w.heap.size #[.int .i64 d.room, .int .i64 d.next, .slice nA nm nc, .slice A2 m2 k2, .slice pA pm pc] 28 := QK.out.set 4 _
    have y7 := k7.cell 1 _ rfl
    have z7 := k7.free 1
    have KK : Hid (Blk ((w6.setCell ⟨w.heap.size, 4, none⟩ (.slice pA pm pc)).setCell ⟨w.heap.size, 1, none⟩ (.int .i64 (d.next + 1))) w.heap.size #[.int .i64 d.room, .int .i64 (d.next + 1), .slice nA nm nc, .slice A2 m2 k2, .slice pA pm pc] 28) := k7.set 1 _
    have RRx : Hid (Blk ((w6.setCell ⟨w.heap.size, 4, none⟩ (.slice pA pm pc)).setCell ⟨w.heap.size, 1, none⟩ (.int .i64 (d.next + 1))) (w.heap.size + 1) #[.int .i64 0, .int .i64 0, .slice none 0 0, .slice none 0 0, .slice none 0 0] 28) := (QR.out.other (by omega) _ _).other (by omega) _ _
    have H1 : Hid (Owns ((w6.setCell ⟨w.heap.size, 4, none⟩ (.slice pA pm pc)).setCell ⟨w.heap.size, 1, none⟩ (.int .i64 (d.next + 1))) w2.heap.size 47 3 (.slice nA nm nc) (nodR (d.nods ++ [⟨d.next, ⟨#[]⟩, 0⟩]))) := (Q1.out.other (Q1.out.below (by omega)) _ _).other (Q1.out.below (by omega)) _ _
    have H2 : Hid (Owns ((w6.setCell ⟨w.heap.size, 4, none⟩ (.slice pA pm pc)).setCell ⟨w.heap.size, 1, none⟩ (.int .i64 (d.next + 1))) w2.heap.size 49 2 (.slice A2 m2 k2) (lnkR d.dir)) := (Q2.out.other (Q2.out.below (by omega)) _ _).other (Q2.out.below (by omega)) _ _
    have H3 : Hid (Owns ((w6.setCell ⟨w.heap.size, 4, none⟩ (.slice pA pm pc)).setCell ⟨w.heap.size, 1, none⟩ (.int .i64 (d.next + 1))) w2.heap.size 51 4 (.slice pA pm pc) (movR (d.movs ++ [⟨1, name, ⟨#[]⟩, d.next⟩]))) := (Q3.out.other (Q3.out.below (by omega)) _ _).other (Q3.out.below (by omega)) _ _
    have FBx : Hid (Below w.heap.size w ((w6.setCell ⟨w.heap.size, 4, none⟩ (.slice pA pm pc)).setCell ⟨w.heap.size, 1, none⟩ (.int .i64 (d.next + 1)))) := (QB.out.setCell (p := ⟨w.heap.size, 4, none⟩) (Nat.le_refl _) _).setCell (p := ⟨w.heap.size, 1, none⟩) (Nat.le_refl _) _
    have zz : wrap64 (d.next + 1) = d.next + 1 := by have := HNX.out; unfold wrap64; omega
    clear hO6 hb6 hk6 Q1 Q2 Q3 QB QK QR G1 G2 G3 GB k7
    have r0 := KK.out.cell 0 _ rfl
    have r1 := KK.out.cell 1 _ rfl
    have r2 := KK.out.cell 2 _ rfl
    have r3 := KK.out.cell 3 _ rfl
    have r4 := KK.out.cell 4 _ rfl
    have g0 := RRx.out.cell 0 _ rfl
    have f0 := RRx.out.free 0
    have g1 := RRx.out.cell 1 _ rfl
    have f1 := RRx.out.free 1
    have g2 := RRx.out.cell 2 _ rfl
    have f2 := RRx.out.free 2
    have g3 := RRx.out.cell 3 _ rfl
    have f3 := RRx.out.free 3
    have g4 := RRx.out.cell 4 _ rfl
    have f4 := RRx.out.free 4
    go_wp2_with fail
    have hB := FBx.out
    clear y1 y4 z4 y7 z7 r0 r1 r2 r3 r4
    have FB := (((((hB.setCell hg (.int .i64 d.room) (p := ⟨_, 0, none⟩)).setCell hg (.int .i64 (d.next + 1)) (p := ⟨_, 1, none⟩)).setCell hg (.slice nA nm nc) (p := ⟨_, 2, none⟩)).setCell hg (.slice A2 m2 k2) (p := ⟨_, 3, none⟩)).setCell hg (.slice pA pm pc) (p := ⟨_, 4, none⟩))
    have hF := (((((RRx.out.set 0 (.int .i64 d.room)).set 1 (.int .i64 (d.next + 1))).set 2 (.slice nA nm nc)).set 3 (.slice A2 m2 k2)).set 4 (.slice pA pm pc))
    have mm0 := H1.out.notBlk RRx.out (by decide)
    have F0 := (((((H1.out.other mm0 0 (.int .i64 d.room)).other mm0 1 (.int .i64 (d.next + 1))).other mm0 2 (.slice nA nm nc)).other mm0 3 (.slice A2 m2 k2)).other mm0 4 (.slice pA pm pc))
    have mm1 := H2.out.notBlk RRx.out (by decide)
    have F1 := (((((H2.out.other mm1 0 (.int .i64 d.room)).other mm1 1 (.int .i64 (d.next + 1))).other mm1 2 (.slice nA nm nc)).other mm1 3 (.slice A2 m2 k2)).other mm1 4 (.slice pA pm pc))
    have mm2 := H3.out.notBlk RRx.out (by decide)
    have F2 := (((((H3.out.other mm2 0 (.int .i64 d.room)).other mm2 1 (.int .i64 (d.next + 1))).other mm2 2 (.slice nA nm nc)).other mm2 3 (.slice A2 m2 k2)).other mm2 4 (.slice pA pm pc))
    clear g0 f0 g1 f1 g2 f2 g3 f3 g4 f4
    generalize (((((((w6.setCell ⟨w.heap.size, 4, none⟩ (.slice pA pm pc)).setCell ⟨w.heap.size, 1, none⟩ (.int .i64 (d.next + 1))).setCell ⟨w.heap.size + 1, 0, none⟩ (.int .i64 d.room)).setCell ⟨w.heap.size + 1, 1, none⟩ (.int .i64 (d.next + 1))).setCell ⟨w.heap.size + 1, 2, none⟩ (.slice nA nm nc)).setCell ⟨w.heap.size + 1, 3, none⟩ (.slice A2 m2 k2)).setCell ⟨w.heap.size + 1, 4, none⟩ (.slice pA pm pc)) = WF at *
    have hG : Blk WF (w.heap.size + 1) #[.int .i64 d.room, .int .i64 (d.next + 1), .slice nA nm nc, .slice A2 m2 k2, .slice pA pm pc] 28 := hF
    have l0 := hG.cell 0 (.int .i64 d.room) rfl
    have l1 := hG.cell 1 (.int .i64 (d.next + 1)) rfl
    have l2 := hG.cell 2 (.slice nA nm nc) rfl
    have l3 := hG.cell 3 (.slice A2 m2 k2) rfl
    have l4 := hG.cell 4 (.slice pA pm pc) rfl
    exact bodyPost_ret (v := .tuple #[.agg #[.int .i64 d.room, .int .i64 (d.next + 1), .slice nA nm nc, .slice A2 m2 k2, .slice pA pm pc], .int .i64 0]) (by simp [results, go_sem, l0, l1, l2, l3, l4]) rfl (by rw [hRR.out]; exact ⟨_, rfl, ⟨_, _, _, rfl, F0.mono hm, F1.mono hm, F2.mono hm⟩, FB⟩)
end Go.Proofs.YtgjilgecklhglaaGreat
namespace Go.Proofs.YtgjilgecklhglaaGreat
open Go.ChangeShapes Go.WideShapes Go.ChangeAt Go.RowKit Go.PlainAid
set_option linter.unusedVariables false
def stepY (d : Dsk) (k : Int) (n t x : ByteArray) : Dsk × Int :=
 if k = 1 then (makeD d n, makeC d n) else if k = 2 then (addD d n x, addC d n x) else if k = 3 then (syncD d n, named d n) else if k = 4 then ((movedC d ⟨2, n, t, 0⟩ (renC d n t)).1, (movedC d ⟨2, n, t, 0⟩ (renC d n t)).2) else if k = 5 then ((movedC d ⟨3, n, ⟨#[]⟩, 0⟩ (named d n)).1, (movedC d ⟨3, n, ⟨#[]⟩, 0⟩ (named d n)).2) else if k = 6 then (syncDirD d, 0) else (d, 1)
def doStepR (d : Dsk) (k : Int) (n t x : ByteArray) : Dsk × Int := if diskOk d = true then stepY d k n t x else (zeroD, 1)
theorem doStepR_yes {d : Dsk} {k : Int} {n t x : ByteArray} (h : diskOk d = true) : doStepR d k n t x = stepY d k n t x := by unfold doStepR; rw [if_pos h]
theorem doStepR_no {d : Dsk} {k : Int} {n t x : ByteArray} (h : diskOk d = false) : doStepR d k n t x = (zeroD, 1) := by unfold doStepR; rw [if_neg (by rw [h]; simp)]
theorem stepY_0 {d : Dsk} {k : Int} {n t x : ByteArray} (h1 : ¬k = 1) (h2 : ¬k = 2) (h3 : ¬k = 3) (h4 : ¬k = 4) (h5 : ¬k = 5) (h6 : ¬k = 6) : stepY d k n t x = (d, 1) := by unfold stepY; rw [if_neg h1, if_neg h2, if_neg h3, if_neg h4, if_neg h5, if_neg h6]
end Go.Proofs.YtgjilgecklhglaaGreat
