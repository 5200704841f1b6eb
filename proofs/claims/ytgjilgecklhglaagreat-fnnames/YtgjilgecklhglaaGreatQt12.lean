/- CrImpl ImOk -/
import Derived.Test.YtgjilgecklhglaaGreatRows
import Derived.Test.YtgjilgecklhglaaGreatQt9
import Derived.Test.YtgjilgecklhglaaGreatQt5
open List (setIfInBounds_toArray set_cons_zero set_cons_succ)
namespace Go.Proofs.YtgjilgecklhglaaGreat
open Go.ChangeShapes Go.WideShapes Go.ChangeAt Go.RowKit Go.PlainAid
set_option linter.unusedVariables false
set_option maxRecDepth 20000 in
set_option maxHeartbeats 4000000 in
theorem implCrashV (d : Dsk) (v : Value) (keep : Int) (cuts : List Int) (cv : Value) (w : World) (B : Nat) (hv : DiskV w B v d) (hcv : NumsV w B cv cuts) (hcl : cuts.length ≤ 1048576) (hf : Fits d) (hi : IntsOk d) (hw : wtD d ≤ 1048576) (hB : B ≤ w.heap.size) :
  Calls Tryz.prog 16 #[v, .int .i64 keep, cv] w fun e w' => ∃ x, e = .returned x ∧ DiskO w' w.heap.size x (crashR d keep cuts) ∧ Below w.heap.size w w' := by
 have HV : Hid (DiskV w B v d) := hv
 have HC : Hid (NumsV w B cv cuts) := hcv
 have HB : Hid (B ≤ w.heap.size) := hB
 have HF : Hid (Fits d) := hf
 have HW : Hid (wtD d ≤ 1048576) := hw
 have hlk : ∃ a1 b1 v2 v3, v = .agg #[.int .i64 d.room, .int .i64 d.next, .slice a1 d.nods.length b1, v2, v3] ∧ ∀ j, j < d.nods.length → ∃ g off, a1 = some ⟨g, off, none⟩ ∧ g < B ∧ w.cell? ⟨g, off + j * 3, none⟩ = some (.int .i64 (d.nods.getD j default).id) ∧ w.cell? ⟨g, off + j * 3 + 1, none⟩ = some (.string (d.nods.getD j default).data) ∧ w.cell? ⟨g, off + j * 3 + 2, none⟩ = some (.int .i64 (d.nods.getD j default).sure) := by
  obtain ⟨v1, v2, v3, rfl, h1, h2, h3⟩ := hv
  obtain ⟨A1, c1, rfl, hx⟩ := nod_look h1
  exact ⟨A1, c1, v2, v3, rfl, hx⟩
 obtain ⟨a1, b1, v2, v3, rfl, hl1⟩ := hlk
 obtain ⟨cA, cc, rfl, hc1, hc2, hc3⟩ := hcv
 have HL1 : Hid (∀ j, j < d.nods.length → ∃ g off, a1 = some ⟨g, off, none⟩ ∧ g < B ∧ w.cell? ⟨g, off + j * 3, none⟩ = some (.int .i64 (d.nods.getD j default).id) ∧ w.cell? ⟨g, off + j * 3 + 1, none⟩ = some (.string (d.nods.getD j default).data) ∧ w.cell? ⟨g, off + j * 3 + 2, none⟩ = some (.int .i64 (d.nods.getD j default).sure)) := hl1
 have HC3 : Hid (∀ j, j < cuts.length → ∃ g off, cA = some ⟨g, off, none⟩ ∧ g < B ∧ w.cell? ⟨g, off + j, none⟩ = some (.int .i64 (cuts.getD j 0))) := hc3
 have qc : (cuts.length : Int) ≤ 1048576 := by omega
 have cO := fun wx hx hb => openedV d (.agg #[.int .i64 d.room, .int .i64 d.next, .slice a1 d.nods.length b1, v2, v3]) wx B hx hf hi hw hb
 clear hf hB hw hv hl1 hi hc1 hc2 hc3 hcl
 go_enter Tryz.func16, Tryz.ntmps16
 go_wp2_with fail
 have hb0 := below_alloc2' w (.cells #[.int .i64 d.room, .int .i64 d.next, .slice a1 d.nods.length b1, v2, v3] 28) (.cells #[.int .i64 0, .int .i64 0, .slice none 0 0, .slice none 0 0, .slice none 0 0] 28)
 have bA := (Blk.new w #[.int .i64 d.room, .int .i64 d.next, .slice a1 d.nods.length b1, v2, v3] 28).alloc (.cells #[.int .i64 0, .int .i64 0, .slice none 0 0, .slice none 0 0, .slice none 0 0] 28)
 have bR := Blk.new (w.alloc (.cells #[.int .i64 d.room, .int .i64 d.next, .slice a1 d.nods.length b1, v2, v3] 28)) #[.int .i64 0, .int .i64 0, .slice none 0 0, .slice none 0 0, .slice none 0 0] 28
 have hsz : ((w.alloc (.cells #[.int .i64 d.room, .int .i64 d.next, .slice a1 d.nods.length b1, v2, v3] 28)).alloc (.cells #[.int .i64 0, .int .i64 0, .slice none 0 0, .slice none 0 0, .slice none 0 0] 28)).heap.size = w.heap.size + 1 + 1 := by simp
 simp only [World.size_alloc] at bR
 generalize (w.alloc (.cells #[.int .i64 d.room, .int .i64 d.next, .slice a1 d.nods.length b1, v2, v3] 28)).alloc (.cells #[.int .i64 0, .int .i64 0, .slice none 0 0, .slice none 0 0, .slice none 0 0] 28) = W at *
 have B0 : Hid (Below w.heap.size w W) := hb0
 have K0 : Hid (Blk W w.heap.size #[.int .i64 d.room, .int .i64 d.next, .slice a1 d.nods.length b1, v2, v3] 28) := bA
 have R0 : Hid (Blk W (w.heap.size + 1) #[.int .i64 0, .int .i64 0, .slice none 0 0, .slice none 0 0, .slice none 0 0] 28) := bR
 have SZ : Hid (W.heap.size = w.heap.size + 1 + 1) := hsz
 clear hb0 bA bR hsz
 refine (cO W (HV.out.on (B0.out.mono HB.out)) (Nat.le_trans HB.out B0.out.size)).mono ?_
 rintro e w1 ⟨hb, h⟩
 have B1 : Hid (Below W.heap.size W w1) := hb
 have K1 : Hid (Blk w1 w.heap.size #[.int .i64 d.room, .int .i64 d.next, .slice a1 d.nods.length b1, v2, v3] 28) := K0.out.on hb K0.out.lt
 have R1 : Hid (Blk w1 (w.heap.size + 1) #[.int .i64 0, .int .i64 0, .slice none 0 0, .slice none 0 0, .slice none 0 0] 28) := R0.out.on hb R0.out.lt
 clear hb cO K0 R0
 rcases h with ⟨hn, rfl⟩ | ⟨hy, p, bi, bd, bw, gs, u, rfl, hO⟩
 ·have HN : Hid (diskOk d = false) := hn
  clear hn
  have BZ : Hid (Below w.heap.size w w1) := B0.out.trans (B1.out.mono B0.out.size)
  have g0 := R1.out.cell 0 _ rfl
  have f0 := R1.out.free 0
  have g1 := R1.out.cell 1 _ rfl
  have f1 := R1.out.free 1
  have g2 := R1.out.cell 2 _ rfl
  have f2 := R1.out.free 2
  have g3 := R1.out.cell 3 _ rfl
  have f3 := R1.out.free 3
  have g4 := R1.out.cell 4 _ rfl
  have f4 := R1.out.free 4
  go_wp2_with fail
  have hg : w.heap.size ≤ w.heap.size + 1 := by omega
  have hB := BZ.out
  have FB := (((((hB.setCell hg (.int .i64 0) (p := ⟨_, 0, none⟩)).setCell hg (.int .i64 0) (p := ⟨_, 1, none⟩)).setCell hg (.slice none 0 0) (p := ⟨_, 2, none⟩)).setCell hg (.slice none 0 0) (p := ⟨_, 3, none⟩)).setCell hg (.slice none 0 0) (p := ⟨_, 4, none⟩))
  have hF := (((((R1.out.set 0 (.int .i64 0)).set 1 (.int .i64 0)).set 2 (.slice none 0 0)).set 3 (.slice none 0 0)).set 4 (.slice none 0 0))
  clear g0 f0 g1 f1 g2 f2 g3 f3 g4 f4
  generalize (((((w1.setCell ⟨w.heap.size + 1, 0, none⟩ (.int .i64 0)).setCell ⟨w.heap.size + 1, 1, none⟩ (.int .i64 0)).setCell ⟨w.heap.size + 1, 2, none⟩ (.slice none 0 0)).setCell ⟨w.heap.size + 1, 3, none⟩ (.slice none 0 0)).setCell ⟨w.heap.size + 1, 4, none⟩ (.slice none 0 0)) = WF at *
  have hG : Blk WF (w.heap.size + 1) #[.int .i64 0, .int .i64 0, .slice none 0 0, .slice none 0 0, .slice none 0 0] 28 := hF
  have l0 := hG.cell 0 (.int .i64 0) rfl
  have l1 := hG.cell 1 (.int .i64 0) rfl
  have l2 := hG.cell 2 (.slice none 0 0) rfl
  have l3 := hG.cell 3 (.slice none 0 0) rfl
  have l4 := hG.cell 4 (.slice none 0 0) rfl
  exact bodyPost_ret (v := .agg #[.int .i64 0, .int .i64 0, .slice none 0 0, .slice none 0 0, .slice none 0 0]) (by simp [results, go_sem, l0, l1, l2, l3, l4]) rfl (by rw [crashR_no HN.out]; exact ⟨_, rfl, ⟨_, _, _, rfl, Owns.nil _ _ _ _, Owns.nil _ _ _ _, Owns.nil _ _ _ _⟩, FB⟩)
 ·have HD : Hid (Whole d) := (whole_iff d).1 hy
  have HT : Hid (Tellable w1 p d) := hO.tell HD.out HW.out
  have HRR : Hid (crashR d keep cuts = crashD d keep cuts) := crashR_yes hy
  obtain ⟨hAp, hCr⟩ := hO.crash (q := w.heap.size + 1) (by rw [SZ.out]; omega) R1.out
  have AP : Hid (Apart W.heap.size p bi bd (w.heap.size + 1) gs) := hAp
  have CR : Hid (CrI w1 W.heap.size p (w.heap.size + 1) d bi bd (.map (some bw)) d.nods gs d.dir u) := hCr
  have hus : ∃ ua uc, u = .slice ua d.movs.length uc := by
   obtain ⟨A, c, e, _⟩ := mov_look hCr.mv.lies
   exact ⟨A, c, e⟩
  obtain ⟨ua, uc, rfl⟩ := hus
  have q1 : (d.nods.length : Int) ≤ 1000 := by have := HT.out.n1; omega
  have q3 : (d.movs.length : Int) ≤ 1000 := by have := HT.out.n3; omega
  have x2 := K1.out.cell 2 _ rfl
  clear hO hAp hCr hy
  generalize hN : d.nods.length = n at *
  have HNN : Hid (d.nods.length = n) := hN
  clear hN
  go_wp2_with fail
  go_loopw [21] (fun v21 wr => ∃ k : Nat, k ≤ n ∧ v21 = .int .i64 (k : Int) ∧ CrI wr W.heap.size p (w.heap.size + 1) d bi bd (.map (some bw)) (mixN cuts d.nods k) gs d.dir (.slice ua d.movs.length uc) ∧ Below W.heap.size W wr) (fun i _ => n - (intOf i).toNat)
  case atStart => exact ⟨0, by omega, rfl, by rw [mixN_zero]; exact CR.out, B1.out⟩
  case round =>
   obtain ⟨k, hk, rfl, hcr, hbw⟩ := hrel
   have CK : Hid (CrI wr W.heap.size p (w.heap.size + 1) d bi bd (.map (some bw)) (mixN cuts d.nods k) gs d.dir (.slice ua d.movs.length uc)) := hcr
   have BK : Hid (Below W.heap.size W wr) := hbw
   clear hcr hbw x2
   by_cases hlt : k < n
   ·have q2 : (k : Int) < (n : Int) := by omega
    have HKN : Hid (k < d.nods.length) := by unfold Hid; rw [HNN.out]; exact hlt
    have hB3 : Below B w wr := (B0.out.mono HB.out).trans (BK.out.mono (Nat.le_trans HB.out B0.out.size))
    obtain ⟨gi, off, rfl, hgB, hc0, hc1, hc2⟩ := HL1.out k hlt
    rw [← hB3.cell (p := ⟨_, _, none⟩) hgB] at hc0 hc1 hc2
    have hsu := nod_sure HD.out k HKN.out
    have hdm := HT.out.nx _ (getD_mem d.nods k HKN.out)
    have hpt := ptrAt_own HT.out.rise (gs := gs) (by rw [CK.out.held.len, mixN_length]) HKN.out
    have hbl := CK.out.held.blk k (by rw [mixN_length]; exact HKN.out)
    rw [mixN_get _ _ _ _ HKN.out, if_neg (by omega)] at hbl
    have hcut := fun (wx : World) (hC : CrI wx W.heap.size p (w.heap.size + 1) d bi bd (.map (some bw)) (mixN cuts d.nods k) gs d.dir (.slice ua d.movs.length uc)) w' hn hb => CrI.cut (w' := w') hC AP.out HKN.out hn hb
    generalize hxx : d.nods.getD k default = xx at *
    generalize hgk : gs.getD k 0 = gk at *
    have HGK : Hid (W.heap.size ≤ gk) := by
     have := AP.out.gl _ (gs_memK (gs := gs) (j := k) (by rw [CK.out.held.len, mixN_length]; exact HKN.out))
     rw [hgk] at this
     exact this.1
    have HCUT : Hid (∀ (wx : World), CrI wx W.heap.size p (w.heap.size + 1) d bi bd (.map (some bw)) (mixN cuts d.nods k) gs d.dir (.slice ua d.movs.length uc) → ∀ w', Blk w' gk #[.int .i64 (cutN xx (cuts.getD k 0)).id, .string (cutN xx (cuts.getD k 0)).data, .int .i64 (cutN xx (cuts.getD k 0)).sure] 47 → But (fun i => i = gk) wx w' → CrI w' W.heap.size p (w.heap.size + 1) d bi bd (.map (some bw)) (mixN cuts d.nods (k + 1)) gs d.dir (.slice ua d.movs.length uc)) := fun wx hC w' hn hb => hcut wx hC w' hn hb
    obtain ⟨xi, xd, xs⟩ := xx
    simp only at hc0 hc1 hc2 hsu hdm hpt hbl
    have HBL : Hid (Blk wr gk #[.int .i64 xi, .string xd, .int .i64 xs] 47) := hbl
    have HPT : Hid (ptrAt (prs d.nods gs) xi = some gk) := hpt
    have HSU : Hid (0 ≤ xs ∧ xs ≤ (xd.size : Int)) := hsu
    have HDM : Hid (IntOk xi ∧ xd.size ≤ 281474976710656) := hdm
    clear hcut hsu hdm hpt hbl hxx hgk
    have hBA : Below wr.heap.size wr (wr.alloc (.cells #[.int .i64 xi, .string xd, .int .i64 xs] 47)) := (Below.refl _ wr).alloc (Nat.le_refl _) _
    have CA : Hid (CrI (wr.alloc (.cells #[.int .i64 xi, .string xd, .int .i64 xs] 47)) W.heap.size p (w.heap.size + 1) d bi bd (.map (some bw)) (mixN cuts d.nods k) gs d.dir (.slice ua d.movs.length uc)) := CK.out.on hBA
    have BLA : Hid (Blk (wr.alloc (.cells #[.int .i64 xi, .string xd, .int .i64 xs] 47)) gk #[.int .i64 xi, .string xd, .int .i64 xs] 47) := HBL.out.alloc _
    have BKA : Hid (Below W.heap.size W (wr.alloc (.cells #[.int .i64 xi, .string xd, .int .i64 xs] 47))) := BK.out.alloc BK.out.size _
    have bN := Blk.new wr #[.int .i64 xi, .string xd, .int .i64 xs] 47
    have NZ : Hid (Blk (wr.alloc (.cells #[.int .i64 xi, .string xd, .int .i64 xs] 47)) wr.heap.size #[.int .i64 xi, .string xd, .int .i64 xs] 47) := bN
    clear hBA bN
    by_cases hcl : k < cuts.length
    ·have q5 : (k : Int) < (cuts.length : Int) := by omega
     obtain ⟨gc, oc, rfl, hgc, hcw⟩ := HC3.out k hcl
     rw [← hB3.cell (p := ⟨_, _, none⟩) hgc] at hcw
     have hgw : gc < wr.heap.size := Nat.lt_of_lt_of_le hgc (Nat.le_trans (Nat.le_trans HB.out B0.out.size) BK.out.size)
     have hcz : (wr.alloc (.cells #[.int .i64 xi, .string xd, .int .i64 xs] 47)).cell? ⟨gc, oc + k, none⟩ = some (.int .i64 (cuts.getD k 0)) := by
      rw [((Below.refl wr.heap.size wr).alloc (Nat.le_refl _) _).cell (p := ⟨_, _, none⟩) hgw]
      exact hcw
     clear hcw hB3
     generalize cuts.getD k 0 = mr at *
     go_wp2_with fail
     clear hc0 hc1 hc2
     generalize (wr.alloc (.cells #[.int .i64 xi, .string xd, .int .i64 xs] 47)) = WA at *
     generalize wr.heap.size = zz at *
     have S0 : Hid (WA.drew.cell? ⟨p, 2, none⟩ = some (.map (some bi)) ∧ WA.drew.cell? ⟨zz, 0, none⟩ = some (.int .i64 xi) ∧ IT WA.drew bi (prs d.nods gs)) := ⟨CA.out.blk.cell 2 _ rfl, NZ.out.cell 0 _ rfl, CA.out.it.kept rfl⟩
     have cC := cutOffV WA.drew gk ⟨xi, xd, xs⟩ mr BLA.out HSU.out.1 HSU.out.2 HDM.out.2
     refine wp_region_until (fun w' => w'.cell? ⟨p, 2, none⟩ = some (.map (some bi)) ∧ w'.cell? ⟨zz, 0, none⟩ = some (.int .i64 xi) ∧ IT w' bi (prs d.nods gs)) (fun i => i == 8) 9 (by rfl) (by kernel_rfl) ?_
     refine tKf 0 S0.out ?_
     refine tKf 1 S0.out ?_
     refine tKf 2 S0.out ?_
     refine tKf 3 S0.out ?_
     refine tKf 4 S0.out ?_
     refine tKf 5 S0.out ?_
     refine tKe 6 (v := .pointer (some ⟨gk, 0, none⟩)) S0.out ?_ ?_
     ·intro w hSw
      have hval := (hSw.2.2.val xi HDM.out.1).2 gk HPT.out
      clear hSw
      go_simp
      try with_reducible rfl
     try simp only [Act.put, zQ1, zQ2, zQ3]
     refine tKf 7 S0.out ?_
     refine uNe 8 (fun K hK => ?_)
     go_simp
     refine cC.mono ?_
     rintro e w4 ⟨⟨r, rfl⟩, hK4, hB4⟩
     have C4 : Hid (CrI w4 W.heap.size p (w.heap.size + 1) d bi bd (.map (some bw)) (mixN cuts d.nods (k + 1)) gs d.dir (.slice ua d.movs.length uc)) := HCUT.out WA.drew (CA.out.on ((Below.refl _ WA).drew)) w4 hK4 hB4
     have B4 : Hid (Below W.heap.size W w4) := BKA.out.drew.trans (hB4.below W.heap.size BKA.out.size (fun i hi e => by have := HGK.out; omega))
     clear cC hK4 hB4
     go_wp2_with fail
     refine hK.out _ _ (fun h => by cases h) ?_
     clear hK K
     try simp only [Act.put, zQ1, zQ2, zQ3]
     refine until_done (by kernel_rfl) ?_ _
     go_wp2_with fail
     go_roundw
     case rel => exact ⟨k + 1, by omega, by go_num, C4.out, B4.out⟩
     case measure => simp [intOf]; omega
    ·have q5 : ¬ (k : Int) < (cuts.length : Int) := by omega
     have hz : cuts.getD k 0 = 0 := by rw [List.getD_eq_getElem?_getD, List.getElem?_eq_none (by omega)]; rfl
     rw [hz] at HCUT
     clear hB3 hz
     go_wp2_with fail
     clear hc0 hc1 hc2
     generalize (wr.alloc (.cells #[.int .i64 xi, .string xd, .int .i64 xs] 47)) = WA at *
     generalize wr.heap.size = zz at *
     have S0 : Hid (WA.drew.cell? ⟨p, 2, none⟩ = some (.map (some bi)) ∧ WA.drew.cell? ⟨zz, 0, none⟩ = some (.int .i64 xi) ∧ IT WA.drew bi (prs d.nods gs)) := ⟨CA.out.blk.cell 2 _ rfl, NZ.out.cell 0 _ rfl, CA.out.it.kept rfl⟩
     have cC := cutOffV WA.drew gk ⟨xi, xd, xs⟩ 0 BLA.out HSU.out.1 HSU.out.2 HDM.out.2
     refine wp_region_until (fun w' => w'.cell? ⟨p, 2, none⟩ = some (.map (some bi)) ∧ w'.cell? ⟨zz, 0, none⟩ = some (.int .i64 xi) ∧ IT w' bi (prs d.nods gs)) (fun i => i == 8) 9 (by rfl) (by kernel_rfl) ?_
     refine tKf 0 S0.out ?_
     refine tKf 1 S0.out ?_
     refine tKf 2 S0.out ?_
     refine tKf 3 S0.out ?_
     refine tKf 4 S0.out ?_
     refine tKf 5 S0.out ?_
     refine tKe 6 (v := .pointer (some ⟨gk, 0, none⟩)) S0.out ?_ ?_
     ·intro w hSw
      have hval := (hSw.2.2.val xi HDM.out.1).2 gk HPT.out
      clear hSw
      go_simp
      try with_reducible rfl
     try simp only [Act.put, zQ1, zQ2, zQ3]
     refine tKf 7 S0.out ?_
     refine uNe 8 (fun K hK => ?_)
     go_simp
     refine cC.mono ?_
     rintro e w4 ⟨⟨r, rfl⟩, hK4, hB4⟩
     have C4 : Hid (CrI w4 W.heap.size p (w.heap.size + 1) d bi bd (.map (some bw)) (mixN cuts d.nods (k + 1)) gs d.dir (.slice ua d.movs.length uc)) := HCUT.out WA.drew (CA.out.on ((Below.refl _ WA).drew)) w4 hK4 hB4
     have B4 : Hid (Below W.heap.size W w4) := BKA.out.drew.trans (hB4.below W.heap.size BKA.out.size (fun i hi e => by have := HGK.out; omega))
     clear cC hK4 hB4
     go_wp2_with fail
     refine hK.out _ _ (fun h => by cases h) ?_
     clear hK K
     try simp only [Act.put, zQ1, zQ2, zQ3]
     refine until_done (by kernel_rfl) ?_ _
     go_wp2_with fail
     go_roundw
     case rel => exact ⟨k + 1, by omega, by go_num, C4.out, B4.out⟩
     case measure => simp [intOf]; omega
   ·obtain rfl : k = n := by omega
    have CE : Hid (CrI wr W.heap.size p (w.heap.size + 1) d bi bd (.map (some bw)) (cutL cuts d.nods) gs d.dir (.slice ua d.movs.length uc)) := by
     unfold Hid cutL
     rw [HNN.out]
     exact CK.out
    have HLN : Hid (∀ k, k ≤ d.movs.length → (names d.dir (d.movs.take k)).length ≤ 1000) := fun k hk => by
     have h1 := names_len d.dir (d.movs.take k)
     rw [List.length_take] at h1
     have hR := (sizeOk_iff d).1 HD.out.size
     have := hR.l
     have := hR.m
     omega
    obtain ⟨N, hN⟩ : ∃ N, N = min keep.toNat d.movs.length := ⟨_, rfl⟩
    obtain ⟨M1, hM1⟩ : ∃ M1, M1 = max keep 0 := ⟨_, rfl⟩
    have HM1 : Hid (max keep 0 = M1) := hM1.symm
    have HKM : Hid (min M1 (d.movs.length : Int) = (N : Int)) := by unfold Hid; omega
    have HNM : Hid (N ≤ d.movs.length) := by unfold Hid; omega
    have HCL : Hid (names d.dir (d.movs.take N) = crashL d keep) := by
     unfold Hid crashL
     rw [hN]
     congr 1
     by_cases c : keep.toNat ≤ d.movs.length
     ·rw [Nat.min_eq_left c]
     ·rw [Nat.min_eq_right (by omega), List.take_length, List.take_of_length_le (by omega)]
    have qN : (N : Int) ≤ (d.movs.length : Int) := by omega
    have huc : (d.movs.length : Int) ≤ (uc : Int) := by
     have := CE.out.mv
     rcases this.2.2 with ⟨e, _⟩ | ⟨_, _, _, e, _, _, hc, _⟩
     ·injection e with e1 e2 e3
      omega
     ·injection e with e1 e2 e3
      subst e3
      simp only [movR_length] at hc
      omega
    have qu : (N : Int) ≤ (uc : Int) := by omega
    clear hN hM1 hlt hk CK huc
    have S0 : Hid (wr.drew.cell? ⟨p, 4, none⟩ = some (.slice ua d.movs.length uc)) := CE.out.blk.cell 4 _ rfl
    go_wp2_with fail
    refine wp_region_until (fun w' => w'.cell? ⟨p, 4, none⟩ = some (.slice ua d.movs.length uc)) (fun i => false) 15 (by rfl) (by kernel_rfl) ?_
    refine tKf 0 S0.out ?_
    refine tKf 1 S0.out ?_
    refine tKf 2 S0.out ?_
    refine tKf 3 S0.out ?_
    refine tKf 4 S0.out ?_
    refine tKe 5 (v := .int .i64 M1) S0.out ?_ ?_
    ·intro w hSw
     try dsimp only at hSw
     go_simp
     try (have := HM1.out; omega)
     try with_reducible rfl
    try simp only [Act.put, zQ1, zQ2, zQ3]
    refine tKf 6 S0.out ?_
    refine tKf 7 S0.out ?_
    refine tKf 8 S0.out ?_
    refine tKf 9 S0.out ?_
    refine tKf 10 S0.out ?_
    refine tKe 11 (v := .int .i64 (N : Int)) S0.out ?_ ?_
    ·intro w hSw
     try dsimp only at hSw
     go_simp
     try (have := HKM.out; omega)
     try with_reducible rfl
    try simp only [Act.put, zQ1, zQ2, zQ3]
    refine tKe 12 (v := .slice ua N uc) S0.out ?_ ?_
    ·intro w hSw
     try dsimp only at hSw
     go_simp
     try simp only [Int.toNat_natCast]
     try with_reducible rfl
    try simp only [Act.put, zQ1, zQ2, zQ3]
    refine tKf 13 S0.out ?_
    refine tKf 14 S0.out ?_
    refine until_done (by kernel_rfl) ?_ _
    have CD : Hid (CrI wr.drew W.heap.size p (w.heap.size + 1) d bi bd (.map (some bw)) (cutL cuts d.nods) gs d.dir (.slice ua d.movs.length uc)) := CE.out.on (Below.refl _ wr).drew
    have BD : Hid (Below W.heap.size W wr.drew) := BK.out.drew
    clear S0 CE BK HKM HM1
    generalize wr.drew = wd at *
    go_wp2_with fail
    go_loopw [58] (fun v58 wr => ∃ k : Nat, k ≤ N ∧ v58 = .int .i64 (k : Int) ∧ CrI wr W.heap.size p (w.heap.size + 1) d bi bd (.map (some bw)) (cutL cuts d.nods) gs (names d.dir (d.movs.take k)) (.slice ua d.movs.length uc) ∧ Below W.heap.size W wr) (fun i _ => N - (intOf i).toNat)
    case atStart => exact ⟨0, by omega, rfl, by rw [List.take_zero]; exact CD.out, BD.out⟩
    case round =>
     obtain ⟨i, hi, rfl, hcr, hbw⟩ := hrel
     have CK : Hid (CrI wr W.heap.size p (w.heap.size + 1) d bi bd (.map (some bw)) (cutL cuts d.nods) gs (names d.dir (d.movs.take i)) (.slice ua d.movs.length uc)) := hcr
     have BK : Hid (Below W.heap.size W wr) := hbw
     have LK : Hid (Linked d (names d.dir (d.movs.take i))) := names_linked HD.out i (Nat.le_trans hi HNM.out)
     have LL : Hid ((names d.dir (d.movs.take i)).length ≤ 1000) := HLN.out i (Nat.le_trans hi HNM.out)
     clear hcr hbw CD BD
     by_cases hlt : i < N
     ·have q2 : (i : Int) < (N : Int) := by omega
      have HIM : Hid (i < d.movs.length) := by unfold Hid; have := HNM.out; omega
      obtain ⟨gi, off, rfl, hc0, hc1, hc2, hc3⟩ := CK.out.movAt i HIM.out
      have hmx := HT.out.mx _ (getD_mem d.movs i HIM.out)
      have HNA : Hid (names d.dir (d.movs.take (i + 1)) = (apply (names d.dir (d.movs.take i)) (d.movs.getD i default)).getD (names d.dir (d.movs.take i))) := names_take d.dir d.movs i HIM.out
      generalize hxx : d.movs.getD i default = xx at *
      obtain ⟨mk, mn, mt, mi⟩ := xx
      simp only at hc0 hc1 hc2 hc3 hmx
      have HMX : Hid (mn.size ≤ maxLen ∧ mt.size ≤ maxLen) := by unfold Hid maxLen; omega
      have hBA : Below wr.heap.size wr (wr.alloc (.cells #[.int .i64 mk, .string mn, .string mt, .int .i64 mi] 51)) := (Below.refl _ wr).alloc (Nat.le_refl _) _
      have CA : Hid (CrI (wr.alloc (.cells #[.int .i64 mk, .string mn, .string mt, .int .i64 mi] 51)) W.heap.size p (w.heap.size + 1) d bi bd (.map (some bw)) (cutL cuts d.nods) gs (names d.dir (d.movs.take i)) (.slice (some ⟨gi, off, none⟩) d.movs.length uc)) := CK.out.on hBA
      have BKA : Hid (Below W.heap.size W (wr.alloc (.cells #[.int .i64 mk, .string mn, .string mt, .int .i64 mi] 51))) := BK.out.alloc BK.out.size _
      have bN := Blk.new wr #[.int .i64 mk, .string mn, .string mt, .int .i64 mi] 51
      have NZ : Hid (Blk (wr.alloc (.cells #[.int .i64 mk, .string mn, .string mt, .int .i64 mi] 51)) wr.heap.size #[.int .i64 mk, .string mn, .string mt, .int .i64 mi] 51) := bN
      clear hBA bN hmx hxx
      go_wp2_with fail
      clear hc0 hc1 hc2 hc3
      generalize (wr.alloc (.cells #[.int .i64 mk, .string mn, .string mt, .int .i64 mi] 51)) = WA at *
      generalize wr.heap.size = zz at *
      have S0 : Hid (WA.drew.cell? ⟨p, 3, none⟩ = some (.map (some bd)) ∧ WA.drew.cell? ⟨zz, 0, none⟩ = some (.int .i64 mk) ∧ WA.drew.cell? ⟨zz, 1, none⟩ = some (.string mn) ∧ WA.drew.cell? ⟨zz, 2, none⟩ = some (.string mt) ∧ WA.drew.cell? ⟨zz, 3, none⟩ = some (.int .i64 mi)) := ⟨CA.out.blk.cell 3 _ rfl, NZ.out.cell 0 _ rfl, NZ.out.cell 1 _ rfl, NZ.out.cell 2 _ rfl, NZ.out.cell 3 _ rfl⟩
      have cP := applyI (names d.dir (d.movs.take i)) bd ⟨mk, mn, mt, mi⟩ WA.drew (CA.out.nd.kept rfl) LL.out LK.out.ok HMX.out.1 HMX.out.2
      unfold movV at cP
      simp only at cP
      refine wp_region_until (fun w' => w'.cell? ⟨p, 3, none⟩ = some (.map (some bd)) ∧ w'.cell? ⟨zz, 0, none⟩ = some (.int .i64 mk) ∧ w'.cell? ⟨zz, 1, none⟩ = some (.string mn) ∧ w'.cell? ⟨zz, 2, none⟩ = some (.string mt) ∧ w'.cell? ⟨zz, 3, none⟩ = some (.int .i64 mi)) (fun i => i == 5) 6 (by rfl) (by kernel_rfl) ?_
      refine tKf 0 S0.out ?_
      refine tKf 1 S0.out ?_
      refine tKf 2 S0.out ?_
      refine tKf 3 S0.out ?_
      refine tKf 4 S0.out ?_
      refine uNe 5 (fun K hK => ?_)
      go_simp
      refine cP.mono ?_
      rintro e w4 ⟨rfl, hN4, hB4⟩
      have C4 : Hid (CrI w4 W.heap.size p (w.heap.size + 1) d bi bd (.map (some bw)) (cutL cuts d.nods) gs (names d.dir (d.movs.take (i + 1))) (.slice (some ⟨gi, off, none⟩) d.movs.length uc)) := (CA.out.on ((Below.refl _ WA).drew)).app AP.out (by rw [HNA.out]; exact hN4) hB4
      have B4 : Hid (Below W.heap.size W w4) := BKA.out.drew.trans (hB4.below W.heap.size BKA.out.size (fun i hi e => by have := AP.out.lo; omega))
      clear cP hN4 hB4
      go_wp2_with fail
      refine hK.out _ _ (fun h => by cases h) ?_
      clear hK K
      try simp only [Act.put, zQ1, zQ2, zQ3]
      refine until_done (by kernel_rfl) ?_ _
      go_wp2_with fail
      go_roundw
      case rel => exact ⟨i + 1, by omega, by go_num, C4.out, B4.out⟩
      case measure => simp [intOf]; omega
     ·obtain rfl : i = N := by omega
      rw [HCL.out] at CK LK LL
      have y3 := CK.out.blk.cell 3 _ rfl
      have cS := settleG wr W.heap.size p d.room d.next bi (cutL cuts d.nods) gs (.map (some bd)) (.slice ua d.movs.length uc) (.map (some bw)) bd (crashL d keep) CK.out.blk (by unfold cutL; rw [prs_mix]; exact CK.out.it) CK.out.held (fun g hg => (AP.out.gl g hg).2.1) AP.out.lo.1
       (fun x hx => by obtain ⟨y, hy, e1, _⟩ := cutL_mem hx; rw [e1]; exact nod_ids HD.out y hy) (cutL_rise HT.out.rise) LK.out.sorted
       (fun x hx => by obtain ⟨y, hy, e1⟩ := linked_nod LK.out hx; obtain ⟨z, hz, e2⟩ := cutL_has (cuts := cuts) hy; exact ⟨z, hz, by rw [e2, e1]⟩) CK.out.nd AP.out.pd LL.out BK.out.size
      go_wp2_with fail
      refine cS.mono ?_
      rintro e w5 ⟨⟨r, rfl⟩, ⟨bl, bc, hK5, hI5, hH5, hN5⟩, hb5⟩
      have HTT := crash_tell (keep := keep) (cuts := cuts) HT.out LK.out LL.out hK5 hI5 hH5 hN5
      have cT := tellV HTT
      have R5 : Hid (Blk w5 (w.heap.size + 1) #[.int .i64 0, .int .i64 0, .slice none 0 0, .slice none 0 0, .slice none 0 0] 28) := CK.out.res.on hb5 AP.out.res
      have B5 : Hid (Below W.heap.size W w5) := BK.out.trans hb5
      clear cS hK5 hI5 hH5 hN5 hb5 HTT y3
      go_wp2_with fail
      refine cT.mono ?_
      rintro e w6 ⟨x, rfl, hO6, hb6⟩
      have R6 : Hid (Blk w6 (w.heap.size + 1) #[.int .i64 0, .int .i64 0, .slice none 0 0, .slice none 0 0, .slice none 0 0] 28) := R5.out.on hb6 R5.out.lt
      have BZ : Hid (Below w.heap.size w w6) := (B0.out.trans (B5.out.mono B0.out.size)).trans (hb6.mono (Nat.le_trans B0.out.size B5.out.size))
      have hlo : w.heap.size ≤ w5.heap.size := Nat.le_trans B0.out.size B5.out.size
      generalize hRR : crashD d keep cuts = RR at *
      obtain ⟨x1, x2, x3, rfl, o1, o2, o3⟩ := hO6
      obtain ⟨A1, m1, k1, rfl⟩ := o1.shape
      obtain ⟨A2, m2, k2, rfl⟩ := o2.shape
      obtain ⟨A3, m3, k3, rfl⟩ := o3.shape
      have O1 : Hid (Owns w6 w.heap.size 47 3 (.slice A1 m1 k1) (nodR RR.nods)) := o1.mono hlo
      have O2 : Hid (Owns w6 w.heap.size 49 2 (.slice A2 m2 k2) (lnkR RR.dir)) := o2.mono hlo
      have O3 : Hid (Owns w6 w.heap.size 51 4 (.slice A3 m3 k3) (movR RR.movs)) := o3.mono hlo
      clear cT o1 o2 o3 hb6
      have g0 := R6.out.cell 0 _ rfl
      have f0 := R6.out.free 0
      have g1 := R6.out.cell 1 _ rfl
      have f1 := R6.out.free 1
      have g2 := R6.out.cell 2 _ rfl
      have f2 := R6.out.free 2
      have g3 := R6.out.cell 3 _ rfl
      have f3 := R6.out.free 3
      have g4 := R6.out.cell 4 _ rfl
      have f4 := R6.out.free 4
      go_wp2_with fail
      have hg : w.heap.size ≤ w.heap.size + 1 := by omega
      have hB := BZ.out
      have FB := (((((hB.setCell hg (.int .i64 RR.room) (p := ⟨_, 0, none⟩)).setCell hg (.int .i64 RR.next) (p := ⟨_, 1, none⟩)).setCell hg (.slice A1 m1 k1) (p := ⟨_, 2, none⟩)).setCell hg (.slice A2 m2 k2) (p := ⟨_, 3, none⟩)).setCell hg (.slice A3 m3 k3) (p := ⟨_, 4, none⟩))
      have hF := (((((R6.out.set 0 (.int .i64 RR.room)).set 1 (.int .i64 RR.next)).set 2 (.slice A1 m1 k1)).set 3 (.slice A2 m2 k2)).set 4 (.slice A3 m3 k3))
      have mm0 := O1.out.notBlk R6.out (by decide)
      have F0 := (((((O1.out.other mm0 0 (.int .i64 RR.room)).other mm0 1 (.int .i64 RR.next)).other mm0 2 (.slice A1 m1 k1)).other mm0 3 (.slice A2 m2 k2)).other mm0 4 (.slice A3 m3 k3))
      have mm1 := O2.out.notBlk R6.out (by decide)
      have F1 := (((((O2.out.other mm1 0 (.int .i64 RR.room)).other mm1 1 (.int .i64 RR.next)).other mm1 2 (.slice A1 m1 k1)).other mm1 3 (.slice A2 m2 k2)).other mm1 4 (.slice A3 m3 k3))
      have mm2 := O3.out.notBlk R6.out (by decide)
      have F2 := (((((O3.out.other mm2 0 (.int .i64 RR.room)).other mm2 1 (.int .i64 RR.next)).other mm2 2 (.slice A1 m1 k1)).other mm2 3 (.slice A2 m2 k2)).other mm2 4 (.slice A3 m3 k3))
      clear g0 f0 g1 f1 g2 f2 g3 f3 g4 f4
      generalize (((((w6.setCell ⟨w.heap.size + 1, 0, none⟩ (.int .i64 RR.room)).setCell ⟨w.heap.size + 1, 1, none⟩ (.int .i64 RR.next)).setCell ⟨w.heap.size + 1, 2, none⟩ (.slice A1 m1 k1)).setCell ⟨w.heap.size + 1, 3, none⟩ (.slice A2 m2 k2)).setCell ⟨w.heap.size + 1, 4, none⟩ (.slice A3 m3 k3)) = WF at *
      have hG : Blk WF (w.heap.size + 1) #[.int .i64 RR.room, .int .i64 RR.next, .slice A1 m1 k1, .slice A2 m2 k2, .slice A3 m3 k3] 28 := hF
      have l0 := hG.cell 0 (.int .i64 RR.room) rfl
      have l1 := hG.cell 1 (.int .i64 RR.next) rfl
      have l2 := hG.cell 2 (.slice A1 m1 k1) rfl
      have l3 := hG.cell 3 (.slice A2 m2 k2) rfl
      have l4 := hG.cell 4 (.slice A3 m3 k3) rfl
      exact bodyPost_ret (v := .agg #[.int .i64 RR.room, .int .i64 RR.next, .slice A1 m1 k1, .slice A2 m2 k2, .slice A3 m3 k3]) (by simp [results, go_sem, l0, l1, l2, l3, l4]) rfl (by rw [HRR.out]; exact ⟨_, rfl, ⟨_, _, _, rfl, F0, F1, F2⟩, FB⟩)
end Go.Proofs.YtgjilgecklhglaaGreat
namespace Go.Proofs.YtgjilgecklhglaaGreat
open Go.ChangeShapes Go.WideShapes Go.ChangeAt Go.RowKit Go.PlainAid Go.Maps
set_option linter.unusedVariables false
set_option maxHeartbeats 1000000 in
theorem implOkV (d : Dsk) (v : Value) (w : World) (B : Nat) (hv : DiskV w B v d) (hf : Fits d) (hi : IntsOk d) (hw : wtD d ≤ 1048576) (hB : B ≤ w.heap.size) :
  Calls Tryz.prog 20 #[v] w fun e w' => e = .returned (.bool (diskOk d)) ∧ Below w.heap.size w w' := by
 have HV : Hid (DiskV w B v d) := hv
 have HB : Hid (B ≤ w.heap.size) := hB
 obtain ⟨v1, v2, v3, rfl, h1, h2, h3⟩ := hv
 have cO := fun wx hx hb => openedV d (.agg #[.int .i64 d.room, .int .i64 d.next, v1, v2, v3]) wx B hx hf hi hw hb
 clear h1 h2 h3 hB hf hi hw
 go_enter Tryz.func20, Tryz.ntmps20
 go_wp2_with fail
 have hb0 : Below w.heap.size w (w.alloc (.cells #[.int .i64 d.room, .int .i64 d.next, v1, v2, v3] 28)) := (Below.refl _ _).alloc (Nat.le_refl _) _
 generalize w.alloc (.cells #[.int .i64 d.room, .int .i64 d.next, v1, v2, v3] 28) = W at *
 have B0 : Hid (Below w.heap.size w W) := hb0
 clear hb0
 refine (cO W (HV.out.on (B0.out.mono HB.out)) (Nat.le_trans HB.out B0.out.size)).mono ?_
 rintro e w1 ⟨hb, h⟩
 have B1 : Hid (Below w.heap.size w w1) := B0.out.trans (hb.mono B0.out.size)
 clear hb cO
 rcases h with ⟨hn, rfl⟩ | ⟨hy, p, bi, bd, bw, gs, u, rfl, _⟩
 ·have HN : Hid (diskOk d = false) := hn
  clear hn
  go_wp2_with fail
  go_ret
  exact ⟨by rw [HN.out]; rfl, B1.out⟩
 ·have HN : Hid (diskOk d = true) := hy
  clear hy
  go_wp2_with fail
  go_ret
  exact ⟨by rw [HN.out]; rfl, B1.out⟩
end Go.Proofs.YtgjilgecklhglaaGreat
