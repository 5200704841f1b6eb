/- StI EgS1 EgS3 FlMathS -/
import Derived.Test.YtikknmoeefipmaaGreatDoorRows
import Derived.Test.YtikknmoeefipmaaGreatDoorQs16
import Derived.Test.YtikknmoeefipmaaGreatDoorQs2
import Derived.WalkKit
import Derived.ProofKit
import Derived.OpenShut
import Derived.Below
import Derived.WalkSmall
import Derived.BigQuiet
import Derived.Deep.QuietTactic
import Derived.Deep.RegionWith
import Derived.Handy
import Derived.Deep.Cut
import Derived.Deep.CutRange
import Derived.Test.YtikknmoeefipmaaGreatDoorQs8
import Derived.Test.YtikknmoeefipmaaGreatDoorQs15
import Derived.Test.YtikknmoeefipmaaGreatDoorQs4
import Derived.Test.YtikknmoeefipmaaGreatDoorQs3
import Derived.Test.YtikknmoeefipmaaGreatDoorQs7
open List (setIfInBounds_toArray set_cons_zero set_cons_succ)
namespace Go.Proofs.YtikknmoeefipmaaGreatDoor
open Go.ChangeShapes Go.WideShapes Go.ChangeAt Go.RowKit Go.PlainAid
set_option linter.unusedVariables false
set_option maxHeartbeats 400000 in
theorem implPast (n m : Int) (w : World) (h0 : -10 ≤ n) (h1 : n ≤ 10995116277) : Calls Tryz.prog 79 #[.int .i64 n, .int .i64 m] w fun e w' => e = .returned (.bool (decide ((n + 1) * 100 ≤ m))) ∧ w = w' := by
 have a1 : IntKind.i64.wrap (n + 1) = n + 1 := by rw [IntKind.wrap_i64]; omega
 have a2 : IntKind.i64.wrap ((n + 1) * 100) = (n + 1) * 100 := by rw [IntKind.wrap_i64]; omega
 have b1 : wrap64 (n + 1) = n + 1 := by unfold wrap64; omega
 have b2 : wrap64 ((n + 1) * 100) = (n + 1) * 100 := by unfold wrap64; omega
 clear h0 h1
 go_enter Tryz.func79, Tryz.ntmps79
 go_wp2
 go_ret
 exact ⟨rfl, rfl⟩
set_option maxRecDepth 20000 in
set_option maxHeartbeats 4000000 in
theorem implSessionsOk (l : List Ses) (v : Value) (w : World) (B : Nat) (hv : Lies w B 6 v (sesR l)) (hn : l.length ≤ 1048576) (hd : ∀ s ∈ l, s.data.size ≤ 1048576) (hB : B ≤ w.heap.size) : Calls Tryz.prog 38 #[v] w fun e w' => e = .returned (.bool (sesFrom 1 l)) ∧ Below w.heap.size w w' := by
 obtain ⟨A, cap, rfl, hl⟩ := ses_look hv
 have HL : Hid (∀ j, j < l.length → ∃ g off, A = some ⟨g, off, none⟩ ∧ g < B ∧ _) := hl
 have HB : Hid (B ≤ w.heap.size) := hB
 have HDT : Hid (∀ k, k < l.length → (l.getD k default).data.size ≤ maxLen) := fun k hk => by have := hd _ (getD_mem l k hk); unfold maxLen; omega
 have HD : Hid (∀ k, k < l.length → ∀ a, sesFrom a (l.drop k) = _) := fun k h a => ses_drop l k h a
 have HE : Hid (∀ a, sesFrom a (l.drop l.length) = true) := fun a => by rw [List.drop_length]; rfl
 obtain ⟨b0, hb0⟩ : ∃ b, sesFrom 1 l = b := ⟨_, rfl⟩
 have HE0 : Hid (sesFrom 1 (l.drop 0) = b0) := by unfold Hid; rw [List.drop_zero]; exact hb0
 rw [hb0]
 clear hl hB hv hb0 hd
 have q1 : (l.length : Int) ≤ 1048576 := by omega
 generalize hN : l.length = n at *
 go_enter Tryz.func38, Tryz.ntmps38
 go_wp2_with fail
 go_loopw [3, 5, 8] (fun v3 v5 v8 wr => ∃ (k : Nat) (a : Int), k ≤ n ∧ v8 = .int .i64 (k : Int) ∧ v3 = .int .i64 a ∧ Hid ((0 ≤ a ∧ a ≤ 10) ∧ sesFrom a (l.drop k) = b0) ∧ Below w.heap.size w wr) (fun _ _ i _ => n - (intOf i).toNat)
 case atStart => exact ⟨0, 1, by omega, rfl, rfl, ⟨by omega, HE0.out⟩, Below.refl _ _⟩
 case round =>
  obtain ⟨k, a, hk, rfl, rfl, HA, hb⟩ := hrel
  have HB1 : Hid (Below w.heap.size w wr) := hb
  clear hb
  by_cases hlt : k < n
  ·have q4 : (k : Int) < (n : Int) := by omega
   obtain ⟨g, off, rfl, hg, ha0, ha1, ha2, ha3, ha4, ha5⟩ := HL.out k hlt
   have hgw : g < w.heap.size := Nat.lt_of_lt_of_le hg HB.out
   rw [← HB1.out.cell (p := ⟨_, _, none⟩) hgw] at ha0
   rw [← HB1.out.cell (p := ⟨_, _, none⟩) hgw] at ha1
   rw [← HB1.out.cell (p := ⟨_, _, none⟩) hgw] at ha2
   rw [← HB1.out.cell (p := ⟨_, _, none⟩) hgw] at ha3
   rw [← HB1.out.cell (p := ⟨_, _, none⟩) hgw] at ha4
   rw [← HB1.out.cell (p := ⟨_, _, none⟩) hgw] at ha5
   have hdd := HDT.out k hlt
   have hd := HD.out k hlt a
   rw [HA.out.2] at hd
   generalize l.getD k default = z at *
   obtain ⟨xc, xs, xo, xi, xm, xd⟩ := z
   simp only [Ses.ans] at ha0 ha1 ha2 ha3 ha4 ha5 hd hdd
   have cA := fun wx => implAnswerOk ⟨xo, xi, xm, xd⟩ wx hdd
   unfold vAns at cA
   simp only at cA
   have H0 : Hid (b0 = _) := hd
   have hsz := HB1.out.size
   obtain ⟨X, hX⟩ : ∃ X, X = wr.alloc (.cells #[.int .i64 xc, .int .i64 xs, .int .i64 xo, .int .i64 xi, .int .i64 xm, .string xd] 73) := ⟨_, rfl⟩
   have BX : Hid (Below w.heap.size w X) := by rw [hX]; exact HB1.out.alloc hsz _
   have KX : Hid (Blk X wr.heap.size #[.int .i64 xc, .int .i64 xs, .int .i64 xo, .int .i64 xi, .int .i64 xm, .string xd] 73) := by unfold Hid; rw [hX]; exact Blk.new wr _ _
   clear hd hsz hdd
   have cN := fun wx => inI xc a 4 wx
   have cS := fun wx => inI xs 1 1000000 wx
   have hi1 : Hid (inRg xc a 4 = true → a ≤ xc ∧ xc ≤ 4) := fun h => inRg_true.1 h
   obtain ⟨p, hp⟩ : ∃ p, p = wr.heap.size := ⟨_, rfl⟩
   rw [← hp] at KX
   cases hc : inRg xc a 4 <;> rw [hc] at cN H0
   ·go_wp2_with fail
    refine (cN _).mono ?_
    rintro e w' ⟨rfl, rfl⟩
    go_wp2_with fail
    rw [← hX]
    go_ret
    exact ⟨by rw [H0.out]; rfl, BX.out⟩
   ·cases hc2 : inRg xs 1 1000000 <;> rw [hc2] at cS H0
    ·go_wp2_with fail
     refine (cN _).mono ?_
     rintro e w' ⟨rfl, rfl⟩
     go_wp2_with fail
     refine (cS _).mono ?_
     rintro e w' ⟨rfl, rfl⟩
     go_wp2_with fail
     rw [← hX]
     go_ret
     exact ⟨by rw [H0.out]; rfl, BX.out⟩
    ·go_wp2_with fail
     refine (cN _).mono ?_
     rintro e w' ⟨rfl, rfl⟩
     go_wp2_with fail
     refine (cS _).mono ?_
     rintro e w' ⟨rfl, rfl⟩
     go_wp2_with fail
     rw [← hX]
     rw [← hp]
     clear hX hp
     refine (cA _).mono ?_
     rintro e X2 ⟨rfl, hb2⟩
     have B2 : Hid (Below w.heap.size w X2) := BX.out.trans (hb2.mono BX.out.size)
     have e0 := (KX.out.on hb2 KX.out.lt).cell 0 _ rfl
     clear hb2
     cases hc3 : ansOk ⟨xo, xi, xm, xd⟩ <;> rw [hc3] at H0
     ·go_wp2_with fail
      go_ret
      exact ⟨by rw [H0.out]; rfl, B2.out⟩
     ·have e9 : IntKind.i64.wrap (xc + 1) = xc + 1 := by rw [IntKind.wrap_i64]; have := HA.out.1; have := hi1.out hc; omega
      have e8 : wrap64 (xc + 1) = xc + 1 := by unfold wrap64; have := HA.out.1; have := hi1.out hc; omega
      go_wp2_with fail
      go_roundw
      case rel => exact ⟨k + 1, xc + 1, by omega, by go_num, rfl, ⟨by have := HA.out.1; have := hi1.out hc; omega, by rw [H0.out]; rfl⟩, B2.out⟩
      case measure => simp [intOf]; omega
  ·obtain rfl : k = n := by omega
   have hz := HA.out.2
   rw [HE.out] at hz
   have HZ : Hid (true = b0) := hz
   clear hz
   go_wp2_with fail
   go_ret
   exact ⟨by rw [← HZ.out]; rfl, HB1.out⟩
set_option maxRecDepth 20000 in
set_option maxHeartbeats 8000000 in
theorem implMetaOk (x : Sta) (v : Value) (w : World) (B : Nat) (hv : StaV w B v x) (hs : StShort x) (hB : B ≤ w.heap.size) :
  Calls Tryz.prog 39 #[v] w fun e w' => e = .returned (.bool (metaB x)) ∧ Below w.heap.size w w' := by
 obtain ⟨Ab, nb, cb, Ac, nc, cc, Af, nf, cf, As, ns, cs, rfl⟩ := hv.shape
 have HV : Hid (StaV w B (vSt x (.slice Ab nb cb) (.slice Ac nc cc) (.slice Af nf cf) (.slice As ns cs)) x) := hv
 obtain ⟨hb0, he0, hs0⟩ := hv.parts
 have HB : Hid (B ≤ w.heap.size) := hB
 have HS : Hid (StShort x) := hs
 have LB : Hid (Lies w B 2 (.slice Ab nb cb) (ptR x.bks)) := hb0
 have LE : Hid (EngV w B (.agg #[.int .i64 x.eng.floor, .slice Ac nc cc, .slice Af nf cf]) x.eng) := he0
 have LQ : Hid (Lies w B 6 (.slice As ns cs) (sesR x.ses)) := hs0
 have hnb : nb = x.bks.length := by have := hb0.room.1; rw [ptR_length] at this; exact this
 have hnc : nc = x.eng.cache.length ∧ nf = x.eng.files.length := by
  obtain ⟨vc', vf', e, h1, h2⟩ := he0
  unfold vE at e
  simp only [Value.agg.injEq, Array.mk.injEq, List.cons.injEq, true_and, and_true] at e
  obtain ⟨rfl, rfl⟩ := e
  obtain ⟨A1, c1, e1, _⟩ := h1.look
  obtain ⟨A2, c2, e2, _⟩ := st_look h2
  cases e1
  cases e2
  exact ⟨rfl, rfl⟩
 have hns : ns = x.ses.length := by have := hs0.room.1; rw [sesR_length] at this; exact this
 clear hv hb0 he0 hs0 hB hs
 have HE : Hid (metaB x = (inRg x.hold 0 100000 && inRg x.mark 0 1099511627776 && decide (nb ≤ 12) && bokFrom 0 x.bks && firstB x.mark x.bks && (decide (x.eng.floor = 0) && decide (nc = 0) && decide (nf = 0)))) := by
  unfold Hid metaB zeroB
  rw [hnb, hnc.1, hnc.2]
 have HN : Hid (nb = x.bks.length ∧ nc ≤ 1048576 ∧ nf ≤ 1048576 ∧ nb ≤ 1048576) := ⟨hnb, by rw [hnc.1]; exact HS.out.2.1.1.1, by rw [hnc.2]; exact HS.out.2.1.2.2.1, by rw [hnb]; exact HS.out.1⟩
 clear hnb hnc hns
 have cH := fun wx => inI x.hold 0 100000 wx
 have cM := fun wx => inI x.mark 0 1099511627776 wx
 unfold vSt
 generalize hsk : x.kind = sk at *
 generalize hsh : x.hold = sh at *
 generalize hsm : x.mark = sm at *
 generalize hsf : x.eng.floor = sf at *
 clear hsk hsh hsm hsf
 obtain ⟨X0, hX0⟩ : ∃ X0, X0 = w.alloc (.cells #[.int .i64 sk, .int .i64 sh, .int .i64 sm, .slice Ab nb cb, .int .i64 sf, .slice Ac nc cc, .slice Af nf cf, .slice As ns cs] 38) := ⟨_, rfl⟩
 have BX : Hid (Below w.heap.size w X0) := by unfold Hid; rw [hX0]; exact (Below.refl _ w).alloc (Nat.le_refl _) _
 have KX : Hid (Blk X0 w.heap.size #[.int .i64 sk, .int .i64 sh, .int .i64 sm, .slice Ab nb cb, .int .i64 sf, .slice Ac nc cc, .slice Af nf cf, .slice As ns cs] 38) := by unfold Hid; rw [hX0]; exact Blk.new w _ _
 have c1 := implBucketsOk x.bks (.slice Ab nb cb) X0 B (LB.out.on (BX.out.mono HB.out)) HS.out.1 (Nat.le_trans HB.out BX.out.size)
 have hnq := HN.out
 have q1 : (nb : Int) ≤ 1048576 := by omega
 have q2 : (nc : Int) ≤ 1048576 := by omega
 have q3 : (nf : Int) ≤ 1048576 := by omega
 clear hnq
 cases h1 : inRg sh 0 100000 <;> rw [h1] at cH HE <;> clear h1
 ·go_enter Tryz.func39, Tryz.ntmps39
  go_wp2_with fail
  refine (cH _).mono ?_
  rintro e w' ⟨rfl, rfl⟩
  go_wp2_with fail
  rw [← hX0]
  go_ret
  exact ⟨by rw [HE.out]; rfl, BX.out⟩
 cases h2 : inRg sm 0 1099511627776 <;> rw [h2] at cM HE <;> clear h2
 ·go_enter Tryz.func39, Tryz.ntmps39
  go_wp2_with fail
  refine (cH _).mono ?_
  rintro e w' ⟨rfl, rfl⟩
  go_wp2_with fail
  refine (cM _).mono ?_
  rintro e w' ⟨rfl, rfl⟩
  go_wp2_with fail
  rw [← hX0]
  go_ret
  exact ⟨by rw [HE.out]; rfl, BX.out⟩
 rcases Nat.lt_or_ge 12 nb with h3 | h3
 ·rw [show decide (nb ≤ 12) = false from decide_eq_false (by omega)] at HE
  have d3 : (12 : Int) < (nb : Int) := by omega
  clear h3
  go_enter Tryz.func39, Tryz.ntmps39
  go_wp2_with fail
  refine (cH _).mono ?_
  rintro e w' ⟨rfl, rfl⟩
  go_wp2_with fail
  refine (cM _).mono ?_
  rintro e w' ⟨rfl, rfl⟩
  go_wp2_with fail
  rw [← hX0]
  go_ret
  exact ⟨by rw [HE.out]; rfl, BX.out⟩
 rw [decide_eq_true h3] at HE
 have d3 : decide ((12 : Int) < (nb : Int)) = false := decide_eq_false (by omega)
 have H12 : Hid (nb ≤ 12) := h3
 clear h3
 go_enter Tryz.func39, Tryz.ntmps39
 go_wp2_with fail
 refine (cH _).mono ?_
 rintro e w' ⟨rfl, rfl⟩
 go_wp2_with fail
 refine (cM _).mono ?_
 rintro e w' ⟨rfl, rfl⟩
 go_wp2_with fail
 rw [← hX0]
 clear hX0
 refine c1.mono ?_
 rintro e X1 ⟨rfl, hb1⟩
 have B1 : Hid (Below w.heap.size w X1) := BX.out.trans (hb1.mono BX.out.size)
 have KX1 : Hid (Blk X1 w.heap.size #[.int .i64 sk, .int .i64 sh, .int .i64 sm, .slice Ab nb cb, .int .i64 sf, .slice Ac nc cc, .slice Af nf cf, .slice As ns cs] 38) := KX.out.on hb1 KX.out.lt
 clear hb1 c1 cH cM
 cases h4 : bokFrom 0 x.bks
 ·rw [h4] at HE
  go_wp2_with fail
  go_ret
  exact ⟨by rw [HE.out]; rfl, B1.out⟩
 rw [h4] at HE
 have k2 := KX1.out.cell 2 _ rfl
 have k3 := KX1.out.cell 3 _ rfl
 have k4 := KX1.out.cell 4 _ rfl
 have k5 := KX1.out.cell 5 _ rfl
 have k6 := KX1.out.cell 6 _ rfl
 by_cases h5 : nb = 0
 ·have HF : Hid (firstB sm x.bks = true) := by
   unfold Hid
   rw [show x.bks = [] from List.eq_nil_of_length_eq_zero (by rw [← HN.out.1]; exact h5)]
   rfl
  rw [HF.out] at HE
  have d0 : decide ((0 : Int) < (nb : Int)) = false := decide_eq_false (by omega)
  have d1 : decide (0 < nb) = false := decide_eq_false (by omega)
  have S0 : Hid (X1.drew.cell? ⟨w.heap.size, 2, none⟩ = some (.int .i64 sm) ∧ X1.drew.cell? ⟨w.heap.size, 3, none⟩ = some (.slice Ab nb cb)) := ⟨k2, k3⟩
  have B1d : Hid (Below w.heap.size w X1.drew) := B1.out.drew
  replace k4 : X1.drew.cell? _ = _ := k4
  replace k5 : X1.drew.cell? _ = _ := k5
  replace k6 : X1.drew.cell? _ = _ := k6
  clear h5 k2 k3
  go_wp2_with fail
  refine wp_region_until (fun w' => w'.cell? ⟨w.heap.size, 2, none⟩ = some (.int .i64 sm) ∧ w'.cell? ⟨w.heap.size, 3, none⟩ = some (.slice Ab nb cb)) (fun _ => false) 14 (by rfl) (by kernel_rfl) ?_
  refine tKe 0 (v := ?_) S0.out ?_ ?_; rotate_left; focus (intro w hSw; (try dsimp only at hSw); go_simp; try with_reducible rfl)
  try simp only [Act.put, zQ1, zQ2, zQ3]
  refine tKe 1 (v := ?_) S0.out ?_ ?_; rotate_left; focus (intro w hSw; (try dsimp only at hSw); go_simp; try with_reducible rfl)
  try simp only [Act.put, zQ1, zQ2, zQ3]
  refine tKe 2 (v := ?_) S0.out ?_ ?_; rotate_left; focus (intro w hSw; (try dsimp only at hSw); go_simp; try with_reducible rfl)
  try simp only [Act.put, zQ1, zQ2, zQ3]
  refine tKe 3 (v := ?_) S0.out ?_ ?_; rotate_left; focus (intro w hSw; (try dsimp only at hSw); go_simp; try with_reducible rfl)
  try simp only [Act.put, zQ1, zQ2, zQ3]
  refine tKe 4 (v := ?_) S0.out ?_ ?_; rotate_left; focus (intro w hSw; (try dsimp only at hSw); go_simp; try with_reducible rfl)
  try simp only [Act.put, zQ1, zQ2, zQ3]
  refine sKi 5 ?_
  try simp only [Act.put, zQ1, zQ2, zQ3]
  refine sKi 6 ?_
  try simp only [Act.put, zQ1, zQ2, zQ3]
  refine sKi 7 ?_
  try simp only [Act.put, zQ1, zQ2, zQ3]
  refine sKi 8 ?_
  try simp only [Act.put, zQ1, zQ2, zQ3]
  refine sKi 9 ?_
  try simp only [Act.put, zQ1, zQ2, zQ3]
  refine sKi 10 ?_
  try simp only [Act.put, zQ1, zQ2, zQ3]
  refine sKi 11 ?_
  try simp only [Act.put, zQ1, zQ2, zQ3]
  refine sKi 12 ?_
  try simp only [Act.put, zQ1, zQ2, zQ3]
  refine tKe 13 (v := ?_) S0.out ?_ ?_; rotate_left; focus (intro w hSw; (try dsimp only at hSw); go_simp; try with_reducible rfl)
  try simp only [Act.put, zQ1, zQ2, zQ3]
  refine until_done (by kernel_rfl) ?_ _
  by_cases z1 : sf = 0
  ·subst z1
   by_cases z2 : nc = 0
   ·have e2 : ((nc : Int) == 0) = true := by simp; omega
    by_cases z3 : nf = 0
    ·have e3 : ((nf : Int) == 0) = true := by simp; omega
     rw [decide_eq_true rfl, decide_eq_true z2, decide_eq_true z3] at HE
     clear z2 z3
     go_wp2_with fail
     go_ret
     exact ⟨by rw [HE.out]; rfl, B1d.out⟩
    ·have e3 : ((nf : Int) == 0) = false := by simp; omega
     rw [decide_eq_true rfl, decide_eq_true z2, decide_eq_false z3] at HE
     clear z2 z3
     go_wp2_with fail
     go_ret
     exact ⟨by rw [HE.out]; rfl, B1d.out⟩
   ·have e2 : ((nc : Int) == 0) = false := by simp; omega
    rw [decide_eq_true rfl, decide_eq_false z2] at HE
    clear z2
    go_wp2_with fail
    go_ret
    exact ⟨by rw [HE.out]; rfl, B1d.out⟩
  ·have e1 : (sf == 0) = false := by simpa using z1
   rw [decide_eq_false z1] at HE
   clear z1
   go_wp2_with fail
   go_ret
   exact ⟨by rw [HE.out]; rfl, B1d.out⟩
 ·have hpos : 0 < nb := by omega
  obtain ⟨gA, cA, eA, hlk⟩ := pt_look (LB.out.on (B1.out.mono HB.out))
  rw [← HN.out.1] at eA
  cases eA
  obtain ⟨g, off, rfl, hg, hz0, _⟩ := hlk 0 (by rw [← HN.out.1]; exact hpos)
  have hbk := bok_drop x.bks 0 (by rw [← HN.out.1]; exact hpos) 0
  rw [List.drop_zero, h4] at hbk
  have hin : inRg (x.bks.getD 0 default).t 0 10995116277 = true := by
   have := hbk.symm
   rw [Bool.and_eq_true, Bool.and_eq_true] at this
   exact this.1.1
  have hfirst : Hid (firstB sm x.bks = !(decide (((x.bks.getD 0 default).t + 1) * 100 ≤ sm))) := by
   unfold Hid
   cases hq : x.bks with
   | nil => rw [hq] at HN; have := HN.out.1; simp at this; omega
   | cons y l =>
    show decide (sm < (y.t + 1) * 100) = !(decide ((y.t + 1) * 100 ≤ sm))
    by_cases hh : (y.t + 1) * 100 ≤ sm
    ·rw [decide_eq_true hh, decide_eq_false (by omega)]; rfl
    ·rw [decide_eq_false hh, decide_eq_true (by omega)]; rfl
  rw [hfirst.out] at HE
  generalize (x.bks.getD 0 default).t = z at *
  have hzb := inRg_true.1 hin
  have cP := fun wx => implPast z sm wx (by omega) (by omega)
  clear hlk hbk hin hfirst hzb
  have d0 : (0 : Int) < (nb : Int) := by omega
  rw [Nat.zero_mul, Nat.add_zero] at hz0
  have S0 : Hid (X1.drew.cell? ⟨w.heap.size, 2, none⟩ = some (.int .i64 sm) ∧ X1.drew.cell? ⟨w.heap.size, 3, none⟩ = some (.slice (some ⟨g, off, none⟩) nb cb) ∧ X1.drew.cell? ⟨g, off, none⟩ = some (.int .i64 z)) := ⟨k2, k3, hz0⟩
  have B1d : Hid (Below w.heap.size w X1.drew) := B1.out.drew
  replace k4 : X1.drew.cell? _ = _ := k4
  replace k5 : X1.drew.cell? _ = _ := k5
  replace k6 : X1.drew.cell? _ = _ := k6
  clear h5 k2 k3 hz0
  generalize decide ((z + 1) * 100 ≤ sm) = bz at *
  go_wp2_with fail
  refine wp_region_until (fun w' => w'.cell? ⟨w.heap.size, 2, none⟩ = some (.int .i64 sm) ∧ w'.cell? ⟨w.heap.size, 3, none⟩ = some (.slice (some ⟨g, off, none⟩) nb cb) ∧ w'.cell? ⟨g, off, none⟩ = some (.int .i64 z)) (fun _ => false) 14 (by rfl) (by kernel_rfl) ?_
  refine tKe 0 (v := ?_) S0.out ?_ ?_; rotate_left; focus (intro w hSw; (try dsimp only at hSw); go_simp; try with_reducible rfl)
  try simp only [Act.put, zQ1, zQ2, zQ3]
  refine tKe 1 (v := ?_) S0.out ?_ ?_; rotate_left; focus (intro w hSw; (try dsimp only at hSw); go_simp; try with_reducible rfl)
  try simp only [Act.put, zQ1, zQ2, zQ3]
  refine tKe 2 (v := ?_) S0.out ?_ ?_; rotate_left; focus (intro w hSw; (try dsimp only at hSw); go_simp; try with_reducible rfl)
  try simp only [Act.put, zQ1, zQ2, zQ3]
  refine tKe 3 (v := ?_) S0.out ?_ ?_; rotate_left; focus (intro w hSw; (try dsimp only at hSw); go_simp; try with_reducible rfl)
  try simp only [Act.put, zQ1, zQ2, zQ3]
  refine tKe 4 (v := ?_) S0.out ?_ ?_; rotate_left; focus (intro w hSw; (try dsimp only at hSw); go_simp; try with_reducible rfl)
  try simp only [Act.put, zQ1, zQ2, zQ3]
  refine tKe 5 (v := ?_) S0.out ?_ ?_; rotate_left; focus (intro w hSw; (try dsimp only at hSw); go_simp; try with_reducible rfl)
  try simp only [Act.put, zQ1, zQ2, zQ3]
  refine tKe 6 (v := ?_) S0.out ?_ ?_; rotate_left; focus (intro w hSw; (try dsimp only at hSw); go_simp; try with_reducible rfl)
  try simp only [Act.put, zQ1, zQ2, zQ3]
  refine tKe 7 (v := ?_) S0.out ?_ ?_; rotate_left; focus (intro w hSw; (try dsimp only at hSw); go_simp; try with_reducible rfl)
  try simp only [Act.put, zQ1, zQ2, zQ3]
  refine tKe 8 (v := ?_) S0.out ?_ ?_; rotate_left; focus (intro w hSw; (try dsimp only at hSw); go_simp; try with_reducible rfl)
  try simp only [Act.put, zQ1, zQ2, zQ3]
  refine tKe 9 (v := ?_) S0.out ?_ ?_; rotate_left; focus (intro w hSw; (try dsimp only at hSw); go_simp; try with_reducible rfl)
  try simp only [Act.put, zQ1, zQ2, zQ3]
  refine tKe 10 (v := ?_) S0.out ?_ ?_; rotate_left; focus (intro w hSw; (try dsimp only at hSw); go_simp; try with_reducible rfl)
  try simp only [Act.put, zQ1, zQ2, zQ3]
  refine tKe 11 (v := ?_) S0.out ?_ ?_; rotate_left; focus (intro w hSw; (try dsimp only at hSw); go_simp; try with_reducible rfl)
  try simp only [Act.put, zQ1, zQ2, zQ3]
  refine uNe 12 (fun K hK => ?_)
  go_simp
  refine (cP _).mono ?_
  rintro e w' ⟨rfl, rfl⟩
  go_wp2_with fail
  refine hK.out _ _ (fun _ h => h) ?_
  clear hK K
  try simp only [Act.put, zQ1, zQ2, zQ3]
  refine tKe 13 (v := ?_) S0.out ?_ ?_; rotate_left; focus (intro w hSw; (try dsimp only at hSw); go_simp; try with_reducible rfl)
  try simp only [Act.put, zQ1, zQ2, zQ3]
  refine until_done (by kernel_rfl) ?_ _
  cases bz
  ·skip
   by_cases z1 : sf = 0
   ·subst z1
    by_cases z2 : nc = 0
    ·have e2 : ((nc : Int) == 0) = true := by simp; omega
     by_cases z3 : nf = 0
     ·have e3 : ((nf : Int) == 0) = true := by simp; omega
      rw [decide_eq_true rfl, decide_eq_true z2, decide_eq_true z3] at HE
      clear z2 z3
      go_wp2_with fail
      go_ret
      exact ⟨by rw [HE.out]; rfl, B1d.out⟩
     ·have e3 : ((nf : Int) == 0) = false := by simp; omega
      rw [decide_eq_true rfl, decide_eq_true z2, decide_eq_false z3] at HE
      clear z2 z3
      go_wp2_with fail
      go_ret
      exact ⟨by rw [HE.out]; rfl, B1d.out⟩
    ·have e2 : ((nc : Int) == 0) = false := by simp; omega
     rw [decide_eq_true rfl, decide_eq_false z2] at HE
     clear z2
     go_wp2_with fail
     go_ret
     exact ⟨by rw [HE.out]; rfl, B1d.out⟩
   ·have e1 : (sf == 0) = false := by simpa using z1
    rw [decide_eq_false z1] at HE
    clear z1
    go_wp2_with fail
    go_ret
    exact ⟨by rw [HE.out]; rfl, B1d.out⟩
  ·go_wp2_with fail
   go_ret
   exact ⟨by rw [HE.out]; rfl, B1d.out⟩
end Go.Proofs.YtikknmoeefipmaaGreatDoor
namespace Go.Proofs.YtikknmoeefipmaaGreatDoor
open Go.ChangeShapes Go.WideShapes Go.ChangeAt Go.RowKit Go.PlainAid
set_option linter.unusedVariables false
def AtR (l : List Ser) (k : ByteArray) (r : Int) : Prop := (r = -1 ∧ ∀ x ∈ l, x.key ≠ k) ∨ ∃ j : Nat, r = (j : Int) ∧ j < l.length ∧ (l.getD j default).key = k ∧ ∀ i, i < j → (l.getD i default).key ≠ k
theorem ptsAt_at {k : ByteArray} : ∀ {l : List Ser} {j : Nat}, j < l.length → (l.getD j default).key = k → (∀ i, i < j → (l.getD i default).key ≠ k) → ptsAt l k = (l.getD j default).pts
 | x :: l, 0, _, h, _ => by
  have hx : x.key = k := h
  rw [ptsAt, if_pos hx]
  rfl
 | x :: l, j + 1, hj, h, hi => by
  have hx : x.key ≠ k := hi 0 (by omega)
  rw [ptsAt, if_neg hx]
  exact ptsAt_at (l := l) (by simpa using hj) h fun i h' => hi (i + 1) (by omega)
set_option maxHeartbeats 1000000 in
theorem specAt (l : List Ser) (key : ByteArray) (v : Value) (w : World) (B : Nat) (hv : SerV w B v l) (hn : l.length ≤ 1048576) :
  Calls Tryz.prog 149 #[v, .string key] w fun e w' => (∃ r : Int, e = .returned (.int .i64 r) ∧ Hid (AtR l key r)) ∧ w = w' := by
 obtain ⟨A, cap, rfl, hl⟩ := hv.look
 have HL : Hid (∀ j, j < l.length → ∃ g off u, A = some ⟨g, off, none⟩ ∧ g < B ∧ w.cell? ⟨g, off + j * 2, none⟩ = some (.string (l.getD j default).key) ∧ w.cell? ⟨g, off + j * 2 + 1, none⟩ = some u ∧ Lies w B 2 u (ptR (l.getD j default).pts)) := hl
 have q1 : (l.length : Int) ≤ 1048576 := by omega
 clear hl hv hn
 generalize hN : l.length = n at *
 have HN : Hid (l.length = n) := hN
 clear hN
 go_enter Tryz.func149, Tryz.ntmps149
 go_wp2_with fail
 go_loop [5] (fun v5 => ∃ k : Nat, k ≤ n ∧ v5 = .int .i64 (k : Int) ∧ Hid (∀ i, i < k → (l.getD i default).key ≠ key)) (fun i => n - (intOf i).toNat)
 case atStart => exact ⟨0, by omega, rfl, fun i hi => by omega⟩
 case round =>
  obtain ⟨k, hk, rfl, HJ⟩ := hrel
  by_cases hlt : k < n
  ·have q4 : (k : Int) < (n : Int) := by omega
   obtain ⟨g, off, u, rfl, hg, e1, e2, _⟩ := HL.out k hlt
   by_cases hkey : (l.getD k default).key = key
   ·have HF : Hid (AtR l key (k : Int)) := .inr ⟨k, rfl, by rw [HN.out]; exact hlt, hkey, HJ.out⟩
    rw [hkey] at e1
    clear hkey
    go_wp2_with fail
    go_ret
    exact ⟨⟨_, rfl, HF⟩, rfl⟩
   ·have HK : Hid ((l.getD k default).key ≠ key) := hkey
    have hne := bytes_ne hkey
    clear hkey
    generalize (l.getD k default).key = xk at e1 hne
    go_wp2_with fail
    go_round
    case rel =>
     refine ⟨k + 1, by omega, by go_num, fun i hi => ?_⟩
     by_cases e : i = k
     ·rw [e]; exact HK.out
     ·exact HJ.out i (by omega)
    case measure => simp [intOf]; omega
  ·obtain rfl : k = n := by omega
   have HF : Hid (AtR l key (-1)) := .inl ⟨rfl, fun x hx => by
    obtain ⟨j, hj, rfl⟩ := List.getElem_of_mem hx
    rw [getD_at l j hj]
    exact HJ.out j (by rw [← HN.out]; exact hj)⟩
   go_wp2_with fail
   go_ret
   exact ⟨⟨_, rfl, HF⟩, rfl⟩
theorem cntS_le (l : List Ser) (h : ∀ x ∈ l, x.pts.length ≤ 1000) : ∀ k, k ≤ l.length → cntS (l.take k) ≤ 1000 * k
 | 0, _ => by simp [cntS]
 | k + 1, hk => by
  have ih := cntS_le l h k (by omega)
  have := h _ (getD_mem l k (by omega))
  rw [cntS_snoc l k (by omega)]
  omega
set_option maxHeartbeats 1000000 in
theorem specCount (l : List Ser) (v : Value) (w : World) (B : Nat) (hv : SerV w B v l) (hn : l.length ≤ 1000) (hs : ∀ x ∈ l, x.pts.length ≤ 1000) :
  Calls Tryz.prog 72 #[v] w fun e w' => e = .returned (.int .i64 (cntS l : Int)) ∧ w = w' := by
 obtain ⟨A, cap, rfl, hl⟩ := hv.look
 have HL : Hid (∀ j, j < l.length → ∃ g off u, A = some ⟨g, off, none⟩ ∧ g < B ∧ w.cell? ⟨g, off + j * 2, none⟩ = some (.string (l.getD j default).key) ∧ w.cell? ⟨g, off + j * 2 + 1, none⟩ = some u ∧ Lies w B 2 u (ptR (l.getD j default).pts)) := hl
 have HC : Hid (∀ k, k ≤ l.length → cntS (l.take k) ≤ 1000 * k) := cntS_le l hs
 have HS : Hid (∀ k, k < l.length → cntS (l.take (k + 1)) = cntS (l.take k) + (l.getD k default).pts.length) := fun k hk => cntS_snoc l k hk
 have HT : Hid (∀ k, k = l.length → cntS (l.take k) = cntS l) := fun k hk => by rw [hk, List.take_length]
 have HM : Hid (∀ k, k < l.length → (l.getD k default).pts.length ≤ 1000) := fun k hk => hs _ (getD_mem l k hk)
 have H0 : Hid (cntS (l.take 0) = 0) := by simp [Hid, cntS]
 have q1 : (l.length : Int) ≤ 1000 := by omega
 clear hl hv hs
 generalize hN : l.length = n at *
 clear hN
 go_enter Tryz.func72, Tryz.ntmps72
 go_wp2_with fail
 go_loop [3, 4] (fun v3 v4 => ∃ k : Nat, k ≤ n ∧ v4 = .int .i64 (k : Int) ∧ v3 = .int .i64 (cntS (l.take k) : Int)) (fun _ i => n - (intOf i).toNat)
 case atStart => exact ⟨0, by omega, rfl, by rw [H0.out]; rfl⟩
 case round =>
  obtain ⟨k, hk, rfl, rfl⟩ := hrel
  by_cases hlt : k < n
  ·have q4 : (k : Int) < (n : Int) := by omega
   obtain ⟨g, off, u, rfl, hg, e1, e2, hu⟩ := HL.out k hlt
   obtain ⟨A', c', rfl, _⟩ := pt_look hu
   have h1 := HC.out k hk
   have h2 := HM.out k hlt
   have h3 := HS.out k hlt
   have HE : Hid (cntS (l.take (k + 1)) = cntS (l.take k) + (l.getD k default).pts.length) := h3
   clear hu h3
   generalize cntS (l.take k) = c at *
   generalize (l.getD k default).pts.length = p at *
   have q5 : (c : Int) ≤ 1000000 := by omega
   have q6 : (p : Int) ≤ 1000 := by omega
   have w2 : wrap64 ((c : Int) + (p : Int)) = (c : Int) + (p : Int) := by unfold wrap64; omega
   go_wp2_with fail
   go_round
   case rel => exact ⟨k + 1, by omega, by go_num, by rw [HE.out]; go_num⟩
   case measure => simp [intOf]; omega
  ·obtain rfl : k = n := by omega
   have HE := HT.out k rfl
   go_wp2_with fail
   go_ret
   exact ⟨rfl, rfl⟩
end Go.Proofs.YtikknmoeefipmaaGreatDoor
namespace Go.Proofs.YtikknmoeefipmaaGreatDoor
open Go.ChangeShapes Go.WideShapes Go.ChangeAt Go.RowKit Go.PlainAid
set_option linter.unusedVariables false
def preK (ls : List (List Ser)) (i k : Nat) : List ByteArray := keysOf (ls.take i) ++ ((ls.getD i []).take k).map Ser.key
theorem keysOf_snoc (ls : List (List Ser)) (l : List Ser) : keysOf (ls ++ [l]) = keysOf ls ++ l.map Ser.key := by unfold keysOf; rw [List.flatten_append, List.map_append]; simp
theorem preK_zero (ls : List (List Ser)) : preK ls 0 0 = [] := by simp [preK, keysOf]
theorem preK_step (ls : List (List Ser)) (i k : Nat) (h : k < (ls.getD i []).length) : preK ls i (k + 1) = preK ls i k ++ [((ls.getD i []).getD k default).key] := by
 unfold preK
 rw [take_getD _ k h, List.map_append, List.append_assoc]
 rfl
theorem preK_next (ls : List (List Ser)) (i : Nat) (h : i < ls.length) : preK ls i (ls.getD i []).length = preK ls (i + 1) 0 := by
 unfold preK
 rw [List.take_length, List.take_zero, List.map_nil, List.append_nil]
 have e : ls.take (i + 1) = ls.take i ++ [ls.getD i []] := by
  rw [List.take_add_one, List.getElem?_eq_getElem h, List.getD_eq_getElem?_getD, List.getElem?_eq_getElem h]
  rfl
 rw [e, keysOf_snoc]
theorem preK_all (ls : List (List Ser)) : preK ls ls.length 0 = keysOf ls := by
 unfold preK
 rw [List.take_length, List.take_zero, List.map_nil, List.append_nil]
theorem allK_snoc (ks : List ByteArray) (k : ByteArray) : allK (ks ++ [k]) = insK (allK ks) k := by unfold allK; rw [List.foldl_append]; rfl
theorem insK_len (k : ByteArray) : ∀ l : List ByteArray, (insK l k).length ≤ l.length + 1
 | [] => by simp [insK]
 | x :: l => by
  have ih := insK_len k l
  rw [insK]
  split
  ·omega
  ·split
   ·simp
   ·simp; omega
theorem foldK_len : ∀ (ks a : List ByteArray), (ks.foldl insK a).length ≤ a.length + ks.length
 | [], a => by simp
 | k :: ks, a => by
  have h1 := foldK_len ks (insK a k)
  have h2 := insK_len k a
  rw [List.foldl_cons, List.length_cons]
  omega
theorem keysOf_len : ∀ (ls : List (List Ser)), (∀ l ∈ ls, l.length ≤ 10) → (keysOf ls).length ≤ 10 * ls.length
 | [], _ => by simp [keysOf]
 | l :: ls, h => by
  have h1 := keysOf_len ls fun m hm => h m (by simp [hm])
  have h2 := h l (by simp)
  have e : keysOf (l :: ls) = l.map Ser.key ++ keysOf ls := by simp [keysOf]
  rw [e, List.length_append, List.length_map, List.length_cons]
  omega
theorem getD_memL (ls : List (List Ser)) (i : Nat) (h : i < ls.length) : ls.getD i [] ∈ ls := by
 rw [List.getD_eq_getElem?_getD, List.getElem?_eq_getElem h]
 exact List.getElem_mem h
theorem preK_len (ls : List (List Ser)) (hl : ∀ l ∈ ls, l.length ≤ 10) (hn : ls.length ≤ 10) (i k : Nat) (hi : i ≤ ls.length) : (allK (preK ls i k)).length ≤ 200 := by
 have h1 := foldK_len (preK ls i k) []
 have h2 := keysOf_len (ls.take i) fun l hm => hl l (List.mem_of_mem_take hm)
 have h3 : (ls.take i).length ≤ 10 := by rw [List.length_take]; omega
 have h4 : ((ls.getD i []).take k).length ≤ 10 := by
  rw [List.length_take]
  by_cases h : i < ls.length
  ·have := hl _ (getD_memL ls i h)
   omega
  ·have e : ls.getD i [] = [] := by rw [List.getD_eq_getElem?_getD, List.getElem?_eq_none (by omega)]; rfl
   rw [e]; simp
 have h5 : (preK ls i k).length ≤ 200 := by
  unfold preK
  rw [List.length_append, List.length_map]
  omega
 unfold allK
 simp only [List.length_nil] at h1
 omega
set_option maxHeartbeats 2000000 in
theorem specKeys (ls : List (List Ser)) (v : Value) (w : World) (B : Nat) (hv : LayV w B v ls) (hn : ls.length ≤ 10) (hs : ∀ l ∈ ls, l.length ≤ 10) (hB : B ≤ w.heap.size) :
  Calls Tryz.prog 112 #[v] w fun e w' => (∃ u, e = .returned u ∧ Owns w' w.heap.size 9 1 u (stR (keysL ls))) ∧ Below w.heap.size w w' := by
 obtain ⟨A, cap, rfl, hl⟩ := hv.look
 have HL : Hid (∀ j, j < ls.length → ∃ g off u, A = some ⟨g, off, none⟩ ∧ g < B ∧ w.cell? ⟨g, off + j, none⟩ = some u ∧ SerV w B u (ls.getD j [])) := hl
 have HB : Hid (B ≤ w.heap.size) := hB
 have HP : Hid (∀ i k, i ≤ ls.length → (allK (preK ls i k)).length ≤ 200) := fun i k hi => preK_len ls hs hn i k hi
 have H0 : Hid (allK (preK ls 0 0) = []) := by unfold Hid; rw [preK_zero]; rfl
 have HSt : Hid (∀ i k, k < (ls.getD i []).length → allK (preK ls i (k + 1)) = insK (allK (preK ls i k)) ((ls.getD i []).getD k default).key) := fun i k h => by rw [preK_step ls i k h, allK_snoc]
 have HNx : Hid (∀ i, i < ls.length → allK (preK ls i (ls.getD i []).length) = allK (preK ls (i + 1) 0)) := fun i h => by rw [preK_next ls i h]
 have HA : Hid (allK (preK ls ls.length 0) = keysL ls) := by unfold Hid; rw [preK_all]; rfl
 have HL1 : Hid (∀ i, i < ls.length → (ls.getD i []).length ≤ 10) := fun i hi => hs _ (getD_memL ls i hi)
 have q1 : (ls.length : Int) ≤ 10 := by omega
 clear hl hv hs hB hn
 generalize hN : ls.length = n at *
 clear hN
 have BE : Hid (Below w.heap.size w (w.alloc (.cells #[] 9))) := (Below.refl _ w).alloc (Nat.le_refl _) _
 have OE : Hid (Owns (w.alloc (.cells #[] 9)) w.heap.size 9 1 (.slice (some ⟨w.heap.size, 0, none⟩) 0 0) (stR [])) := Owns.empty w w.heap.size 9 1 (Nat.le_refl _)
 go_enter Tryz.func112, Tryz.ntmps112
 go_wp2_with fail
 go_loopw [3, 4] (fun v3 v4 wr => ∃ i : Nat, i ≤ n ∧ v4 = .int .i64 (i : Int) ∧ Owns wr w.heap.size 9 1 v3 (stR (allK (preK ls i 0))) ∧ Below w.heap.size w wr) (fun _ i _ => n - (intOf i).toNat)
 case atStart => exact ⟨0, by omega, rfl, by rw [H0.out]; exact OE.out, BE.out⟩
 case round =>
  obtain ⟨i, hi, rfl, hO, hb⟩ := hrel
  have HO : Hid (Owns wr w.heap.size 9 1 u3 (stR (allK (preK ls i 0)))) := hO
  have HBr : Hid (Below w.heap.size w wr) := hb
  obtain ⟨A3, n3, c3, rfl⟩ := hO.shape
  clear hO hb
  by_cases hlt : i < n
  ·have q4 : (i : Int) < (n : Int) := by omega
   obtain ⟨g, off, u, rfl, hg, e1, hu⟩ := HL.out i hlt
   have hgw : g < w.heap.size := Nat.lt_of_lt_of_le hg HB.out
   have HE1 : Hid (w.cell? ⟨g, off + i, none⟩ = some u) := e1
   obtain ⟨A', c', rfl, hlu⟩ := hu.look
   have HU : Hid (∀ j, j < (ls.getD i []).length → ∃ g off u, A' = some ⟨g, off, none⟩ ∧ g < B ∧ w.cell? ⟨g, off + j * 2, none⟩ = some (.string ((ls.getD i []).getD j default).key) ∧ w.cell? ⟨g, off + j * 2 + 1, none⟩ = some u ∧ Lies w B 2 u (ptR ((ls.getD i []).getD j default).pts)) := hlu
   have hmm := HL1.out i hlt
   have HNi : Hid (allK (preK ls i (ls.getD i []).length) = allK (preK ls (i + 1) 0)) := HNx.out i hlt
   have HSi : Hid (∀ k, k < (ls.getD i []).length → allK (preK ls i (k + 1)) = insK (allK (preK ls i k)) ((ls.getD i []).getD k default).key) := fun k h => HSt.out i k h
   have HPi : Hid (∀ k, (allK (preK ls i k)).length ≤ 200) := fun k => HP.out i k hi
   clear e1 hu hlu
   generalize ls.getD i [] = li at *
   generalize hm : li.length = m at *
   clear hm
   go_wp2_with fail
   go_loopw [3, 5] (fun v3 v5 wr' => ∃ k : Nat, k ≤ m ∧ v5 = .int .i64 (k : Int) ∧ Owns wr' w.heap.size 9 1 v3 (stR (allK (preK ls i k))) ∧ Below w.heap.size w wr') (fun _ i _ => m - (intOf i).toNat)
   case atStart => exact ⟨0, by omega, rfl, HO.out, HBr.out⟩
   case round =>
    obtain ⟨k, hk, rfl, hO, hb⟩ := hrel
    have HO2 : Hid (Owns wr w.heap.size 9 1 u3 (stR (allK (preK ls i k)))) := hO
    have HB2 : Hid (Below w.heap.size w wr) := hb
    obtain ⟨A4, n4, c4, rfl⟩ := hO.shape
    clear hO hb
    have e1 := HE1.out
    rw [← HB2.out.cell (p := ⟨_, _, none⟩) hgw] at e1
    by_cases hkm : k < m
    ·have q5 : (k : Int) < (m : Int) := by omega
     obtain ⟨g2, off2, u2, rfl, hg2, d1, d2, _⟩ := HU.out k hkm
     rw [← HB2.out.cell (p := ⟨_, _, none⟩) (Nat.lt_of_lt_of_le hg2 HB.out)] at d1
     have c1 := specName (allK (preK ls i k)) (li.getD k default).key (.slice A4 n4 c4) wr w.heap.size HO2.out (by have := HPi.out k; omega) (rise_allK _) HB2.out.size
     have HE : Hid (allK (preK ls i (k + 1)) = insK (allK (preK ls i k)) (li.getD k default).key) := HSi.out k hkm
     generalize (li.getD k default).key = x at d1 c1 HE
     go_wp2_with fail
     refine c1.mono ?_
     rintro e w2 ⟨⟨u, rfl, hO⟩, hb⟩
     have O3 : Hid (Owns w2 w.heap.size 9 1 u (stR (allK (preK ls i (k + 1))))) := by unfold Hid; rw [HE.out]; exact hO
     have B3 : Hid (Below w.heap.size w w2) := HB2.out.trans (hb.mono HB2.out.size)
     clear hO hb c1
     go_wp2_with fail
     go_roundw
     case rel => exact ⟨k + 1, by omega, by go_num, O3.out, B3.out⟩
     case measure => simp [intOf]; omega
    ·obtain rfl : k = m := by omega
     go_wp2_with fail
     go_roundw
     case rel => exact ⟨i + 1, by omega, by go_num, by rw [← HNi.out]; exact HO2.out, HB2.out⟩
     case measure => simp [intOf]; omega
  ·obtain rfl : i = n := by omega
   go_wp2_with fail
   go_ret
   refine ⟨⟨_, rfl, ?_⟩, HBr.out⟩
   rw [← HA.out]
   exact HO.out
theorem hasAll_take (ls : List (List Ser)) (key : ByteArray) (i : Nat) (h : i < ls.length) : hasAll (ls.take (i + 1)) key = mrg (hasAll (ls.take i) key) (ptsAt (ls.getD i []) key) := by
 have e : ls.take (i + 1) = ls.take i ++ [ls.getD i []] := by
  rw [List.take_add_one, List.getElem?_eq_getElem h, List.getD_eq_getElem?_getD, List.getElem?_eq_getElem h]
  rfl
 rw [e, hasAll_snoc]
def LFew (ls : List (List Ser)) : Prop := ls.length ≤ 10 ∧ ∀ l ∈ ls, l.length ≤ 10 ∧ ∀ x ∈ l, x.pts.length ≤ 200
theorem ptsAt_few {l : List Ser} (h : ∀ x ∈ l, x.pts.length ≤ 200) (k : ByteArray) : (ptsAt l k).length ≤ 200 := by
 rcases ptsAt_some (k := k) (l := l) with e | ⟨x, hx, _, e⟩
 ·rw [e]; simp
 ·rw [e]; exact h x hx
theorem LFew.has {ls : List (List Ser)} (h : LFew ls) (key : ByteArray) (i : Nat) : (hasAll (ls.take i) key).length ≤ 2000 := by
 have h1 := hasAll_len key 200 (ls.take i) [] fun l hl => ptsAt_few (h.2 l (List.mem_of_mem_take hl)).2 key
 have h2 : (ls.take i).length ≤ 10 := by rw [List.length_take]; have := h.1; omega
 unfold hasAll
 simp only [List.length_nil] at h1
 omega
set_option maxHeartbeats 2000000 in
theorem specHas (ls : List (List Ser)) (f : Int) (key : ByteArray) (v : Value) (w : World) (B : Nat) (hv : LayV w B v ls) (hf : LFew ls) (hB : B ≤ w.heap.size) :
  Calls Tryz.prog 106 #[v, .int .i64 f, .string key] w fun e w' => (∃ u, e = .returned u ∧ Owns w' w.heap.size 90 2 u (ptR ((hasAll ls key).filter (inP f 1099511627777)))) ∧ Below w.heap.size w w' := by
 obtain ⟨A, cap, rfl, hl⟩ := hv.look
 have HL : Hid (∀ j, j < ls.length → ∃ g off u, A = some ⟨g, off, none⟩ ∧ g < B ∧ w.cell? ⟨g, off + j, none⟩ = some u ∧ SerV w B u (ls.getD j [])) := hl
 have HB : Hid (B ≤ w.heap.size) := hB
 have HF : Hid (LFew ls) := hf
 have HH : Hid (∀ i, (hasAll (ls.take i) key).length ≤ 2000) := hf.has key
 have HT : Hid (∀ i, i < ls.length → hasAll (ls.take (i + 1)) key = mrg (hasAll (ls.take i) key) (ptsAt (ls.getD i []) key)) := hasAll_take ls key
 have HA : Hid (hasAll (ls.take ls.length) key = hasAll ls key) := by unfold Hid; rw [List.take_length]
 have H0 : Hid (hasAll (ls.take 0) key = []) := rfl
 have q1 : (ls.length : Int) ≤ 10 := by have := hf.1; omega
 clear hl hv hB hf
 generalize hN : ls.length = n at *
 have HN : Hid (ls.length = n) := hN
 clear hN
 have BE : Hid (Below w.heap.size w (w.alloc (.cells #[] 90))) := (Below.refl _ w).alloc (Nat.le_refl _) _
 have OE : Hid (Owns (w.alloc (.cells #[] 90)) w.heap.size 90 2 (.slice (some ⟨w.heap.size, 0, none⟩) 0 0) (ptR [])) := Owns.empty w w.heap.size 90 2 (Nat.le_refl _)
 go_enter Tryz.func106, Tryz.ntmps106
 go_wp2_with fail
 go_loopw [7, 8] (fun v7 v8 wr => ∃ i : Nat, i ≤ n ∧ v8 = .int .i64 (i : Int) ∧ Owns wr w.heap.size 90 2 v7 (ptR (hasAll (ls.take i) key)) ∧ Below w.heap.size w wr) (fun _ i _ => n - (intOf i).toNat)
 case atStart => exact ⟨0, by omega, rfl, by rw [H0.out]; exact OE.out, BE.out⟩
 case round =>
  obtain ⟨i, hi, rfl, hO, hb⟩ := hrel
  have HO : Hid (Owns wr w.heap.size 90 2 u7 (ptR (hasAll (ls.take i) key))) := hO
  have HBr : Hid (Below w.heap.size w wr) := hb
  obtain ⟨A3, n3, c3, rfl⟩ := hO.shape
  clear hO hb
  by_cases hlt : i < n
  ·have q4 : (i : Int) < (n : Int) := by omega
   obtain ⟨g, off, u, rfl, hg, e1, hu⟩ := HL.out i hlt
   have hgw : g < w.heap.size := Nat.lt_of_lt_of_le hg HB.out
   rw [← HBr.out.cell (p := ⟨_, _, none⟩) hgw] at e1
   have hfi := HF.out.2 _ (getD_memL ls i (by rw [HN.out]; exact hlt))
   have huw : SerV wr B u (ls.getD i []) := hu.on (HBr.out.mono HB.out)
   have c1 := specAt (ls.getD i []) key u wr B huw (by have := hfi.1; omega)
   obtain ⟨A', c', rfl, hlu⟩ := huw.look
   have HU : Hid (∀ j, j < (ls.getD i []).length → ∃ g off u, A' = some ⟨g, off, none⟩ ∧ g < B ∧ wr.cell? ⟨g, off + j * 2, none⟩ = some (.string ((ls.getD i []).getD j default).key) ∧ wr.cell? ⟨g, off + j * 2 + 1, none⟩ = some u ∧ Lies wr B 2 u (ptR ((ls.getD i []).getD j default).pts)) := hlu
   have HTi : Hid (hasAll (ls.take (i + 1)) key = mrg (hasAll (ls.take i) key) (ptsAt (ls.getD i []) key)) := HT.out i hlt
   have HFi : Hid (∀ x ∈ ls.getD i [], x.pts.length ≤ 200) := hfi.2
   have HHi : Hid ((hasAll (ls.take i) key).length ≤ 2000) := HH.out i
   have qm := hfi.1
   clear hu huw hlu hfi
   generalize ls.getD i [] = li at *
   generalize hasAll (ls.take i) key = a at *
   generalize hm : li.length = m at *
   have HM : Hid (li.length = m) := hm
   clear hm
   have qm' : (m : Int) ≤ 10 := by omega
   go_wp2_with fail
   refine c1.mono ?_
   rintro e w2 ⟨⟨r, rfl, HR⟩, rfl⟩
   rcases HR.out with ⟨rfl, hno⟩ | ⟨j, rfl, hj, hk, hnk⟩
   ·have HE : Hid (hasAll (ls.take (i + 1)) key = a) := by unfold Hid; rw [HTi.out, ptsAt_none hno, mrg_nil]
    clear hno HTi c1 HR
    go_wp2_with fail
    go_roundw
    case rel => exact ⟨i + 1, by omega, by go_num, by rw [HE.out]; exact HO.out, HBr.out⟩
    case measure => simp [intOf]; omega
   ·rw [HM.out] at hj
    have q5 : (j : Int) < (m : Int) := by omega
    obtain ⟨g2, off2, u2, rfl, hg2, d1, d2, hu2⟩ := HU.out j hj
    have HE : Hid (hasAll (ls.take (i + 1)) key = mrg a (li.getD j default).pts) := by unfold Hid; rw [HTi.out, ptsAt_at (by rw [HM.out]; exact hj) hk hnk]
    have hpl := HFi.out _ (getD_mem li j (by rw [HM.out]; exact hj))
    have c2 := specMergeL a (li.getD j default).pts (.slice A3 n3 c3) u2 wr wr.heap.size HO.out.lies (hu2.mono (Nat.le_trans HB.out HBr.out.size)) (by have := HHi.out; omega) (Nat.le_refl _)
    obtain ⟨A6, c6, rfl, _⟩ := pt_look hu2
    have Z : Hid (w.heap.size ≤ wr.heap.size) := HBr.out.size
    clear hk hnk HTi c1 HR d1 hu2
    generalize (li.getD j default).pts = pj at *
    generalize pj.length = pl at *
    go_wp2_with fail
    refine c2.mono ?_
    rintro e w2 ⟨⟨u, rfl, hO⟩, hb⟩
    have O3 : Hid (Owns w2 w.heap.size 90 2 u (ptR (hasAll (ls.take (i + 1)) key))) := by unfold Hid; rw [HE.out]; exact hO.mono Z.out
    have B3 : Hid (Below w.heap.size w w2) := HBr.out.trans (hb.mono Z.out)
    clear hO hb c2
    go_wp2_with fail
    go_roundw
    case rel => exact ⟨i + 1, by omega, by go_num, O3.out, B3.out⟩
    case measure => simp [intOf]; omega
  ·obtain rfl : i = n := by omega
   have c2 := specSliceL (hasAll (ls.take i) key) f 1099511627777 (.slice A3 n3 c3) wr wr.heap.size HO.out.lies (by have := HH.out i; omega) (Nat.le_refl _)
   rw [HA.out] at c2
   have Z : Hid (w.heap.size ≤ wr.heap.size) := HBr.out.size
   go_wp2_with fail
   refine c2.mono ?_
   rintro e w2 ⟨⟨u, rfl, hO⟩, hb⟩
   have O3 : Hid (Owns w2 w.heap.size 90 2 u (ptR ((hasAll ls key).filter (inP f 1099511627777)))) := hO.mono Z.out
   have B3 : Hid (Below w.heap.size w w2) := HBr.out.trans (hb.mono Z.out)
   clear hO hb c2
   go_wp2_with fail
   go_ret
   exact ⟨⟨_, rfl, O3.out⟩, B3.out⟩
end Go.Proofs.YtikknmoeefipmaaGreatDoor
namespace Go.Proofs.YtikknmoeefipmaaGreatDoor
open Go.RowKit Go.PlainAid
def fourN (l : List Ser) (j i : Nat) : Nat := if i = 0 then atB l j else if i = 1 then (blkB l j).length else if i = 2 then fT l j else lT l j
theorem four_cat (l : List Ser) (j : Nat) : cat (fun i => vF 6 (fourN l j i)) 4 = vF 6 (atB l j) ++ (vF 6 (blkB l j).length ++ (vF 6 (fT l j) ++ vF 6 (lT l j))) := by
 rw [cat_succ, cat_succ, cat_succ, cat_succ, cat_zero]
 simp only [fourN, List.nil_append, List.append_assoc]
 rfl
theorem GoodF.ends {s : ByteArray} {m : List Ser} (h : GoodF s m) : s.size - 8 = posF m m.length ∧ 12 ≤ s.size ∧ rdv (rest s (s.size - 8)) 4 = posF m 0 ∧ posF m 0 ≤ s.size - 8 := by
 have hp := posF_end h.2.1
 obtain ⟨h1, h2⟩ := begin_read h.2.1
 rw [h.text] at *
 have ee : (txt (fileB m)).size - 8 = posF m m.length := by rw [txt_size]; omega
 have h0 : posF m 0 = atB m m.length := by unfold posF idxB; rw [cat_zero]; rfl
 refine ⟨ee, h2, by rw [h1, h0], ?_⟩
 rw [ee]
 rcases Nat.eq_zero_or_pos m.length with h3 | h3
 ·rw [h3]; exact Nat.le_refl _
 ·exact Nat.le_of_lt (posF_lt h.2.1 0 h3)
theorem GoodF.more {s : ByteArray} {m : List Ser} (h : GoodF s m) (k : Nat) (hk : k ≤ m.length) (hp : posF m k < s.size - 8) : k < m.length := by
 rcases Nat.lt_or_ge k m.length with h1 | h1
 ·exact h1
 ·exfalso
  have : k = m.length := by omega
  subst this
  rw [h.ends.1] at hp
  omega
theorem GoodF.last {s : ByteArray} {m : List Ser} (h : GoodF s m) (k : Nat) (hk : k ≤ m.length) (hp : ¬ posF m k < s.size - 8) : k = m.length := by
 rcases Nat.lt_or_ge k m.length with h1 | h1
 ·exfalso
  rw [h.ends.1] at hp
  exact hp (posF_lt h.2.1 k h1)
 ·omega
theorem GoodF.step {s : ByteArray} {m : List Ser} (h : GoodF s m) (k : Nat) (hk : k < m.length) (p : Nat) (hp : p = posF m k) :
  rvN (s.extract p (s.size - 8)) = (sAt m k).key.size ∧ 1 ≤ rvK (s.extract p (s.size - 8)) ∧ p + rvK (s.extract p (s.size - 8)) + (sAt m k).key.size ≤ s.size - 8 ∧
  s.extract (p + rvK (s.extract p (s.size - 8))) (p + rvK (s.extract p (s.size - 8)) + (sAt m k).key.size) = (sAt m k).key ∧
  Rd (s.extract (p + rvK (s.extract p (s.size - 8)) + (sAt m k).key.size) (s.size - 8)) 4 (rowOf (fun i => (fourN m k i : Int)) 4) (cat (fun i => vF 6 (fourN m k i)) 4).length ∧
  p + rvK (s.extract p (s.size - 8)) + (sAt m k).key.size + (cat (fun i => vF 6 (fourN m k i)) 4).length = posF m (k + 1) ∧
  atB m k ≤ s.size ∧ (blkB m k).length ≤ s.size - atB m k ∧ s.extract (atB m k) (atB m k + (blkB m k).length) = showB (sAt m k).pts := by
 have hok := h.2.1
 obtain ⟨hend, h12, _, _⟩ := h.ends
 obtain ⟨a, b, hf, ha, hb⟩ := file_at m k hk
 obtain ⟨n1, n2, n3, n4, n5⟩ := nums_le hok k hk
 have hs := h.text
 have hblk := blk_read (l := m) k hk
 have hsp : spB m k = vF 6 (sAt m k).key.size ++ (bl (sAt m k).key ++ cat (fun i => vF 6 (fourN m k i)) 4) := by rw [four_cat]; rfl
 have hlen : posF m m.length = a.length + (spB m k ++ b).length := by
  rw [ha]
  unfold posF
  rw [hb]
  simp only [List.length_append]
  omega
 subst hp
 rw [← ha]
 generalize hK : (sAt m k).key = K at *
 generalize hC : cat (fun i => vF 6 (fourN m k i)) 4 = C at *
 generalize hT : low (atB m m.length) 4 ++ low (crc (txt (bodyF m))) 4 = T at *
 have e0 : fileB m = a ++ ((spB m k ++ b) ++ T) := by rw [hf]; simp only [List.append_assoc]
 have x0 : s.extract a.length (s.size - 8) = txt (vF 6 K.size ++ (bl K ++ (C ++ b))) := by
  rw [hend, hlen, hs, e0, extract_mid, hsp]
  simp only [List.append_assoc]
 have hr := rv_var K.size (bl K ++ (C ++ b)) n1
 rw [← x0] at hr
 rw [hr.1, hr.2]
 have hpos : 1 ≤ (vF 6 K.size).length := vF_pos _ _
 have hsl : (spB m k ++ b).length = (vF 6 K.size).length + (K.size + (C.length + b.length)) := by rw [hsp]; simp only [List.length_append, bl_length]; omega
 have e1 : fileB m = (a ++ vF 6 K.size) ++ (bl K ++ (C ++ b ++ T)) := by rw [e0, hsp]; simp only [List.append_assoc]
 have e2 : fileB m = (a ++ vF 6 K.size ++ bl K) ++ ((C ++ b) ++ T) := by rw [e0, hsp]; simp only [List.append_assoc]
 have x1 := extract_mid (a ++ vF 6 K.size) (bl K) (C ++ b ++ T)
 rw [← e1, ← hs, List.length_append, bl_length, txt_bl] at x1
 have x2 := extract_mid (a ++ vF 6 K.size ++ bl K) (C ++ b) T
 rw [← e2, ← hs, List.length_append, List.length_append, bl_length] at x2
 have e3 : a.length + (vF 6 K.size).length + K.size + (C ++ b).length = s.size - 8 := by rw [hend, hlen, hsl, List.length_append]; omega
 rw [e3] at x2
 have hrd := rd_cat (fourN m k) 4 (fun i _ => by unfold fourN; split; exact n2; split; exact n3; split; exact n4; exact n5) b 4 (Nat.le_refl _)
 rw [hC] at hrd
 have hat : atB m k + (blkB m k).length ≤ s.size := by
  obtain ⟨c, hc⟩ := cat_split (blkB m) k m.length hk
  have e4 : (blks m m.length).length = (blks m k).length + ((blkB m k).length + c.length) := by
   show (cat (blkB m) m.length).length = _
   rw [hc]
   simp only [List.length_append]
   rfl
  have := bodyF_length hok
  rw [hs, txt_size, fileB_length, this.1]
  unfold atB
  omega
 refine ⟨rfl, hpos, ?_, x1, ?_, ?_, by omega, by omega, ?_⟩
 ·rw [hend, hlen, hsl]
  omega
 ·rw [x2]
  exact hrd
 ·rw [posF_succ, ← ha, hsp]
  simp only [List.length_append, bl_length]
  omega
 ·rw [← hs] at hblk
  rw [← hblk]
  unfold blkA spotOf tk
  simp only
  rw [show min (atB m k) s.size = atB m k by omega, show min (atB m k + (blkB m k).length) s.size = atB m k + (blkB m k).length by omega]
theorem four_at (m : List Ser) (k : Nat) : (rowOf (fun i => (fourN m k i : Int)) 4).getD 0 0 = (atB m k : Int) ∧ (rowOf (fun i => (fourN m k i : Int)) 4).getD 1 0 = ((blkB m k).length : Int) := ⟨rfl, rfl⟩
theorem take_sAt {m : List Ser} (k : Nat) (hk : k < m.length) : m.take (k + 1) = m.take k ++ [sAt m k] := take_getD m k hk
theorem GoodF.pts {s : ByteArray} {m : List Ser} (h : GoodF s m) (k : Nat) (hk : k < m.length) : Good (showB (sAt m k).pts) (sAt m k).pts := ⟨(h.2.1.2 k hk).2.1, (h.2.1.2 k hk).2.2, rfl⟩
end Go.Proofs.YtikknmoeefipmaaGreatDoor
