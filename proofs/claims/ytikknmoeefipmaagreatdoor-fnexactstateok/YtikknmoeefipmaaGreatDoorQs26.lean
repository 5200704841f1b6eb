/- EgI8 StI2 -/
import Derived.Test.YtikknmoeefipmaaGreatDoorQs25
import Derived.Test.YtikknmoeefipmaaGreatDoorQs3
import Derived.WalkKit
import Derived.ProofKit
import Derived.OpenShut
import Derived.Below
import Derived.WalkSmall
import Derived.BigQuiet
import Derived.Deep.QuietTactic
import Derived.Deep.RegionWith
import Derived.Handy
import Derived.Test.YtikknmoeefipmaaGreatDoorRows
import Derived.Test.YtikknmoeefipmaaGreatDoorQs17
import Derived.Deep.Cut
import Derived.Deep.CutRange
namespace Go.Proofs.YtikknmoeefipmaaGreatDoor
open Go.ChangeShapes Go.WideShapes Go.ChangeAt Go.RowKit Go.PlainAid
set_option linter.unusedVariables false
set_option maxHeartbeats 2000000 in
theorem implEngineOk (e : Eng) (v : Value) (w : World) (B : Nat) (hv : EngV w B v e) (hs : EShort e) (hB : B ≤ w.heap.size) (hst : SumTab w) (a0 a1 a2 : Addr) (he : Errs w a0 a1 a2) :
  Calls Tryz.prog 40 #[v] w fun b w' => b = .returned (.bool (decide (EOk e))) ∧ Below w.heap.size w w' := by
 obtain ⟨vc, vf, rfl, hc, hl⟩ := hv
 unfold vE
 obtain ⟨Ac, cc, rfl, _⟩ := hc.look
 obtain ⟨A, cap, rfl, _⟩ := st_look hl
 have ST : Hid (SumTab w) := hst
 have ER : Hid (Errs w a0 a1 a2) := he
 have HV : Hid (EngV w B (vE e.floor (.slice Ac e.cache.length cc) (.slice A e.files.length cap)) e) := ⟨_, _, rfl, hc, hl⟩
 have HC : Hid (SerV w B (.slice Ac e.cache.length cc) e.cache) := hc
 have HB : Hid (B ≤ w.heap.size) := hB
 have HSh : Hid (EShort e) := hs
 obtain ⟨X0, hX0⟩ : ∃ X0, X0 = w.alloc (.cells #[.int .i64 e.floor, .slice Ac e.cache.length cc, .slice A e.files.length cap] 35) := ⟨_, rfl⟩
 have BX : Hid (Below w.heap.size w X0) := by unfold Hid; rw [hX0]; exact (Below.refl _ w).alloc (Nat.le_refl _) _
 have KX : Hid (Blk X0 w.heap.size #[.int .i64 e.floor, .slice Ac e.cache.length cc, .slice A e.files.length cap] 35) := by unfold Hid; rw [hX0]; exact Blk.new w _ _
 have ZB : Hid (B ≤ X0.heap.size) := Nat.le_trans hB BX.out.size
 have c1 := implContents e _ X0 B (HV.out.on (BX.out.mono hB)) hs ZB.out (hst.on BX.out) a0 a1 a2 (he.on BX.out)
 unfold vE at c1
 have k0 := KX.out.cell 0 _ rfl
 have k1 := KX.out.cell 1 _ rfl
 have k2 := KX.out.cell 2 _ rfl
 clear hc hl hB hs hst he
 go_enter Tryz.func40, Tryz.ntmps40
 go_wp2_with fail
 rw [← hX0]
 clear hX0
 refine c1.mono ?_
 rintro b X1 ⟨⟨u, L, rfl, hL, hS⟩, hb1⟩
 have B1 : Hid (Below w.heap.size w X1) := BX.out.trans (hb1.mono BX.out.size)
 have S1 : Hid (SerO X1 w.heap.size u L) := hS.mono BX.out.size
 have HL : Hid (L.map Prod.fst = plainX e) := hL
 clear hL hS hb1 c1 k0 k1 k2
 go_wp2_with fail
 go_ret
 exact ⟨rfl, B1.out⟩
end Go.Proofs.YtikknmoeefipmaaGreatDoor
namespace Go.Proofs.YtikknmoeefipmaaGreatDoor
open Go.ChangeShapes Go.WideShapes Go.ChangeAt Go.RowKit Go.PlainAid
set_option linter.unusedVariables false
set_option maxRecDepth 20000 in
set_option maxHeartbeats 8000000 in
theorem implStateOk (x : Sta) (v : Value) (w : World) (B : Nat) (hv : StaV w B v x) (hs : StShort x) (hB : B ≤ w.heap.size) (hst : SumTab w) (a0 a1 a2 : Addr) (he : Errs w a0 a1 a2) :
  Calls Tryz.prog 9 #[v] w fun e w' => e = .returned (.bool (staOk x)) ∧ Below w.heap.size w w' := by
 obtain ⟨Ab, nb, cb, Ac, nc, cc, Af, nf, cf, As, ns, cs, rfl⟩ := hv.shape
 have HV : Hid (StaV w B (vSt x (.slice Ab nb cb) (.slice Ac nc cc) (.slice Af nf cf) (.slice As ns cs)) x) := hv
 obtain ⟨hb0, he0, hs0⟩ := hv.parts
 have HB : Hid (B ≤ w.heap.size) := hB
 have HS : Hid (StShort x) := hs
 have LB : Hid (Lies w B 2 (.slice Ab nb cb) (ptR x.bks)) := hb0
 have LE : Hid (EngV w B (.agg #[.int .i64 x.eng.floor, .slice Ac nc cc, .slice Af nf cf]) x.eng) := he0
 have LQ : Hid (Lies w B 6 (.slice As ns cs) (sesR x.ses)) := hs0
 have hnb : nb = x.bks.length := by have := hb0.room.1; rw [ptR_length] at this; exact this
 have hnc : nc = x.eng.cache.length ∧ nf = x.eng.files.length := by
  obtain ⟨vc', vf', e, h1, h2⟩ := he0
  unfold vE at e
  simp only [Value.agg.injEq, Array.mk.injEq, List.cons.injEq, true_and, and_true] at e
  obtain ⟨rfl, rfl⟩ := e
  obtain ⟨A1, c1, e1, _⟩ := h1.look
  obtain ⟨A2, c2, e2, _⟩ := st_look h2
  cases e1
  cases e2
  exact ⟨rfl, rfl⟩
 have hns : ns = x.ses.length := by have := hs0.room.1; rw [sesR_length] at this; exact this
 clear hv hb0 he0 hs0 hB hs
 have HST : Hid (SumTab w) := hst
 have HER : Hid (Errs w a0 a1 a2) := he
 have HN : Hid (nb = x.bks.length ∧ nb ≤ 1048576) := ⟨hnb, by rw [hnb]; exact HS.out.1⟩
 clear hnb hnc hns hst he
 have HE : Hid (staOk x = (sesFrom 1 x.ses && (if x.kind = 1 then metaB x else if x.kind = 2 then (decide (x.hold = 0) && decide (x.mark = 0) && decide (nb = 0) && decide (EOk x.eng)) else false))) := by
  unfold Hid staOk shardB
  rw [HN.out.1]
 unfold vSt
 obtain ⟨sk, hsk⟩ : ∃ sk, x.kind = sk := ⟨_, rfl⟩
 obtain ⟨sh, hsh⟩ : ∃ sh, x.hold = sh := ⟨_, rfl⟩
 obtain ⟨sm, hsm⟩ : ∃ sm, x.mark = sm := ⟨_, rfl⟩
 obtain ⟨sf, hsf⟩ : ∃ sf, x.eng.floor = sf := ⟨_, rfl⟩
 unfold vSt at HV
 rw [hsk, hsh, hsm, hsf] at HV ⊢
 rw [hsf] at LE
 rw [hsk, hsh, hsm] at HE
 clear hsk hsh hsm hsf
 obtain ⟨X0, hX0⟩ : ∃ X0, X0 = w.alloc (.cells #[.int .i64 sk, .int .i64 sh, .int .i64 sm, .slice Ab nb cb, .int .i64 sf, .slice Ac nc cc, .slice Af nf cf, .slice As ns cs] 38) := ⟨_, rfl⟩
 have BX : Hid (Below w.heap.size w X0) := by unfold Hid; rw [hX0]; exact (Below.refl _ w).alloc (Nat.le_refl _) _
 have KX : Hid (Blk X0 w.heap.size #[.int .i64 sk, .int .i64 sh, .int .i64 sm, .slice Ab nb cb, .int .i64 sf, .slice Ac nc cc, .slice Af nf cf, .slice As ns cs] 38) := by unfold Hid; rw [hX0]; exact Blk.new w _ _
 have c1 := implSessionsOk x.ses (.slice As ns cs) X0 B (LQ.out.on (BX.out.mono HB.out)) HS.out.2.2.1 HS.out.2.2.2 (Nat.le_trans HB.out BX.out.size)
 have k7 := KX.out.cell 7 _ rfl
 go_enter Tryz.func9, Tryz.ntmps9
 go_wp2_with fail
 rw [← hX0]
 clear hX0
 refine c1.mono ?_
 rintro e X1 ⟨rfl, hb1⟩
 have B1 : Hid (Below w.heap.size w X1) := BX.out.trans (hb1.mono BX.out.size)
 have K1 : Hid (Blk X1 w.heap.size #[.int .i64 sk, .int .i64 sh, .int .i64 sm, .slice Ab nb cb, .int .i64 sf, .slice Ac nc cc, .slice Af nf cf, .slice As ns cs] 38) := KX.out.on hb1 KX.out.lt
 clear hb1 c1 k7
 cases h0 : sesFrom 1 x.ses <;> rw [h0] at HE
 ·go_wp2_with fail
  go_ret
  exact ⟨by rw [HE.out]; rfl, B1.out⟩
 have k0 := K1.out.cell 0 _ rfl
 have k1 := K1.out.cell 1 _ rfl
 have k2 := K1.out.cell 2 _ rfl
 have k3 := K1.out.cell 3 _ rfl
 have k4 := K1.out.cell 4 _ rfl
 have k5 := K1.out.cell 5 _ rfl
 have k6 := K1.out.cell 6 _ rfl
 have k7 := K1.out.cell 7 _ rfl
 have hnq := HN.out
 have q1 : (nb : Int) ≤ 1048576 := by omega
 clear hnq
 by_cases g1 : sk = 1
 ·subst g1
  rw [if_pos rfl] at HE
  have c2 := implMetaOk x _ X1 B (HV.out.on (B1.out.mono HB.out)) HS.out (Nat.le_trans HB.out B1.out.size)
  go_wp2_with fail
  refine c2.mono ?_
  rintro e X2 ⟨rfl, hb2⟩
  have B2 : Hid (Below w.heap.size w X2) := B1.out.trans (hb2.mono B1.out.size)
  clear hb2 c2
  go_wp2_with fail
  go_ret
  exact ⟨by rw [HE.out]; rfl, B2.out⟩
 have z1 : (sk == 1) = false := by simpa using g1
 rw [if_neg g1] at HE
 by_cases g2 : sk = 2
 ·subst g2
  rw [if_pos rfl] at HE
  by_cases y1 : sh = 0
  ·subst y1
   by_cases y2 : sm = 0
   ·subst y2
    by_cases y3 : nb = 0
    ·have e3 : ((nb : Int) == 0) = true := by simp; omega
     rw [decide_eq_true rfl, decide_eq_true y3] at HE
     clear y3 g1 z1
     have c2 := implEngineOk x.eng _ X1 B (LE.out.on (B1.out.mono HB.out)) HS.out.2.1 (Nat.le_trans HB.out B1.out.size) (HST.out.on B1.out) a0 a1 a2 (HER.out.on B1.out)
     go_wp2_with fail
     refine c2.mono ?_
     rintro e X2 ⟨rfl, hb2⟩
     have B2 : Hid (Below w.heap.size w X2) := B1.out.trans (hb2.mono B1.out.size)
     clear hb2 c2
     go_wp2_with fail
     go_ret
     exact ⟨by rw [HE.out]; first | rfl | simp, B2.out⟩
    ·have e3 : ((nb : Int) == 0) = false := by simp; omega
     rw [decide_eq_true rfl, decide_eq_false y3] at HE
     clear y3 g1 z1
     go_wp2_with fail
     go_ret
     exact ⟨by rw [HE.out]; rfl, B1.out⟩
   ·have e2 : (sm == 0) = false := by simpa using y2
    rw [decide_eq_true rfl, decide_eq_false y2] at HE
    clear y2 g1 z1
    go_wp2_with fail
    go_ret
    exact ⟨by rw [HE.out]; rfl, B1.out⟩
  ·have e1 : (sh == 0) = false := by simpa using y1
   rw [decide_eq_false y1] at HE
   clear y1 g1 z1
   go_wp2_with fail
   go_ret
   exact ⟨by rw [HE.out]; rfl, B1.out⟩
 have z2 : (sk == 2) = false := by simpa using g2
 rw [if_neg g2] at HE
 clear g1 g2
 go_wp2_with fail
 go_ret
 exact ⟨by rw [HE.out]; rfl, B1.out⟩
end Go.Proofs.YtikknmoeefipmaaGreatDoor
