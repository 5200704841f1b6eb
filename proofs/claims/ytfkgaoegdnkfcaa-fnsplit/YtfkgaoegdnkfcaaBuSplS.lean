/-
  Contract of spec.Split.
-/
import Derived.Test.YtfkgaoegdnkfcaaRows
import Derived.Test.YtfkgaoegdnkfcaaBuPut
import Derived.Test.YtfkgaoegdnkfcaaPtOkS
import Derived.Test.YtfkgaoegdnkfcaaPtLaw
import Derived.Test.YtfkgaoegdnkfcaaUntil
import Derived.Test.YtfkgaoegdnkfcaaUntilS
import Derived.WalkKit
import Derived.ProofKit
import Derived.OpenShut
import Derived.Below
import Derived.WalkSmall
import Derived.BigQuiet
import Derived.Deep.QuietTactic
import Derived.Deep.RegionWith
import Derived.Handy
namespace Go.Proofs.Ytfkgaoegdnkfcaa
open Go.ChangeShapes Go.WideShapes Go.ChangeAt Go.RowKit Go.PlainAid
set_option linter.unusedVariables false

theorem cell_alloc_keepB {w : World} {a : Addr} {x : Value} (h : w.cell? a = some x) (o : Obj) : (w.alloc o).cell? a = some x := by
  rw [← h]
  have hlt : a.block < w.heap.size := by
    unfold World.cell? at h
    cases e : w.heap[a.block]? with
    | none => rw [e] at h; cases h
    | some o => exact (Array.getElem?_eq_some_iff.1 e).1
  exact World.cell?_of_block (w := w) (Below.heap_alloc w o _ hlt)
theorem pt_cellsB (x y : Int) : ∀ u ∈ [Value.int .i64 x, Value.int .i64 y], u.oneCell' = true := by simp [Value.oneCell']
/-- The parts that Split tells. -/
def splX (l : List Pnt) : List Prt := if POk l then spl l else []
theorem splX_short (l : List Pnt) : PShort (splX l) := by
  unfold splX
  split
  · rename_i h; exact spl_PShort l h.1
  · exact ⟨by simp, fun x hx => by cases hx⟩
theorem map_fst_nil {L : List (Prt × Value)} (h : L.map Prod.fst = []) : L = [] := List.map_eq_nil_iff.1 h
theorem snoc_ofL {L : List (Prt × Value)} (h : L ≠ []) : ∃ X q, L = X ++ [q] := ⟨L.dropLast, L.getLast h, (List.dropLast_concat_getLast h).symm⟩

set_option maxRecDepth 100000 in
set_option maxHeartbeats 8000000 in
theorem specSplit (l : List Pnt) (v : Value) (w : World) (B : Nat) (hv : Lies w B 2 v (ptR l)) (hn : l.length ≤ 1048576) (hB : B ≤ w.heap.size) :
    Calls Try.prog 21 #[v] w fun e w' => ∃ r L, e = .returned r ∧ L.map Prod.fst = splX l ∧ PrtO w' w.heap.size r L ∧ Below w.heap.size w w' := by
  have hB0 : Below w.heap.size w (w.alloc (.cells #[] 30)) := (Below.refl _ _).alloc (Nat.le_refl _) _
  have cP := specPointsOk l v (w.alloc (.cells #[] 30)) B (hv.on (hB0.mono hB)) hn (Nat.le_trans hB hB0.size)
  have hE : PrtO (w.alloc (.cells #[] 30)) w.heap.size (.slice (some ⟨w.heap.size, 0, none⟩) 0 0) [] := ⟨Owns.empty w _ _ _ (Nat.le_refl _), fun p hp => (by cases hp), List.Pairwise.nil⟩
  have HE : Hid (PrtO (w.alloc (.cells #[] 30)) w.heap.size (.slice (some ⟨w.heap.size, 0, none⟩) 0 0) []) := hE
  have HB0 : Hid (Below w.heap.size w (w.alloc (.cells #[] 30))) := hB0
  have HB : Hid (B ≤ w.heap.size) := hB
  have HV : Hid (Lies w B 2 v (ptR l)) := hv
  obtain ⟨A, cap, rfl, hl⟩ := pt_look hv
  have HL : Hid (∀ j, j < l.length → ∃ g off, A = some ⟨g, off, none⟩ ∧ g < B ∧ w.cell? ⟨g, off + j * 2, none⟩ = some (.int .i64 (l.getD j default).t) ∧ w.cell? ⟨g, off + j * 2 + 1, none⟩ = some (.int .i64 (l.getD j default).v)) := hl
  clear hl hv hB hB0 hE
  by_cases hok : POk l
  · rw [decide_eq_true hok] at cP
    have HX : Hid (splX l = spl l) := if_pos hok
    have HN : Hid (l.length ≤ 60) := hok.1
    have q0 : (l.length : Int) ≤ 60 := by have := hok.1; omega
    clear hok hn
    generalize hlen : l.length = n at *
    have HLen : Hid (l.length = n) := hlen
    clear hlen
    go_enter Try.func21, Try.ntmps21
    go_wp2_with fail
    refine cP.mono ?_
    rintro _ w1 ⟨rfl, hlk⟩
    have P1 : Hid (PrtO w1 w.heap.size (.slice (some ⟨w.heap.size, 0, none⟩) 0 0) []) := ⟨HE.out.1.heap hlk.1, fun p hp => (by cases hp), List.Pairwise.nil⟩
    have B1 : Hid (Below w.heap.size w w1) := HB0.out.trans (hlk.below.mono HB0.out.size)
    clear hlk cP
    go_wp2_with fail
    go_loopw [3, 4] (fun v3 v4 wr => ∃ (k : Nat) (L : List (Prt × Value)), k ≤ n ∧ v4 = .int .i64 (k : Int) ∧ L.map Prod.fst = spl (l.take k) ∧ PrtO wr w.heap.size v3 L ∧ Below w.heap.size w wr) (fun _ i _ => n - (intOf i).toNat)
    case atStart => exact ⟨0, [], by omega, rfl, by rw [List.take_zero]; rfl, P1.out, B1.out⟩
    case round =>
      obtain ⟨k, L, hk, rfl, hLm, hP, hb⟩ := hrel
      have BW0 : Hid (Below w.heap.size w wr) := hb
      have HLM : Hid (L.map Prod.fst = spl (l.take k)) := hLm
      obtain ⟨A3, c3, e3, hl3⟩ := pr_look hP.lies.1
      subst e3
      obtain ⟨m0, hm0⟩ : ∃ m0, m0 = L.length := ⟨_, rfl⟩
      rw [← hm0] at hP ⊢
      have HM0 : Hid (m0 = L.length) := hm0
      have HP : Hid (PrtO wr w.heap.size (.slice A3 m0 c3) L) := hP
      clear hm0
      have HL3 : Hid (∀ j, j < L.length → ∃ g off, A3 = some ⟨g, off, none⟩ ∧ g < wr.heap.size ∧ wr.cell? ⟨g, off + j * 2, none⟩ = some (.int .i64 (L.getD j default).1.num) ∧ wr.cell? ⟨g, off + j * 2 + 1, none⟩ = some (L.getD j default).2) := hl3
      clear hP hb hLm hl3
      by_cases hlt : k < n
      · have q1 : (k : Int) < (n : Int) := by omega
        obtain ⟨g, off, rfl, hg, hc0, hc1⟩ := HL.out k hlt
        have hgw : g < w.heap.size := Nat.lt_of_lt_of_le hg HB.out
        rw [← BW0.out.cell (p := ⟨_, _, none⟩) hgw] at hc0
        rw [← BW0.out.cell (p := ⟨_, _, none⟩) hgw] at hc1
        have HTk : Hid (spl (l.take (k + 1)) = putPt (opn (spl (l.take k)) (bkt (l.getD k default).t)) (l.getD k default)) := by
          unfold Hid
          rw [take_getD l k (by rw [HLen.out]; exact hlt), spl_snoc]
        have HSh : Hid (L.length ≤ 60 ∧ ∀ q ∈ L, q.1.pts.length ≤ 60) := by
          have := spl_short (l.take k) 60 (by rw [List.length_take]; have := HN.out; omega)
          rw [← HLM.out] at this
          exact ⟨by simpa using this.1, fun q hq => this.2 q.1 (List.mem_map_of_mem hq)⟩
        have cB := specBucket (l.getD k default).t
        have HGW : Hid (g < w.heap.size) := hgw
        generalize hpp : l.getD k default = pp at *
        clear hpp
        obtain ⟨pt, pv⟩ := pp
        dsimp only at hc0 hc1 cB HTk
        have qb := bkt_low pt
        have qb2 := bkt_high pt
        generalize hbb : bkt pt = b at *
        clear hgw hg
        by_cases h0 : L = []
        · have HNx0 : Hid (∀ r : Value, (L ++ [((⟨b, [] ++ [⟨pt, pv⟩]⟩ : Prt), r)]).map Prod.fst = spl (l.take (k + 1))) := by
            intro r
            rw [HTk.out, ← HLM.out, h0, List.map_nil, opn_new (.inl rfl), putPt_snoc]
            rfl
          have hl0 : ((m0 : Int) == 0) = true := by rw [HM0.out, h0]; rfl
          go_wp2_with fail
          refine (cB _).mono ?_
          rintro _ _ ⟨rfl, rfl⟩
          go_wp2_with (at_builtin; refine wpList_append_row rfl (.tmp 38) (.tmp 41) 26 30 (.agg #[.int .i64 0, .slice none 0 0]) 2 32 rfl Try.underlying26 Try.infoPart rfl (by omega) w.heap.size _ (prR L) rfl HP.out.1 [.int .i64 b, .slice none 0 0] rfl (by simp [Value.oneCell']) rfl (by rw [prR_length]; have := HSh.out.1; omega) (by omega) BW0.out.size ?_; intro v' Y1 hO1 hb1 hk1 _; refine Shut.out ?_)
          unfold Shut
          have hP1 := HP.out.more b ⟨b, []⟩ (.slice none 0 0) hO1 hk1 (Owns.nil _ _ _ _) (fun p _ => apart_nil _)
          obtain ⟨j, hJ⟩ : ∃ j : Nat, j = L.length := ⟨_, rfl⟩
          obtain ⟨ln, hln⟩ : ∃ ln : Nat, ln = j + 1 := ⟨_, rfl⟩
          have HLn : Hid (ln = j + 1) := hln
          obtain ⟨g3, c3, e3⟩ : ∃ g3 c3, v' = .slice (some ⟨g3, 0, none⟩) ln c3 := by
            rcases hP1.1.2.2 with ⟨_, h0⟩ | ⟨g3, cc, cur, e, _⟩
            · simp [prR] at h0
            · exact ⟨g3, cc, by rw [e, prR_length, hln, hJ]; simp⟩
          subst e3
          have BW : Hid (Below w.heap.size w Y1) := BW0.out.trans hb1
          have HJ0 : Hid (L.length = j) := hJ.symm
          have HJ : Hid (j ≤ 60) := by unfold Hid; rw [hJ]; exact HSh.out.1
          have HXS0 : Hid ((⟨b, []⟩ : Prt).pts.length ≤ 60) := by unfold Hid; simp
          clear hO1 hk1 hJ hln
          have hc0 : Y1.cell? ⟨g, off + k * 2, none⟩ = some (.int .i64 pt) := (hb1.cell (p := ⟨g, _, none⟩) HGW.out).trans hc0
          have hc1 : Y1.cell? ⟨g, off + k * 2 + 1, none⟩ = some (.int .i64 pv) := (hb1.cell (p := ⟨g, _, none⟩) HGW.out).trans hc1
          obtain ⟨X, hX⟩ : ∃ X : List (Prt × Value), X = L := ⟨_, rfl⟩
          obtain ⟨x, hx⟩ : ∃ x : Prt, x = ⟨b, []⟩ := ⟨_, rfl⟩
          obtain ⟨ux, hux0⟩ : ∃ ux : Value, ux = .slice none 0 0 := ⟨_, rfl⟩
          have PW : Hid (PrtO Y1 w.heap.size (.slice (some ⟨g3, 0, none⟩) ln c3) (X ++ [(x, ux)])) := by unfold Hid; rw [hX, hx, hux0]; exact hP1
          have HNx : Hid (∀ r : Value, (X ++ [((⟨x.num, x.pts ++ [⟨pt, pv⟩]⟩ : Prt), r)]).map Prod.fst = spl (l.take (k + 1))) := by intro r; rw [hX, hx]; exact HNx0.out r
          have HXL : Hid (X.length = j) := by unfold Hid; rw [hX]; exact HJ0.out
          have HXS : Hid (x.pts.length ≤ 60) := by unfold Hid; rw [hx]; exact HXS0.out
          clear hX hx hux0 hP1
          have hux : Owns Y1 w.heap.size 33 2 ux (ptR x.pts) := PW.out.2.1 (x, ux) (by simp)
          obtain ⟨Au, nu, cu, eu⟩ := hux.shape
          have HEu : Hid (ux = .slice Au nu cu) := eu
          have hzW : w.heap.size ≤ Y1.drew.heap.size := BW.out.size
          obtain ⟨nA, nm, nc, Y5, r5, hO5, hb5, hk5, hw5⟩ := run_append_row (P := Try.prog) Y1.drew 24 24 33 (.agg #[.int .i64 0, .int .i64 0]) 2 16 Try.underlying24 Try.infoPt rfl (by omega) w.heap.size ux (ptR x.pts) (hux.kept fun _ _ _ => rfl) [.int .i64 pt, .int .i64 pv] rfl (pt_cellsB pt pv) (by rw [ptR_length]; have := HXS.out; omega) (by omega) hzW
          have hO5' : Owns Y5 w.heap.size 33 2 (.slice nA nm nc) (ptR (x.pts ++ [⟨pt, pv⟩])) := by rw [ptR_append]; exact hO5
          have hP6 : PrtO (Y5.setCell ⟨g3, X.length * 2 + 1, none⟩ (.slice nA nm nc)) w.heap.size (.slice (some ⟨g3, 0, none⟩) ln c3) (X ++ [(⟨x.num, x.pts ++ [⟨pt, pv⟩]⟩, .slice nA nm nc)]) := PW.out.put (by rw [HXL.out]; exact HLn.out) rfl hO5' hk5 hw5
          rw [HXL.out] at hP6
          have P6 : Hid (PrtO (Y5.setCell ⟨g3, j * 2 + 1, none⟩ (.slice nA nm nc)) w.heap.size (.slice (some ⟨g3, 0, none⟩) ln c3) (X ++ [(⟨x.num, x.pts ++ [⟨pt, pv⟩]⟩, .slice nA nm nc)])) := hP6
          have hg3 := (PW.out.1.lt g3 rfl)
          have B6 : Hid (Below w.heap.size w (Y5.setCell ⟨g3, j * 2 + 1, none⟩ (.slice nA nm nc))) := (BW.out.drew.trans hb5).setCell (show w.heap.size ≤ g3 from hg3.1) _
          obtain ⟨Aw, cw, ew, hlw⟩ := pr_look PW.out.lies.1
          have hjl : (X ++ [(x, ux)]).length = j + 1 := by rw [List.length_append, HXL.out]; rfl
          have hlast : (X ++ [(x, ux)]).getD j default = (x, ux) := by rw [← HXL.out]; simp
          obtain ⟨gw, ow, ew2, -, -, hcw⟩ := hlw j (by rw [hjl]; omega)
          rw [ew2] at ew
          simp only [Value.slice.injEq, Option.some.injEq, Addr.mk.injEq] at ew
          obtain ⟨⟨rfl, rfl, -⟩, -, -⟩ := ew
          rw [hlast, eu, Nat.zero_add] at hcw
          try dsimp only at hcw
          have hR5 : Owns Y5 w.heap.size 30 2 (.slice (some ⟨g3, 0, none⟩) ln c3) (prR (X ++ [(x, ux)])) := PW.out.1.kept fun k hk' hv => hk5 k hk' (fun e => hux.apartT PW.out.1 (by decide) k e hv)
          have hpl : (prR (X ++ [(x, ux)])).length = j + 1 := by rw [prR_length]; exact hjl
          rw [show (Value.slice (some ⟨g3, 0, none⟩) ln c3) = .slice (some ⟨g3, 0, none⟩) (prR (X ++ [(x, ux)])).length c3 by rw [hpl, HLn.out]] at hR5
          obtain ⟨y0, d0⟩ := hR5.cellX j 1 (by rw [hpl]; omega) (by omega)
          have f0 := hR5.free (j * 2 + 1)
          have S0 : Hid (Y1.drew.cell? ⟨g3, j * 2 + 1, none⟩ = some (.slice Au nu cu) ∧ Y1.drew.cell? ⟨g, off + k * 2, none⟩ = some (.int .i64 pt) ∧ Y1.drew.cell? ⟨g, off + k * 2 + 1, none⟩ = some (.int .i64 pv)) := ⟨hcw, hc0, hc1⟩
          have g1 : IntKind.i64.wrap ((ln : Int) - 1) = (j : Int) := by rw [IntKind.wrap_i64]; have := HJ.out; have := HLn.out; omega
          have qj : (j : Int) < (ln : Int) := by have := HLn.out; omega
          have qj2 : (j : Int) ≤ 100 := by have := HJ.out; omega
          rw [eu] at r5
          clear hux eu hO5 hO5' hk5 hw5 hP6 hg3 hlw hjl hlast ew2 hcw hR5 hpl hb5 hzW hc0 hc1
          go_wp2_with fail
          refine wp_region_until (fun w' => w'.cell? ⟨g3, j * 2 + 1, none⟩ = some (.slice Au nu cu) ∧ w'.cell? ⟨g, off + k * 2, none⟩ = some (.int .i64 pt) ∧ w'.cell? ⟨g, off + k * 2 + 1, none⟩ = some (.int .i64 pv)) (fun i => i == 12 || i == 15) 16 (by rfl) (by kernel_rfl) ?_
          refine until_pure 0 (v := ?_) (by rfl) (by kernel_rfl) (by exact fun _ _ _ h => h) (by rfl) ?_ ?_
          rotate_left
          · intro w
            go_simp
            try with_reducible rfl
          try simp only [Act.put, List.setIfInBounds_toArray, List.set_cons_zero, List.set_cons_succ]
          refine until_pure 1 (v := ?_) (by rfl) (by kernel_rfl) (by exact fun _ _ _ h => h) (by rfl) ?_ ?_
          rotate_left
          · intro w
            go_simp
            try with_reducible rfl
          try simp only [Act.put, List.setIfInBounds_toArray, List.set_cons_zero, List.set_cons_succ]
          refine until_pure 2 (v := ?_) (by rfl) (by kernel_rfl) (by exact fun _ _ _ h => h) (by rfl) ?_ ?_
          rotate_left
          · intro w
            go_simp
            try with_reducible rfl
          try simp only [Act.put, List.setIfInBounds_toArray, List.set_cons_zero, List.set_cons_succ]
          refine until_pure 3 (v := ?_) (by rfl) (by kernel_rfl) (by exact fun _ _ _ h => h) (by rfl) ?_ ?_
          rotate_left
          · intro w
            go_simp
            try with_reducible rfl
          try simp only [Act.put, List.setIfInBounds_toArray, List.set_cons_zero, List.set_cons_succ]
          refine until_pure 7 (v := ?_) (by rfl) (by kernel_rfl) (by exact fun _ _ _ h => h) (by rfl) ?_ ?_
          rotate_left
          · intro w
            go_simp
            try with_reducible rfl
          try simp only [Act.put, List.setIfInBounds_toArray, List.set_cons_zero, List.set_cons_succ]
          refine until_pure 8 (v := ?_) (by rfl) (by kernel_rfl) (by exact fun _ _ _ h => h) (by rfl) ?_ ?_
          rotate_left
          · intro w
            go_simp
            try with_reducible rfl
          try simp only [Act.put, List.setIfInBounds_toArray, List.set_cons_zero, List.set_cons_succ]
          refine until_pure 4 (v := ?_) (by rfl) (by kernel_rfl) (by exact fun _ _ _ h => h) (by rfl) ?_ ?_
          rotate_left
          · intro w
            go_simp
            try with_reducible rfl
          try simp only [Act.put, List.setIfInBounds_toArray, List.set_cons_zero, List.set_cons_succ]
          refine until_pure 5 (v := ?_) (by rfl) (by kernel_rfl) (by exact fun _ _ _ h => h) (by rfl) ?_ ?_
          rotate_left
          · intro w
            go_simp
            try with_reducible rfl
          try simp only [Act.put, List.setIfInBounds_toArray, List.set_cons_zero, List.set_cons_succ]
          refine until_pure 9 (v := ?_) (by rfl) (by kernel_rfl) (by exact fun _ _ _ h => h) (by rfl) ?_ ?_
          rotate_left
          · intro w
            go_simp
            try with_reducible rfl
          try simp only [Act.put, List.setIfInBounds_toArray, List.set_cons_zero, List.set_cons_succ]
          refine until_take 6 (v := ?_) (by rfl) (by kernel_rfl) (by exact fun _ _ _ h => h) (by rfl) ?_ S0.out ?_
          rotate_left
          · intro w hSw
            try dsimp only at hSw
            go_simp
            try with_reducible rfl
          try simp only [Act.put, List.setIfInBounds_toArray, List.set_cons_zero, List.set_cons_succ]
          refine until_take 10 (v := ?_) (by rfl) (by kernel_rfl) (by exact fun _ _ _ h => h) (by rfl) ?_ S0.out ?_
          rotate_left
          · intro w hSw
            try dsimp only at hSw
            go_simp
            try with_reducible rfl
          try simp only [Act.put, List.setIfInBounds_toArray, List.set_cons_zero, List.set_cons_succ]
          refine until_one 11 (by rfl) (by kernel_rfl) (fun K hK => ?_)
          go_simp
          refine hK.out _ _ (fun _ h => ⟨cell_alloc_keepB h.1 _, cell_alloc_keepB h.2.1 _, cell_alloc_keepB h.2.2 _⟩) ?_
          clear hK K
          try simp only [Act.put, List.setIfInBounds_toArray, List.set_cons_zero, List.set_cons_succ]
          refine until_one 12 (by rfl) (by kernel_rfl) (fun K hK => ?_)
          refine step_append_run (by rfl) (.tmp 52) (.tmp 57) 24 (by rfl) _ _ _ _ (by rfl) (by rfl) r5 ?_
          refine hK.out _ _ (fun h => by cases h) ?_
          clear hK K
          try simp only [Act.put, List.setIfInBounds_toArray, List.set_cons_zero, List.set_cons_succ]
          refine until_pure 13 (v := ?_) (by rfl) (by kernel_rfl) (by exact fun _ _ _ h => h) (by rfl) ?_ ?_
          rotate_left
          · intro w
            go_simp
            try with_reducible rfl
          try simp only [Act.put, List.setIfInBounds_toArray, List.set_cons_zero, List.set_cons_succ]
          refine until_pure 14 (v := ?_) (by rfl) (by kernel_rfl) (by exact fun _ _ _ h => h) (by rfl) ?_ ?_
          rotate_left
          · intro w
            go_simp
            try with_reducible rfl
          try simp only [Act.put, List.setIfInBounds_toArray, List.set_cons_zero, List.set_cons_succ]
          refine until_one 15 (by rfl) (by kernel_rfl) (fun K hK => ?_)
          go_simp
          refine hK.out _ _ (fun h => by cases h) ?_
          clear hK K
          try simp only [Act.put, List.setIfInBounds_toArray, List.set_cons_zero, List.set_cons_succ]
          refine until_done (by kernel_rfl) ?_ _
          go_wp2_with fail
          go_roundw
          case rel => exact ⟨k + 1, _, by omega, by go_num, HNx.out _, P6.out, B6.out⟩
          case measure => simp [intOf]; omega
        · obtain ⟨X0, q0', hLX⟩ := snoc_ofL h0
          obtain ⟨x0, u0⟩ := q0'
          obtain ⟨j0, hj0⟩ : ∃ j0 : Nat, j0 = X0.length := ⟨_, rfl⟩
          have hl0 : m0 = j0 + 1 := by rw [HM0.out, hLX, hj0]; simp
          have HLn0 : Hid (m0 = j0 + 1) := hl0
          obtain ⟨g3, o3', e3, -, hn3, -⟩ := HL3.out j0 (by rw [← HM0.out, hl0]; omega)
          obtain rfl : o3' = 0 := by
            rcases HP.out.1.2.2 with ⟨e, _⟩ | ⟨g4, cc, cur, e, _⟩
            · rw [e3] at e; simp at e
            · rw [e3] at e; simp only [Value.slice.injEq, Option.some.injEq, Addr.mk.injEq] at e; exact e.1.2.1
          subst e3
          rw [show L.getD j0 default = (x0, u0) by rw [hLX, hj0]; simp, Nat.zero_add] at hn3
          dsimp only at hn3
          have HSh1 : m0 ≤ 60 := by rw [HM0.out]; exact HSh.out.1
          have hb1 : ((m0 : Int) == 0) = false := by simp; omega
          have hb2 : IntKind.i64.wrap ((m0 : Int) - 1) = (j0 : Int) := by rw [IntKind.wrap_i64]; omega
          have hb3 : (j0 : Int) < (m0 : Int) := by omega
          have hLm : L.map Prod.fst = X0.map Prod.fst ++ [x0] := by rw [hLX]; simp
          clear hl0
          by_cases hnum : x0.num = b
          · have HNx0 : Hid (∀ r : Value, (X0 ++ [((⟨x0.num, x0.pts ++ [⟨pt, pv⟩]⟩ : Prt), r)]).map Prod.fst = spl (l.take (k + 1))) := by
              intro r
              rw [HTk.out, ← HLM.out, hLm, opn_old (by simp) (by rw [lastP_snoc]; exact hnum), putPt_snoc]
              simp
            have HXS0 : Hid (x0.pts.length ≤ 60) := HSh.out.2 (x0, u0) (by rw [hLX]; simp)
            have HJ0 : Hid (X0.length = j0) := hj0.symm
            have hP1 : PrtO wr w.heap.size (.slice (some ⟨g3, 0, none⟩) m0 c3) (X0 ++ [(x0, u0)]) := by
              rw [← hLX]
              exact HP.out
            have HLn : Hid (m0 = j0 + 1) := HLn0.out
            have BW : Hid (Below w.heap.size w wr) := BW0.out
            have HJ : Hid (j0 ≤ 60) := by unfold Hid; have := HLn.out; omega
            have hnb : (x0.num != b) = false := by simp [hnum]
            have HNum : Hid (x0.num = b) := hnum
            clear hnum hLm hLX hj0 HP HL3 HSh
            go_wp2_with fail
            refine (cB _).mono ?_
            rintro _ _ ⟨rfl, rfl⟩
            have PW : Hid (PrtO wr w.heap.size (.slice (some ⟨g3, 0, none⟩) m0 c3) (X0 ++ [(x0, u0)])) := hP1
            have HNx := HNx0
            have HXL := HJ0
            have HXS := HXS0
            clear hP1
            have hux : Owns wr w.heap.size 33 2 u0 (ptR x0.pts) := PW.out.2.1 (x0, u0) (by simp)
            obtain ⟨Au, nu, cu, eu⟩ := hux.shape
            have HEu : Hid (u0 = .slice Au nu cu) := eu
            have hzW : w.heap.size ≤ wr.drew.heap.size := BW.out.size
            obtain ⟨nA, nm, nc, Y5, r5, hO5, hb5, hk5, hw5⟩ := run_append_row (P := Try.prog) wr.drew 24 24 33 (.agg #[.int .i64 0, .int .i64 0]) 2 16 Try.underlying24 Try.infoPt rfl (by omega) w.heap.size u0 (ptR x0.pts) (hux.kept fun _ _ _ => rfl) [.int .i64 pt, .int .i64 pv] rfl (pt_cellsB pt pv) (by rw [ptR_length]; have := HXS.out; omega) (by omega) hzW
            have hO5' : Owns Y5 w.heap.size 33 2 (.slice nA nm nc) (ptR (x0.pts ++ [⟨pt, pv⟩])) := by rw [ptR_append]; exact hO5
            have hP6 : PrtO (Y5.setCell ⟨g3, X0.length * 2 + 1, none⟩ (.slice nA nm nc)) w.heap.size (.slice (some ⟨g3, 0, none⟩) m0 c3) (X0 ++ [(⟨x0.num, x0.pts ++ [⟨pt, pv⟩]⟩, .slice nA nm nc)]) := PW.out.put (by rw [HXL.out]; exact HLn.out) rfl hO5' hk5 hw5
            rw [HXL.out] at hP6
            have P6 : Hid (PrtO (Y5.setCell ⟨g3, j0 * 2 + 1, none⟩ (.slice nA nm nc)) w.heap.size (.slice (some ⟨g3, 0, none⟩) m0 c3) (X0 ++ [(⟨x0.num, x0.pts ++ [⟨pt, pv⟩]⟩, .slice nA nm nc)])) := hP6
            have hg3 := (PW.out.1.lt g3 rfl)
            have B6 : Hid (Below w.heap.size w (Y5.setCell ⟨g3, j0 * 2 + 1, none⟩ (.slice nA nm nc))) := (BW.out.drew.trans hb5).setCell (show w.heap.size ≤ g3 from hg3.1) _
            obtain ⟨Aw, cw, ew, hlw⟩ := pr_look PW.out.lies.1
            have hjl : (X0 ++ [(x0, u0)]).length = j0 + 1 := by rw [List.length_append, HXL.out]; rfl
            have hlast : (X0 ++ [(x0, u0)]).getD j0 default = (x0, u0) := by rw [← HXL.out]; simp
            obtain ⟨gw, ow, ew2, -, -, hcw⟩ := hlw j0 (by rw [hjl]; omega)
            rw [ew2] at ew
            simp only [Value.slice.injEq, Option.some.injEq, Addr.mk.injEq] at ew
            obtain ⟨⟨rfl, rfl, -⟩, -, -⟩ := ew
            rw [hlast, eu, Nat.zero_add] at hcw
            try dsimp only at hcw
            have hR5 : Owns Y5 w.heap.size 30 2 (.slice (some ⟨g3, 0, none⟩) m0 c3) (prR (X0 ++ [(x0, u0)])) := PW.out.1.kept fun k hk' hv => hk5 k hk' (fun e => hux.apartT PW.out.1 (by decide) k e hv)
            have hpl : (prR (X0 ++ [(x0, u0)])).length = j0 + 1 := by rw [prR_length]; exact hjl
            rw [show (Value.slice (some ⟨g3, 0, none⟩) m0 c3) = .slice (some ⟨g3, 0, none⟩) (prR (X0 ++ [(x0, u0)])).length c3 by rw [hpl, HLn.out]] at hR5
            obtain ⟨y0, d0⟩ := hR5.cellX j0 1 (by rw [hpl]; omega) (by omega)
            have f0 := hR5.free (j0 * 2 + 1)
            have S0 : Hid (wr.drew.cell? ⟨g3, j0 * 2 + 1, none⟩ = some (.slice Au nu cu) ∧ wr.drew.cell? ⟨g, off + k * 2, none⟩ = some (.int .i64 pt) ∧ wr.drew.cell? ⟨g, off + k * 2 + 1, none⟩ = some (.int .i64 pv)) := ⟨hcw, hc0, hc1⟩
            have g1 : IntKind.i64.wrap ((m0 : Int) - 1) = (j0 : Int) := by rw [IntKind.wrap_i64]; have := HJ.out; have := HLn.out; omega
            have qj : (j0 : Int) < (m0 : Int) := by have := HLn.out; omega
            have qj2 : (j0 : Int) ≤ 100 := by have := HJ.out; omega
            rw [eu] at r5
            clear hux eu hO5 hO5' hk5 hw5 hP6 hg3 hlw hjl hlast ew2 hcw hR5 hpl hb5 hzW hc0 hc1
            go_wp2_with fail
            refine wp_region_until (fun w' => w'.cell? ⟨g3, j0 * 2 + 1, none⟩ = some (.slice Au nu cu) ∧ w'.cell? ⟨g, off + k * 2, none⟩ = some (.int .i64 pt) ∧ w'.cell? ⟨g, off + k * 2 + 1, none⟩ = some (.int .i64 pv)) (fun i => i == 12 || i == 15) 16 (by rfl) (by kernel_rfl) ?_
            refine until_pure 0 (v := ?_) (by rfl) (by kernel_rfl) (by exact fun _ _ _ h => h) (by rfl) ?_ ?_
            rotate_left
            · intro w
              go_simp
              try with_reducible rfl
            try simp only [Act.put, List.setIfInBounds_toArray, List.set_cons_zero, List.set_cons_succ]
            refine until_pure 1 (v := ?_) (by rfl) (by kernel_rfl) (by exact fun _ _ _ h => h) (by rfl) ?_ ?_
            rotate_left
            · intro w
              go_simp
              try with_reducible rfl
            try simp only [Act.put, List.setIfInBounds_toArray, List.set_cons_zero, List.set_cons_succ]
            refine until_pure 2 (v := ?_) (by rfl) (by kernel_rfl) (by exact fun _ _ _ h => h) (by rfl) ?_ ?_
            rotate_left
            · intro w
              go_simp
              try with_reducible rfl
            try simp only [Act.put, List.setIfInBounds_toArray, List.set_cons_zero, List.set_cons_succ]
            refine until_pure 3 (v := ?_) (by rfl) (by kernel_rfl) (by exact fun _ _ _ h => h) (by rfl) ?_ ?_
            rotate_left
            · intro w
              go_simp
              try with_reducible rfl
            try simp only [Act.put, List.setIfInBounds_toArray, List.set_cons_zero, List.set_cons_succ]
            refine until_pure 7 (v := ?_) (by rfl) (by kernel_rfl) (by exact fun _ _ _ h => h) (by rfl) ?_ ?_
            rotate_left
            · intro w
              go_simp
              try with_reducible rfl
            try simp only [Act.put, List.setIfInBounds_toArray, List.set_cons_zero, List.set_cons_succ]
            refine until_pure 8 (v := ?_) (by rfl) (by kernel_rfl) (by exact fun _ _ _ h => h) (by rfl) ?_ ?_
            rotate_left
            · intro w
              go_simp
              try with_reducible rfl
            try simp only [Act.put, List.setIfInBounds_toArray, List.set_cons_zero, List.set_cons_succ]
            refine until_pure 4 (v := ?_) (by rfl) (by kernel_rfl) (by exact fun _ _ _ h => h) (by rfl) ?_ ?_
            rotate_left
            · intro w
              go_simp
              try with_reducible rfl
            try simp only [Act.put, List.setIfInBounds_toArray, List.set_cons_zero, List.set_cons_succ]
            refine until_pure 5 (v := ?_) (by rfl) (by kernel_rfl) (by exact fun _ _ _ h => h) (by rfl) ?_ ?_
            rotate_left
            · intro w
              go_simp
              try with_reducible rfl
            try simp only [Act.put, List.setIfInBounds_toArray, List.set_cons_zero, List.set_cons_succ]
            refine until_pure 9 (v := ?_) (by rfl) (by kernel_rfl) (by exact fun _ _ _ h => h) (by rfl) ?_ ?_
            rotate_left
            · intro w
              go_simp
              try with_reducible rfl
            try simp only [Act.put, List.setIfInBounds_toArray, List.set_cons_zero, List.set_cons_succ]
            refine until_take 6 (v := ?_) (by rfl) (by kernel_rfl) (by exact fun _ _ _ h => h) (by rfl) ?_ S0.out ?_
            rotate_left
            · intro w hSw
              try dsimp only at hSw
              go_simp
              try with_reducible rfl
            try simp only [Act.put, List.setIfInBounds_toArray, List.set_cons_zero, List.set_cons_succ]
            refine until_take 10 (v := ?_) (by rfl) (by kernel_rfl) (by exact fun _ _ _ h => h) (by rfl) ?_ S0.out ?_
            rotate_left
            · intro w hSw
              try dsimp only at hSw
              go_simp
              try with_reducible rfl
            try simp only [Act.put, List.setIfInBounds_toArray, List.set_cons_zero, List.set_cons_succ]
            refine until_one 11 (by rfl) (by kernel_rfl) (fun K hK => ?_)
            go_simp
            refine hK.out _ _ (fun _ h => ⟨cell_alloc_keepB h.1 _, cell_alloc_keepB h.2.1 _, cell_alloc_keepB h.2.2 _⟩) ?_
            clear hK K
            try simp only [Act.put, List.setIfInBounds_toArray, List.set_cons_zero, List.set_cons_succ]
            refine until_one 12 (by rfl) (by kernel_rfl) (fun K hK => ?_)
            refine step_append_run (by rfl) (.tmp 52) (.tmp 57) 24 (by rfl) _ _ _ _ (by rfl) (by rfl) r5 ?_
            refine hK.out _ _ (fun h => by cases h) ?_
            clear hK K
            try simp only [Act.put, List.setIfInBounds_toArray, List.set_cons_zero, List.set_cons_succ]
            refine until_pure 13 (v := ?_) (by rfl) (by kernel_rfl) (by exact fun _ _ _ h => h) (by rfl) ?_ ?_
            rotate_left
            · intro w
              go_simp
              try with_reducible rfl
            try simp only [Act.put, List.setIfInBounds_toArray, List.set_cons_zero, List.set_cons_succ]
            refine until_pure 14 (v := ?_) (by rfl) (by kernel_rfl) (by exact fun _ _ _ h => h) (by rfl) ?_ ?_
            rotate_left
            · intro w
              go_simp
              try with_reducible rfl
            try simp only [Act.put, List.setIfInBounds_toArray, List.set_cons_zero, List.set_cons_succ]
            refine until_one 15 (by rfl) (by kernel_rfl) (fun K hK => ?_)
            go_simp
            refine hK.out _ _ (fun h => by cases h) ?_
            clear hK K
            try simp only [Act.put, List.setIfInBounds_toArray, List.set_cons_zero, List.set_cons_succ]
            refine until_done (by kernel_rfl) ?_ _
            go_wp2_with fail
            go_roundw
            case rel => exact ⟨k + 1, _, by omega, by go_num, HNx.out _, P6.out, B6.out⟩
            case measure => simp [intOf]; omega
          · have HNx0 : Hid (∀ r : Value, (L ++ [((⟨b, [] ++ [⟨pt, pv⟩]⟩ : Prt), r)]).map Prod.fst = spl (l.take (k + 1))) := by
              intro r
              rw [HTk.out, ← HLM.out, opn_new (.inr (by rw [hLm, lastP_snoc]; exact hnum)), putPt_snoc]
              simp
            have hnb : (x0.num != b) = true := by simp [hnum]
            clear hnum hLm hLX hj0 HLn0 h0
            go_wp2_with fail
            refine (cB _).mono ?_
            rintro _ _ ⟨rfl, rfl⟩
            go_wp2_with (at_builtin; refine wpList_append_row rfl (.tmp 38) (.tmp 41) 26 30 (.agg #[.int .i64 0, .slice none 0 0]) 2 32 rfl Try.underlying26 Try.infoPart rfl (by omega) w.heap.size _ (prR L) rfl HP.out.1 [.int .i64 b, .slice none 0 0] rfl (by simp [Value.oneCell']) rfl (by rw [prR_length]; have := HSh.out.1; omega) (by omega) BW0.out.size ?_; intro v' Y1 hO1 hb1 hk1 _; refine Shut.out ?_)
            unfold Shut
            have hP1 := HP.out.more b ⟨b, []⟩ (.slice none 0 0) hO1 hk1 (Owns.nil _ _ _ _) (fun p _ => apart_nil _)
            obtain ⟨j, hJ⟩ : ∃ j : Nat, j = L.length := ⟨_, rfl⟩
            obtain ⟨ln, hln⟩ : ∃ ln : Nat, ln = j + 1 := ⟨_, rfl⟩
            have HLn : Hid (ln = j + 1) := hln
            obtain ⟨g3, c3, e3⟩ : ∃ g3 c3, v' = .slice (some ⟨g3, 0, none⟩) ln c3 := by
              rcases hP1.1.2.2 with ⟨_, h0⟩ | ⟨g3, cc, cur, e, _⟩
              · simp [prR] at h0
              · exact ⟨g3, cc, by rw [e, prR_length, hln, hJ]; simp⟩
            subst e3
            have BW : Hid (Below w.heap.size w Y1) := BW0.out.trans hb1
            have HJ0 : Hid (L.length = j) := hJ.symm
            have HJ : Hid (j ≤ 60) := by unfold Hid; rw [hJ]; exact HSh.out.1
            have HXS0 : Hid ((⟨b, []⟩ : Prt).pts.length ≤ 60) := by unfold Hid; simp
            clear hO1 hk1 hJ hln
            have hc0 : Y1.cell? ⟨g, off + k * 2, none⟩ = some (.int .i64 pt) := (hb1.cell (p := ⟨g, _, none⟩) HGW.out).trans hc0
            have hc1 : Y1.cell? ⟨g, off + k * 2 + 1, none⟩ = some (.int .i64 pv) := (hb1.cell (p := ⟨g, _, none⟩) HGW.out).trans hc1
            obtain ⟨X, hX⟩ : ∃ X : List (Prt × Value), X = L := ⟨_, rfl⟩
            obtain ⟨x, hx⟩ : ∃ x : Prt, x = ⟨b, []⟩ := ⟨_, rfl⟩
            obtain ⟨ux, hux0⟩ : ∃ ux : Value, ux = .slice none 0 0 := ⟨_, rfl⟩
            have PW : Hid (PrtO Y1 w.heap.size (.slice (some ⟨g3, 0, none⟩) ln c3) (X ++ [(x, ux)])) := by unfold Hid; rw [hX, hx, hux0]; exact hP1
            have HNx : Hid (∀ r : Value, (X ++ [((⟨x.num, x.pts ++ [⟨pt, pv⟩]⟩ : Prt), r)]).map Prod.fst = spl (l.take (k + 1))) := by intro r; rw [hX, hx]; exact HNx0.out r
            have HXL : Hid (X.length = j) := by unfold Hid; rw [hX]; exact HJ0.out
            have HXS : Hid (x.pts.length ≤ 60) := by unfold Hid; rw [hx]; exact HXS0.out
            clear hX hx hux0 hP1
            have hux : Owns Y1 w.heap.size 33 2 ux (ptR x.pts) := PW.out.2.1 (x, ux) (by simp)
            obtain ⟨Au, nu, cu, eu⟩ := hux.shape
            have HEu : Hid (ux = .slice Au nu cu) := eu
            have hzW : w.heap.size ≤ Y1.drew.heap.size := BW.out.size
            obtain ⟨nA, nm, nc, Y5, r5, hO5, hb5, hk5, hw5⟩ := run_append_row (P := Try.prog) Y1.drew 24 24 33 (.agg #[.int .i64 0, .int .i64 0]) 2 16 Try.underlying24 Try.infoPt rfl (by omega) w.heap.size ux (ptR x.pts) (hux.kept fun _ _ _ => rfl) [.int .i64 pt, .int .i64 pv] rfl (pt_cellsB pt pv) (by rw [ptR_length]; have := HXS.out; omega) (by omega) hzW
            have hO5' : Owns Y5 w.heap.size 33 2 (.slice nA nm nc) (ptR (x.pts ++ [⟨pt, pv⟩])) := by rw [ptR_append]; exact hO5
            have hP6 : PrtO (Y5.setCell ⟨g3, X.length * 2 + 1, none⟩ (.slice nA nm nc)) w.heap.size (.slice (some ⟨g3, 0, none⟩) ln c3) (X ++ [(⟨x.num, x.pts ++ [⟨pt, pv⟩]⟩, .slice nA nm nc)]) := PW.out.put (by rw [HXL.out]; exact HLn.out) rfl hO5' hk5 hw5
            rw [HXL.out] at hP6
            have P6 : Hid (PrtO (Y5.setCell ⟨g3, j * 2 + 1, none⟩ (.slice nA nm nc)) w.heap.size (.slice (some ⟨g3, 0, none⟩) ln c3) (X ++ [(⟨x.num, x.pts ++ [⟨pt, pv⟩]⟩, .slice nA nm nc)])) := hP6
            have hg3 := (PW.out.1.lt g3 rfl)
            have B6 : Hid (Below w.heap.size w (Y5.setCell ⟨g3, j * 2 + 1, none⟩ (.slice nA nm nc))) := (BW.out.drew.trans hb5).setCell (show w.heap.size ≤ g3 from hg3.1) _
            obtain ⟨Aw, cw, ew, hlw⟩ := pr_look PW.out.lies.1
            have hjl : (X ++ [(x, ux)]).length = j + 1 := by rw [List.length_append, HXL.out]; rfl
            have hlast : (X ++ [(x, ux)]).getD j default = (x, ux) := by rw [← HXL.out]; simp
            obtain ⟨gw, ow, ew2, -, -, hcw⟩ := hlw j (by rw [hjl]; omega)
            rw [ew2] at ew
            simp only [Value.slice.injEq, Option.some.injEq, Addr.mk.injEq] at ew
            obtain ⟨⟨rfl, rfl, -⟩, -, -⟩ := ew
            rw [hlast, eu, Nat.zero_add] at hcw
            try dsimp only at hcw
            have hR5 : Owns Y5 w.heap.size 30 2 (.slice (some ⟨g3, 0, none⟩) ln c3) (prR (X ++ [(x, ux)])) := PW.out.1.kept fun k hk' hv => hk5 k hk' (fun e => hux.apartT PW.out.1 (by decide) k e hv)
            have hpl : (prR (X ++ [(x, ux)])).length = j + 1 := by rw [prR_length]; exact hjl
            rw [show (Value.slice (some ⟨g3, 0, none⟩) ln c3) = .slice (some ⟨g3, 0, none⟩) (prR (X ++ [(x, ux)])).length c3 by rw [hpl, HLn.out]] at hR5
            obtain ⟨y0, d0⟩ := hR5.cellX j 1 (by rw [hpl]; omega) (by omega)
            have f0 := hR5.free (j * 2 + 1)
            have S0 : Hid (Y1.drew.cell? ⟨g3, j * 2 + 1, none⟩ = some (.slice Au nu cu) ∧ Y1.drew.cell? ⟨g, off + k * 2, none⟩ = some (.int .i64 pt) ∧ Y1.drew.cell? ⟨g, off + k * 2 + 1, none⟩ = some (.int .i64 pv)) := ⟨hcw, hc0, hc1⟩
            have g1 : IntKind.i64.wrap ((ln : Int) - 1) = (j : Int) := by rw [IntKind.wrap_i64]; have := HJ.out; have := HLn.out; omega
            have qj : (j : Int) < (ln : Int) := by have := HLn.out; omega
            have qj2 : (j : Int) ≤ 100 := by have := HJ.out; omega
            rw [eu] at r5
            clear hux eu hO5 hO5' hk5 hw5 hP6 hg3 hlw hjl hlast ew2 hcw hR5 hpl hb5 hzW hc0 hc1
            go_wp2_with fail
            refine wp_region_until (fun w' => w'.cell? ⟨g3, j * 2 + 1, none⟩ = some (.slice Au nu cu) ∧ w'.cell? ⟨g, off + k * 2, none⟩ = some (.int .i64 pt) ∧ w'.cell? ⟨g, off + k * 2 + 1, none⟩ = some (.int .i64 pv)) (fun i => i == 12 || i == 15) 16 (by rfl) (by kernel_rfl) ?_
            refine until_pure 0 (v := ?_) (by rfl) (by kernel_rfl) (by exact fun _ _ _ h => h) (by rfl) ?_ ?_
            rotate_left
            · intro w
              go_simp
              try with_reducible rfl
            try simp only [Act.put, List.setIfInBounds_toArray, List.set_cons_zero, List.set_cons_succ]
            refine until_pure 1 (v := ?_) (by rfl) (by kernel_rfl) (by exact fun _ _ _ h => h) (by rfl) ?_ ?_
            rotate_left
            · intro w
              go_simp
              try with_reducible rfl
            try simp only [Act.put, List.setIfInBounds_toArray, List.set_cons_zero, List.set_cons_succ]
            refine until_pure 2 (v := ?_) (by rfl) (by kernel_rfl) (by exact fun _ _ _ h => h) (by rfl) ?_ ?_
            rotate_left
            · intro w
              go_simp
              try with_reducible rfl
            try simp only [Act.put, List.setIfInBounds_toArray, List.set_cons_zero, List.set_cons_succ]
            refine until_pure 3 (v := ?_) (by rfl) (by kernel_rfl) (by exact fun _ _ _ h => h) (by rfl) ?_ ?_
            rotate_left
            · intro w
              go_simp
              try with_reducible rfl
            try simp only [Act.put, List.setIfInBounds_toArray, List.set_cons_zero, List.set_cons_succ]
            refine until_pure 7 (v := ?_) (by rfl) (by kernel_rfl) (by exact fun _ _ _ h => h) (by rfl) ?_ ?_
            rotate_left
            · intro w
              go_simp
              try with_reducible rfl
            try simp only [Act.put, List.setIfInBounds_toArray, List.set_cons_zero, List.set_cons_succ]
            refine until_pure 8 (v := ?_) (by rfl) (by kernel_rfl) (by exact fun _ _ _ h => h) (by rfl) ?_ ?_
            rotate_left
            · intro w
              go_simp
              try with_reducible rfl
            try simp only [Act.put, List.setIfInBounds_toArray, List.set_cons_zero, List.set_cons_succ]
            refine until_pure 4 (v := ?_) (by rfl) (by kernel_rfl) (by exact fun _ _ _ h => h) (by rfl) ?_ ?_
            rotate_left
            · intro w
              go_simp
              try with_reducible rfl
            try simp only [Act.put, List.setIfInBounds_toArray, List.set_cons_zero, List.set_cons_succ]
            refine until_pure 5 (v := ?_) (by rfl) (by kernel_rfl) (by exact fun _ _ _ h => h) (by rfl) ?_ ?_
            rotate_left
            · intro w
              go_simp
              try with_reducible rfl
            try simp only [Act.put, List.setIfInBounds_toArray, List.set_cons_zero, List.set_cons_succ]
            refine until_pure 9 (v := ?_) (by rfl) (by kernel_rfl) (by exact fun _ _ _ h => h) (by rfl) ?_ ?_
            rotate_left
            · intro w
              go_simp
              try with_reducible rfl
            try simp only [Act.put, List.setIfInBounds_toArray, List.set_cons_zero, List.set_cons_succ]
            refine until_take 6 (v := ?_) (by rfl) (by kernel_rfl) (by exact fun _ _ _ h => h) (by rfl) ?_ S0.out ?_
            rotate_left
            · intro w hSw
              try dsimp only at hSw
              go_simp
              try with_reducible rfl
            try simp only [Act.put, List.setIfInBounds_toArray, List.set_cons_zero, List.set_cons_succ]
            refine until_take 10 (v := ?_) (by rfl) (by kernel_rfl) (by exact fun _ _ _ h => h) (by rfl) ?_ S0.out ?_
            rotate_left
            · intro w hSw
              try dsimp only at hSw
              go_simp
              try with_reducible rfl
            try simp only [Act.put, List.setIfInBounds_toArray, List.set_cons_zero, List.set_cons_succ]
            refine until_one 11 (by rfl) (by kernel_rfl) (fun K hK => ?_)
            go_simp
            refine hK.out _ _ (fun _ h => ⟨cell_alloc_keepB h.1 _, cell_alloc_keepB h.2.1 _, cell_alloc_keepB h.2.2 _⟩) ?_
            clear hK K
            try simp only [Act.put, List.setIfInBounds_toArray, List.set_cons_zero, List.set_cons_succ]
            refine until_one 12 (by rfl) (by kernel_rfl) (fun K hK => ?_)
            refine step_append_run (by rfl) (.tmp 52) (.tmp 57) 24 (by rfl) _ _ _ _ (by rfl) (by rfl) r5 ?_
            refine hK.out _ _ (fun h => by cases h) ?_
            clear hK K
            try simp only [Act.put, List.setIfInBounds_toArray, List.set_cons_zero, List.set_cons_succ]
            refine until_pure 13 (v := ?_) (by rfl) (by kernel_rfl) (by exact fun _ _ _ h => h) (by rfl) ?_ ?_
            rotate_left
            · intro w
              go_simp
              try with_reducible rfl
            try simp only [Act.put, List.setIfInBounds_toArray, List.set_cons_zero, List.set_cons_succ]
            refine until_pure 14 (v := ?_) (by rfl) (by kernel_rfl) (by exact fun _ _ _ h => h) (by rfl) ?_ ?_
            rotate_left
            · intro w
              go_simp
              try with_reducible rfl
            try simp only [Act.put, List.setIfInBounds_toArray, List.set_cons_zero, List.set_cons_succ]
            refine until_one 15 (by rfl) (by kernel_rfl) (fun K hK => ?_)
            go_simp
            refine hK.out _ _ (fun h => by cases h) ?_
            clear hK K
            try simp only [Act.put, List.setIfInBounds_toArray, List.set_cons_zero, List.set_cons_succ]
            refine until_done (by kernel_rfl) ?_ _
            go_wp2_with fail
            go_roundw
            case rel => exact ⟨k + 1, _, by omega, by go_num, HNx.out _, P6.out, B6.out⟩
            case measure => simp [intOf]; omega
      · obtain rfl : k = n := by omega
        have HF : Hid (L.map Prod.fst = splX l) := by
          unfold Hid
          rw [HX.out, HLM.out, List.take_of_length_le (by rw [HLen.out]; exact Nat.le_refl _)]
        clear HL3
        go_wp2_with fail
        go_ret
        exact ⟨_, L, rfl, HF.out, HP.out, BW0.out⟩
  · rw [decide_eq_false hok] at cP
    have HX : Hid (splX l = []) := if_neg hok
    clear hok hn HL HV
    go_enter Try.func21, Try.ntmps21
    go_wp2_with fail
    refine cP.mono ?_
    rintro _ w1 ⟨rfl, hlk⟩
    have P1 : Hid (PrtO w1 w.heap.size (.slice (some ⟨w.heap.size, 0, none⟩) 0 0) []) := ⟨HE.out.1.heap hlk.1, fun p hp => (by cases hp), List.Pairwise.nil⟩
    have B1 : Hid (Below w.heap.size w w1) := HB0.out.trans (hlk.below.mono HB0.out.size)
    clear hlk cP
    go_wp2_with fail
    go_ret
    exact ⟨_, [], rfl, by rw [HX.out]; rfl, P1.out, B1.out⟩
end Go.Proofs.Ytfkgaoegdnkfcaa
