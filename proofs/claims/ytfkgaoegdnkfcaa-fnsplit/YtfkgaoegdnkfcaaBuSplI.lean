/-
  Contract of impl.Split: its runs of points are an iterator that a range over a function takes.
-/
import Derived.Test.YtfkgaoegdnkfcaaBuIter
import Derived.Test.YtfkgaoegdnkfcaaBuRound
import Derived.Test.YtfkgaoegdnkfcaaBuSplS
import Derived.Test.YtfkgaoegdnkfcaaBuShelf
import Derived.Test.YtfkgaoegdnkfcaaPtOk
namespace Go.Proofs.Ytfkgaoegdnkfcaa
open Go.ChangeShapes Go.WideShapes Go.ChangeAt Go.RowKit Go.PlainAid Go.Shelf
set_option linter.unusedVariables false
attribute [local go_sem] Oper.semAt_some

theorem pt_oneB (l : List Pnt) : ∀ r ∈ ptR l, ∀ y ∈ r, y.oneCell' = true := by
  intro r hr y hy
  obtain ⟨x, _, rfl⟩ := List.mem_map.1 hr
  simp only [ptC, List.mem_cons, List.not_mem_nil, or_false] at hy
  rcases hy with rfl | rfl <;> rfl
theorem clonePtsB (l : List Pnt) (v : Value) (w : World) (B : Nat) (hv : Lies w B 2 v (ptR l)) (hl : l.length ≤ 1048576) (h1 : 1 ≤ l.length) :
    Calls Try.prog 33 #[v] w fun e w' => (∃ u, e = .returned u ∧ Owns w' w.heap.size 33 2 u (ptR l)) ∧ Below w.heap.size w w' := by
  obtain ⟨i0, hi, hz0, hz1, hz2⟩ := info_parts Try.infoPt
  obtain ⟨A, cap, rfl, hz, hms, hm⟩ := hv
  rcases hm with h0 | ⟨g, off, rfl, hg, hc⟩
  · rw [ptR_length] at h0
    omega
  · refine (AnyE.slices_Clone Try.cloneP i0 _ 2 16 hi hz0 hz1 hz2 rfl (by omega) Try.sizeOf33 g off (ptR l).length cap (ptR l).flatten w (flat_length 2 _ hms) (by rw [ptR_length]; unfold maxLen; omega) (by rw [ptR_length]; omega) hc ?_).mono ?_
    · intro y hy
      obtain ⟨r, hr, hyr⟩ := List.mem_flatten.1 hy
      exact pt_oneB l r hr y hyr
    · rintro e w' ⟨u, rfl, hO, _, hb⟩
      exact ⟨⟨u, rfl, hms, hO⟩, hb⟩
/-- A block of a row is one of cells. -/
theorem Owns.isRow {w : World} {base : Nat} {e : TypeId} {sz : Nat} {v : Value} {rows : List (List Value)} (h : Owns w base e sz v rows) (g : Nat) (hg : v.ownBlock = some g) (o : Obj) (ho : w.heap[g]? = some o) : o.isCells = true := by
  rcases h.2.2 with ⟨rfl, _⟩ | ⟨g1, c1, cur1, rfl, _, k1, _⟩
  · cases hg
  · cases hg
    rw [k1] at ho
    cases ho
    rfl
theorem Owns.turned {w w' : World} {base : Nat} {e : TypeId} {sz : Nat} {v : Value} {rows : List (List Value)} {row : Option Nat} (h : Owns w base e sz v rows) (hg : w.grownBy w' row) (hr : ∀ r, row = some r → ∃ o, w.heap[r]? = some o ∧ o.isCells = false) : Owns w' base e sz v rows :=
  h.kept fun g hlt hv => hg.block g hlt (fun e => by
    obtain ⟨o, ho, hc⟩ := hr g e.symm
    rw [h.isRow g hv o ho] at hc
    cases hc)
theorem PrtO.turned {w w' : World} {base : Nat} {v : Value} {L : List (Prt × Value)} {row : Option Nat} (h : PrtO w base v L) (hg : w.grownBy w' row) (hr : ∀ r, row = some r → ∃ o, w.heap[r]? = some o ∧ o.isCells = false) : PrtO w' base v L :=
  ⟨h.1.turned hg hr, fun p hp => (h.2.1 p hp).turned hg hr, h.2.2⟩
theorem PrtO.other {w : World} {base : Nat} {v : Value} {L : List (Prt × Value)} (h : PrtO w base v L) {B t : Nat} {u : Value} (hB : Boxed w B t u) (h1 : t ≠ 30) (h2 : t ≠ 33) (x : Value) : PrtO (w.setCell ⟨B, 0, none⟩ x) base v L :=
  ⟨h.1.other (fun e => hB.not_row h1 h.1.2 e.symm) _ _, fun p hp => (h.2.1 p hp).other (fun e => hB.not_row h2 (h.2.1 p hp).2 e.symm) _ _, h.2.2⟩
theorem spl_piece (l : List Pnt) (b e : Nat) : ptR ((l.take e).drop b) = ((ptR l).take e).drop b := by simp [ptR, List.map_take, List.map_drop]

set_option maxRecDepth 100000 in
set_option maxHeartbeats 1000000 in
theorem runs0_in (ll Bx c : Nat) (A : Option Addr) (J : List (Run 0) → World → Prop) (W : World) (hX : Boxed W Bx 24 (.slice A 0 c)) (h0 : J [] W) :
    CallsIn Fence.wide 1 Try.prog 45 #[.func (.yield ll) #[] #[], .pointer (some ⟨Bx, 0, none⟩)] W fun e W' => (∃ v, e = .returned v) ∧ J [] W' := by
  have hcx := hX.cell
  refine callsIn_of_wp Try.func45 rfl trivial ?_ rfl
  simp only [Try.ntmps45, List.size_toArray, List.length_cons, List.length_nil, Nat.reduceAdd, Nat.reduceSub, Array.replicate_succ, Array.replicate_zero, List.push_toArray, List.append_toArray, List.nil_append, List.cons_append]
  gi_wp2
  gi_loopw [3] (fun i wr => i = .int .i64 0 ∧ wr = W) (fun _ _ => 0)
  case atStart => exact ⟨rfl, rfl⟩
  case round =>
    obtain ⟨rfl, rfl⟩ := hrel
    gi_wp2
    go_end0
    exact ⟨⟨_, rfl⟩, h0⟩
theorem runs0_stops (Bx n₀ g off c : Nat) (A : Option Addr) (w : World) (hX : Boxed w Bx 24 (.slice A 0 c)) :
    SeqStopsK Fence.wide 1 Try.prog 45 #[.pointer (some ⟨Bx, 0, none⟩)] (fun x : Run 0 => runE g off c x) (KeepsL n₀ Bx) (fun ys => ys.map (runP []) = spl []) (fun _ => True) 0 w := fun ll J Jx W hW _ _ hY h0 =>
  (runs0_in ll Bx c A J W ((hW.block Bx hX.lt).trans hX) h0).mono fun e W' h => ⟨h.1, .inl ⟨[], rfl, h.2⟩⟩

set_option maxRecDepth 100000 in
set_option maxHeartbeats 4000000 in
/-- The loop of Split, over whatever hands it the runs of right points. -/
theorem implSplit_in (l : List Pnt) (A : Option Addr) (c n g off : Nat) (w w1 : World) (hN : l.length = n) (hok : POk l) (B : Nat) (hB : B ≤ w.heap.size) (hz : Lies w B 2 (.slice (some ⟨g, off, none⟩) n c) (ptR l))
    (cP : Calls Try.prog 31 #[.slice A n c] w fun e w' => e = .returned (.bool true) ∧ Below w.heap.size w w')
    (hseq : ∀ W Bx, Below w.heap.size w W → w.heap.size ≤ W.heap.size → Boxed W Bx 24 (.slice A n c) → ∀ n₀, w.heap.size ≤ n₀ → n₀ ≤ W.heap.size → SeqStopsK Fence.wide 1 Try.prog 45 #[.pointer (some ⟨Bx, 0, none⟩)] (fun x : Run n => runE g off c x) (KeepsL n₀ Bx) (fun ys => ys.map (runP l) = spl l) (fun _ => True) n W) :
    CallsIn Fence.wide 2 Try.prog 9 #[.slice A n c] w fun e w' => ∃ r L, e = .returned r ∧ L.map Prod.fst = spl l ∧ PrtO w' w.heap.size r L ∧ Below w.heap.size w w' := by
  have HZ : Hid (Lies w B 2 (.slice (some ⟨g, off, none⟩) n c) (ptR l)) := hz
  have HN : Hid (l.length = n ∧ n ≤ 60) := ⟨hN, by rw [← hN]; exact hok.1⟩
  have HBw : Hid (B ≤ w.heap.size) := hB
  clear hz hN hok hB
  refine callsIn_of_wp_marks Try.func9 rfl trivial ?_ rfl
  simp only [Try.ntmps9, List.size_toArray, List.length_cons, List.length_nil, Nat.reduceAdd, Nat.reduceSub, Array.replicate_succ, Array.replicate_zero, List.push_toArray, List.append_toArray, List.nil_append, List.cons_append]
  gi_wp2_with (refine ⟨trivial, ?_⟩; gi_at_call 31; refine (callsIn_wide.2 cP).mono ?_; rintro e w1 ⟨rfl, hb1⟩)
  gi_wp2_with (refine ⟨trivial, ?_⟩; gi_at_call 32; refine (runs_in (.bool true) _ _ _ _ _).mono ?_; rintro e w' ⟨rfl, rfl⟩)
  have bP := (Boxed.new w1 26 (.slice none 0 0)).alloc (.cells #[.slice A n c] 24)
  have bX := Boxed.new (w1.alloc (.cells #[.slice none 0 0] 26)) 24 (.slice A n c)
  rw [World.size_alloc] at bX
  have hB0 : Below w1.heap.size w1 ((w1.alloc (.cells #[.slice none 0 0] 26)).alloc (.cells #[.slice A n c] 24)) := ((Below.refl _ w1).alloc (Nat.le_refl _) _).alloc (by simp) _
  obtain ⟨W0, hW0⟩ : ∃ W0, W0 = (w1.alloc (.cells #[.slice none 0 0] 26)).alloc (.cells #[.slice A n c] 24) := ⟨_, rfl⟩
  have hsz : W0.heap.size = w1.heap.size + 2 := by rw [hW0]; simp
  rw [← hW0] at bP bX hB0 ⊢
  clear hW0
  have hs1 := hb1.size
  have hBW : Below w.heap.size w W0 := hb1.trans (hB0.mono hs1)
  have hq := hseq W0 (w1.heap.size + 1) hBW (by omega) bX w1.heap.size hs1 (by omega)
  have HZ1 : Hid (Lies w1 B 2 (.slice (some ⟨g, off, none⟩) n c) (ptR l)) := HZ.out.on (hb1.mono HBw.out)
  have HB1 : Hid (B ≤ w1.heap.size) := Nat.le_trans HBw.out hs1
  refine wpIn_rangeFunc_ownG rfl (by omega) (gf := 45) (lb := #[.pointer (some ⟨w1.heap.size + 1, 0, none⟩)]) rfl trivial (enters_of Try.func45 (by kernel_rfl) rfl)
    hq keepsL_t (fun W l o o' hw hl hc _ => keepsL_b W l o o' (by omega) hl hc) (Below.refl _ _) (fun _ => rfl)
    (fun (pre : List (Run n)) W => (∃ v L, Boxed W w1.heap.size 26 v ∧ L.map Prod.fst = pre.map (runP l) ∧ PrtO W w1.heap.size v L) ∧ Below w1.heap.size w1 W)
    (fun _ _ _ => False)
    (OwnFrom.and (Own.from (fun s X Y row hs hg hr => by
      obtain ⟨v, L, h1, h2, h3⟩ := hs
      exact ⟨v, L, boxed_own w1.heap.size 26 (fun _ : Unit => v) () X Y row h1 hg hr, h2, h3.turned hg hr⟩) _) (ownFrom_below (Nat.le_refl _) (by rw [hsz]; omega)))
    (fun _ _ _ _ _ hs _ _ => hs)
    ⟨⟨_, [], bP, rfl, Owns.nil _ _ _ _, fun p hp => (by cases hp), List.Pairwise.nil⟩, hB0⟩
    (fun x => { tmps := #[.slice A n c, undef, .slice none 0 0, .pointer (some ⟨w1.heap.size, 0, none⟩), .int .i64 x.1.2.2, runV g off c x, .slice A n c, .bool true, .bool false, .slice A n c,
      .func (.func 45) #[] #[.pointer (some ⟨w1.heap.size + 1, 0, none⟩)], .int .i64 x.1.2.2, runV g off c x, undef, undef, undef, undef, undef, undef, undef, undef], defers := [] }) ?assign ?body ?done ?stop
  case assign =>
    intro l x W K hK
    unfold runE
    gi_wp2
    exact hK
  case body =>
    rintro ll pre x W ⟨⟨v, L, hv, hLm, hP⟩, hB⟩ hlt
    have HX : Hid (runP l x = ⟨x.1.2.2, (l.take x.1.2.1).drop x.1.1⟩) := rfl
    have hbe := x.2.1
    have hen := x.2.2
    have hpl : ((l.take x.1.2.1).drop x.1.1).length = x.1.2.1 - x.1.1 := by rw [List.length_drop, List.length_take, HN.out.1]; omega
    have HLz : Hid (Lies W B 2 (runV g off c x) (ptR ((l.take x.1.2.1).drop x.1.1))) := by
      unfold Hid
      rw [spl_piece]
      have h1 := (HZ1.out.on (hB.mono HB1.out)).first x.1.2.1 (by rw [ptR_length, HN.out.1]; exact hen)
      exact h1.behind x.1.1 (by rw [List.length_take, ptR_length, HN.out.1]; omega)
    have cC := fun (wx : World) (hx : Below w1.heap.size W wx) => clonePtsB ((l.take x.1.2.1).drop x.1.1) (runV g off c x) wx B (HLz.out.on (hx.mono HB1.out)) (by rw [hpl]; have := HN.out.2; omega) (by rw [hpl]; omega)
    have HLl : Hid (L.length ≤ 60) := by
      have h1 := congrArg List.length hLm
      rw [List.length_map, List.length_map] at h1
      have := HN.out.2
      unfold Hid
      omega
    have HV : Hid (Boxed W w1.heap.size 26 v) := hv
    have HLm : Hid (L.map Prod.fst = pre.map (runP l)) := hLm
    have HP : Hid (PrtO W w1.heap.size v L) := hP
    have HB : Hid (Below w1.heap.size w1 W) := hB
    obtain ⟨Av, mv, cv, rfl⟩ := hP.1.shape
    have S0 : Hid (W.drew.cell? ⟨w1.heap.size, 0, none⟩ = some (.slice Av mv cv)) := hv.cell
    have hvlt : w1.heap.size < W.heap.size := hv.lt
    have HVL : Hid (w1.heap.size < W.heap.size) := hvlt
    generalize hbb : x.1.2.2 = bb at *
    generalize hpp : (l.take x.1.2.1).drop x.1.1 = pp at *
    obtain ⟨rv, hrv⟩ : ∃ rv, rv = runV g off c x := ⟨_, rfl⟩
    rw [← hrv] at cC ⊢
    obtain ⟨Ar, mr, cr, hrv2⟩ : ∃ Ar mr cr, rv = .slice Ar mr cr := ⟨_, _, _, hrv⟩
    subst hrv2
    clear hP hv hLm hB hpl hbe hen hrv hpp hlt hvlt
    gi_wp2
    refine round_until (fun w' => w'.cell? ⟨w1.heap.size, 0, none⟩ = some (.slice Av mv cv)) (fun i => i == 6 || i == 7) 8 (by rfl) (by kernel_rfl) (by rintro ⟨_, _, h⟩; exact h) (by rfl) ?_
    refine until_pure 1 (v := ?_) (by rfl) (by kernel_rfl) (by exact fun _ _ _ h => h) (by rfl) ?_ ?_
    rotate_left
    · intro w
      go_simp
      try with_reducible rfl
    try simp only [Act.put, List.setIfInBounds_toArray, List.set_cons_zero, List.set_cons_succ]
    refine until_pure 2 (v := ?_) (by rfl) (by kernel_rfl) (by exact fun _ _ _ h => h) (by rfl) ?_ ?_
    rotate_left
    · intro w
      go_simp
      try with_reducible rfl
    try simp only [Act.put, List.setIfInBounds_toArray, List.set_cons_zero, List.set_cons_succ]
    refine until_take 0 (v := ?_) (by rfl) (by kernel_rfl) (by exact fun _ _ _ h => h) (by rfl) ?_ S0.out ?_
    rotate_left
    · intro w hSw
      try dsimp only at hSw
      go_simp
      try with_reducible rfl
    try simp only [Act.put, List.setIfInBounds_toArray, List.set_cons_zero, List.set_cons_succ]
    refine until_one 3 (by rfl) (by kernel_rfl) (fun K hK => ?_)
    go_simp
    refine (cC W.drew (Below.refl _ W).drew).mono ?_
    rintro e W3 ⟨⟨u, rfl, hO3⟩, hb3⟩
    obtain ⟨Au, mu, cu, rfl⟩ := hO3.shape
    have B3 : Hid (Below W.heap.size W W3) := (Below.refl _ W).drew.trans hb3
    have O3 : Hid (Owns W3 W.heap.size 33 2 (.slice Au mu cu) (ptR pp)) := hO3
    have S3 : W3.cell? ⟨w1.heap.size, 0, none⟩ = some (.slice Av mv cv) := (B3.out.cell (p := ⟨w1.heap.size, 0, none⟩) HVL.out).trans S0.out
    clear hb3 hO3 cC
    go_wp2_with fail
    refine hK.out _ _ (fun _ _ => S3) ?_
    clear hK K
    try simp only [Act.put, List.setIfInBounds_toArray, List.set_cons_zero, List.set_cons_succ]
    refine until_pure 4 (v := ?_) (by rfl) (by kernel_rfl) (by exact fun _ _ _ h => h) (by rfl) ?_ ?_
    rotate_left
    · intro w
      go_simp
      try with_reducible rfl
    try simp only [Act.put, List.setIfInBounds_toArray, List.set_cons_zero, List.set_cons_succ]
    obtain ⟨nA, nm, nc, Y5, r5, hO5, hb5, hk5, hw5⟩ := run_append_row (P := Try.prog) W3 26 26 30 (.agg #[.int .i64 0, .slice none 0 0]) 2 32 Try.underlying26 Try.infoPart rfl (by omega) w1.heap.size (.slice Av mv cv) (prR L) (HP.out.1.on B3.out) [.int .i64 bb, .slice Au mu cu] rfl (by simp [Value.oneCell']) (by rw [prR_length]; have := HLl.out; omega) (by omega) (Nat.le_trans HB.out.size B3.out.size)
    refine until_one 5 (by rfl) (by kernel_rfl) (fun K hK => ?_)
    go_simp
    refine hK.out _ _ (fun _ h => cell_alloc_keepB h _) ?_
    clear hK K
    try simp only [Act.put, List.setIfInBounds_toArray, List.set_cons_zero, List.set_cons_succ]
    refine until_one 6 (by rfl) (by kernel_rfl) (fun K hK => ?_)
    refine step_append_run (by rfl) (.tmp 13) (.tmp 18) 26 (by rfl) _ _ _ _ (by rfl) (by rfl) r5 ?_
    refine hK.out _ _ (fun h => by cases h) ?_
    clear hK K
    try simp only [Act.put, List.setIfInBounds_toArray, List.set_cons_zero, List.set_cons_succ]
    have hV3 : Boxed W3 w1.heap.size 26 (.slice Av mv cv) := (B3.out.block _ HVL.out).trans HV.out
    have hR3 : Owns W3 w1.heap.size 30 2 (.slice Av mv cv) (prR L) := HP.out.1.on B3.out
    have hV5 : Boxed Y5 w1.heap.size 26 (.slice Av mv cv) := (hk5 _ hV3.lt (fun e => hV3.not_row (by decide) hR3.2 e.symm)).trans hV3
    have hcV := hV5.cell
    have hfV := hV5.frozen
    have hP3 : PrtO W3 w1.heap.size (.slice Av mv cv) L := ⟨hR3, fun p hp => (HP.out.2.1 p hp).on B3.out, HP.out.2.2⟩
    have hu5 : Owns Y5 w1.heap.size 33 2 (.slice Au mu cu) (ptR pp) := ((O3.out.mono HB.out.size).kept fun k hk hv => hk5 k hk (fun e => (O3.out.mono HB.out.size).apartT hR3 (by decide) k hv e))
    have hP5 := hP3.more bb ⟨bb, pp⟩ (.slice Au mu cu) hO5 hk5 hu5 (fun p hp k h1 h2 => by have := ((HP.out.2.1 p hp).lt k h1).2; have := (O3.out.lt k h2).1; omega)
    have hP6 : Hid (PrtO (Y5.setCell ⟨w1.heap.size, 0, none⟩ (.slice nA nm nc)) w1.heap.size (.slice nA nm nc) (L ++ [(⟨bb, pp⟩, .slice Au mu cu)])) := hP5.other hV5 (by decide) (by decide) _
    have hB6 : Hid (Below w1.heap.size W (Y5.setCell ⟨w1.heap.size, 0, none⟩ (.slice nA nm nc))) := ((B3.out.mono HB.out.size).trans hb5).setCell (Nat.le_refl _) _
    have hX6 : Hid (∀ u, Boxed W (w1.heap.size + 1) 24 u → Boxed (Y5.setCell ⟨w1.heap.size, 0, none⟩ (.slice nA nm nc)) (w1.heap.size + 1) 24 u) := fun u hu => by
      have hu3 : Boxed W3 (w1.heap.size + 1) 24 u := (B3.out.block _ hu.lt).trans hu
      have hu5 : Boxed Y5 (w1.heap.size + 1) 24 u := (hk5 _ hu3.lt (fun e => hu3.not_row (by decide) hR3.2 e.symm)).trans hu3
      exact hu5.other (by omega) _
    have hK6 : Hid (KeepsFrom W0.heap.size W (Y5.setCell ⟨w1.heap.size, 0, none⟩ (.slice nA nm nc))) := by
      refine KeepsFrom.trans ⟨Nat.le_trans B3.out.size hb5.size, fun k o _ hk ho => ?_⟩ ((KeepsOthers.setCell _ _ _).from _)
      have h3 : W3.heap[k]? = some o := (B3.out.block k (Array.getElem?_eq_some_iff.1 hk).1).trans hk
      refine (hk5 k (Array.getElem?_eq_some_iff.1 h3).1 (fun e => ?_)).trans h3
      rw [hR3.isRow k e o h3] at ho
      cases ho
    have HM6 : Hid ((L ++ [((⟨bb, pp⟩ : Prt), Value.slice Au mu cu)]).map Prod.fst = (pre ++ [x]).map (runP l)) := by
      unfold Hid
      rw [List.map_append, List.map_append, HLm.out]
      simp [HX.out]
    have hV6 : Hid (Boxed (Y5.setCell ⟨w1.heap.size, 0, none⟩ (.slice nA nm nc)) w1.heap.size 26 (.slice nA nm nc)) := hV5.set _
    clear hV3 hR3 hV5 hP3 hu5 hP5 hb5 hk5 hw5 hO5 r5
    refine until_one 7 (by rfl) (by kernel_rfl) (fun K hK => ?_)
    go_simp
    refine hK.out _ _ (fun h => by cases h) ?_
    clear hK K
    try simp only [Act.put, List.setIfInBounds_toArray, List.set_cons_zero, List.set_cons_succ]
    refine until_done (by kernel_rfl) ?_ _
    exact ⟨hK6.out, ⟨hB6.out, hX6.out⟩, ⟨_, _, hV6.out, HM6.out, hP6.out⟩, HB.out.trans hB6.out⟩
  case done =>
    rintro D ys W hD hS ⟨⟨v, L, hv, hLm, hP⟩, hB⟩ hK
    obtain ⟨Av, mv, cv, rfl⟩ := hP.1.shape
    have hc := hv.cell
    gi_wp2
    refine ⟨by simp, .inl ⟨_, _, rfl, run_takeDeferred hK, ?_⟩⟩
    refine ⟨_, results_tmp rfl _ _ _, _, L, rfl, hLm.trans hS, ?_, ?_⟩
    · have h5 := hP.turned (grownBy_putObj' W D (.deferred none)) (fun r e => by cases e; exact ⟨_, hK, rfl⟩)
      exact ⟨h5.1.mono hs1, fun p hp => (h5.2.1 p hp).mono hs1, h5.2.2⟩
    · exact (hb1.trans (hB.mono hs1)).trans (belowK_b (w := w) (Nat.le_refl _) W D _ _ (by omega) hK rfl rfl)
  case stop =>
    rintro D c pre W _ _ h _
    exact h.elim

theorem implSplit (l : List Pnt) (v : Value) (w : World) (B : Nat) (hv : Lies w B 2 v (ptR l)) (hn : l.length ≤ 1048576) (hB : B ≤ w.heap.size) :
    Calls Try.prog 9 #[v] w fun e w' => ∃ r L, e = .returned r ∧ L.map Prod.fst = splX l ∧ PrtO w' w.heap.size r L ∧ Below w.heap.size w w' := by
  have cP := implPointsOk l v w B hv hn hB
  by_cases hok : POk l
  · rw [decide_eq_true hok] at cP
    rw [show splX l = spl l from if_pos hok]
    obtain ⟨A, c, rfl, hz, hs, hh⟩ := hv
    rw [ptR_length] at *
    rcases hh with h0 | ⟨g, off, rfl, hg, hc⟩
    · have hl : l = [] := List.eq_nil_of_length_eq_zero h0
      subst hl
      exact callsIn_wide.1 (implSplit_in [] A c 0 0 0 w w rfl hok B hB ⟨_, c, rfl, ⟨fun e => (by cases e), Nat.zero_le _⟩, fun r hr => (by cases hr), .inl rfl⟩ cP (fun W Bx _ _ hX n₀ _ _ => runs0_stops Bx n₀ 0 0 c A W hX))
    · have hz2 : Lies w B 2 (.slice (some ⟨g, off, none⟩) l.length c) (ptR l) := ⟨_, c, by rw [ptR_length], ⟨fun e => (by cases e), by rw [ptR_length]; exact hz.2⟩, hs, .inr ⟨g, off, rfl, hg, hc⟩⟩
      obtain ⟨A', c', e', hlk⟩ := pt_look hz2
      cases e'
      refine callsIn_wide.1 (implSplit_in l _ c l.length g off w w rfl hok B hB hz2 cP (fun W Bx hW hsW hX n₀ hn1 hn2 => runs_stops Bx n₀ g off c l.length l rfl hok.1 hz.2 (by omega) W hn2 hX (fun j hj => ?_)))
      obtain ⟨g', off', e2, _, hc0, _⟩ := hlk j hj
      cases e2
      exact (hW.cell (p := ⟨g, off + j * 2, none⟩) (by show g < w.heap.size; omega)).trans hc0
  · rw [decide_eq_false hok] at cP
    rw [show splX l = [] from if_neg hok]
    obtain ⟨A, c, rfl, _⟩ := pt_look hv
    clear hv hok
    go_enter Try.func9, Try.ntmps9
    go_wp2_with fail
    refine cP.mono ?_
    rintro _ w1 ⟨rfl, hb⟩
    go_wp2_with fail
    go_ret
    exact ⟨_, [], rfl, rfl, ⟨Owns.nil _ _ _ _, fun p hp => (by cases hp), List.Pairwise.nil⟩, hb⟩
end Go.Proofs.Ytfkgaoegdnkfcaa
