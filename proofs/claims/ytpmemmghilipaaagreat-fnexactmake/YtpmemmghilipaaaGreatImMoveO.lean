/-
  The contract of (impl.openDisk).addMove, the disk left open.
-/
import Derived.Test.YtpmemmghilipaaaGreatRows
import Derived.Test.YtpmemmghilipaaaGreatImChange
import Derived.Test.YtpmemmghilipaaaGreatImFind
namespace Go.Proofs.YtpmemmghilipaaaGreat
open Go.ChangeShapes Go.WideShapes Go.ChangeAt Go.RowKit Go.PlainAid
set_option linter.unusedVariables false

theorem IT.notOwn {w : World} {b base : Nat} {l : List (Int × Nat)} {e : TypeId} {sz : Nat} {v : Value} {R : List (List Value)} (h : IT w b l) (k : Owns w base e sz v R) : v.ownBlock ≠ some b := by
  intro hg
  obtain ⟨c, fz, e1⟩ := Lib.ownsRow_kind k.2 b hg
  obtain ⟨n, es, clock, hb, _⟩ := h
  rw [e1] at hb
  cases hb
theorem NT.notOwn {w : World} {b base : Nat} {l : List Lnk} {e : TypeId} {sz : Nat} {v : Value} {R : List (List Value)} (h : NT w b l) (k : Owns w base e sz v R) : v.ownBlock ≠ some b := by
  intro hg
  obtain ⟨c, fz, e1⟩ := Lib.ownsRow_kind k.2 b hg
  obtain ⟨n, es, clock, hb, _⟩ := h
  rw [e1] at hb
  cases hb
theorem tell_on {w w' : World} {p : Nat} {d : Dsk} (h : Tellable w p d) (hb : Below w.heap.size w w') : Tellable w' p d := by
  obtain ⟨bi, bd, gs, u, vw, h1, h2, h3, h4, h5⟩ := h.ex
  exact ⟨⟨bi, bd, gs, u, vw, h1.on hb h1.lt, h2.on hb h2.lt, h3.on hb h3.lt, h4.on hb h4.lt, (h5.on hb).mono hb.size⟩, h.rise, h.sorted, h.ok, h.n1, h.n2, h.n3, h.nx, h.mx⟩
/-- A disk behind one move more. -/
def movedD (d : Dsk) (m : Mov) : Dsk × Int := if 20 ≤ d.movs.length then (d, 4) else (⟨d.room, d.next, d.nods, d.dir, d.movs ++ [m]⟩, 0)
theorem movedD_full {d : Dsk} {m : Mov} (h : 20 ≤ d.movs.length) : movedD d m = (d, 4) := by unfold movedD; rw [if_pos h]
theorem movedD_room {d : Dsk} {m : Mov} (h : ¬ 20 ≤ d.movs.length) : movedD d m = (⟨d.room, d.next, d.nods, d.dir, d.movs ++ [m]⟩, 0) := by unfold movedD; rw [if_neg h]
theorem slice_len {w : World} {base : Nat} {A : Option Addr} {m c : Nat} {l : List Mov} (h : Owns w base 49 4 (.slice A m c) (movR l)) : m = l.length := by
  have := (h.lies.room).1
  rw [movR_length] at this
  exact this

set_option maxRecDepth 20000 in
set_option maxHeartbeats 4000000 in
theorem addMoveO (w : World) (base p : Nat) (d : Dsk) (bi bd bw : Nat) (gs : List Nat) (u : Value) (mk : Int) (mn mt : ByteArray) (mi : Int) (h : OpenD w base p d bi bd bw gs u) (hd : Whole d) (hw : wtD d ≤ 1048576) (hs1 : mn.size ≤ 1000) (hs2 : mt.size ≤ 1000) (hB : base ≤ w.heap.size) :
    Calls Tryz.prog 50 #[.pointer (some ⟨p, 0, none⟩), .agg #[.int .i64 mk, .string mn, .string mt, .int .i64 mi]] w fun e w' => e = .returned (.int .i64 (movedD d ⟨mk, mn, mt, mi⟩).2) ∧ ((20 ≤ d.movs.length ∧ Tellable w' p d) ∨ (¬ 20 ≤ d.movs.length ∧ ∃ u', Blk w' p #[.int .i64 d.room, .int .i64 d.next, .map (some bi), .map (some bd), u', .map (some bw)] 91 ∧ IT w' bi (prs d.nods gs) ∧ Held w' d.nods gs ∧ NT w' bd d.dir ∧ Owns w' base 49 4 u' (movR (d.movs ++ [⟨mk, mn, mt, mi⟩])))) ∧ Below base w w' := by
  have HT : Hid (Tellable w p d) := h.tell hd hw
  obtain ⟨uA, um, uc, rfl⟩ := h.mv.shape
  obtain rfl := slice_len h.mv
  have HO : Hid (OpenD w base p d bi bd bw gs (.slice uA d.movs.length uc)) := h
  have HB : Hid (base ≤ w.heap.size) := hB
  have HS1 : Hid (mn.size ≤ 1000) := hs1
  have HS2 : Hid (mt.size ≤ 1000) := hs2
  have hR := (sizeOk_iff d).1 hd.size
  have HM : Hid (d.movs.length ≤ 20) := hR.m
  have HL : Hid ((now d).length ≤ 1000) := by
    have h1 := names_len d.dir d.movs
    have := hR.l
    have := hR.m
    unfold Hid now
    omega
  have HNO : Hid (NamesOk (now d)) := (now_linked hd).ok
  have HR : Hid ((20 ≤ d.movs.length → movedD d ⟨mk, mn, mt, mi⟩ = (d, 4)) ∧ (¬ 20 ≤ d.movs.length → movedD d ⟨mk, mn, mt, mi⟩ = (⟨d.room, d.next, d.nods, d.dir, d.movs ++ [⟨mk, mn, mt, mi⟩]⟩, 0))) := ⟨movedD_full, movedD_room⟩
  clear h hd hw hB hs1 hs2 hR
  generalize hUM : d.movs.length = um at *
  have q1 : (um : Int) ≤ 20 := by have := HM.out; omega
  have PY0 : Hid (Blk (w.alloc (.cells #[.int .i64 mk, .string mn, .string mt, .int .i64 mi] 49)) p #[.int .i64 d.room, .int .i64 d.next, .map (some bi), .map (some bd), .slice uA um uc, .map (some bw)] 91) := HO.out.blk.alloc _
  have x4 := PY0.out.cell 4 _ rfl
  by_cases hfull : 20 ≤ um
  · have t1 : decide ((20 : Int) ≤ (um : Int)) = true := decide_eq_true (by omega)
    have HRR := HR.out.1 hfull
    have HFL : Hid (20 ≤ um) := hfull
    clear hfull HR
    go_enter Tryz.func50, Tryz.ntmps50
    go_wp2_with fail
    go_ret
    have hb : Below w.heap.size w (w.alloc (.cells #[.int .i64 mk, .string mn, .string mt, .int .i64 mi] 49)) := (Below.refl _ w).alloc (Nat.le_refl _) _
    exact ⟨by rw [HRR]; rfl, .inl ⟨HFL.out, tell_on HT.out hb⟩, hb.mono HB.out⟩
  · have t1 : decide ((20 : Int) ≤ (um : Int)) = false := decide_eq_false (by omega)
    have HRR : Hid (movedD d ⟨mk, mn, mt, mi⟩ = _) := HR.out.2 hfull
    have HFL : Hid (¬ 20 ≤ um) := hfull
    clear hfull HR
    go_enter Tryz.func50, Tryz.ntmps50
    go_wp2_with fail
    clear x4
    have hbY : Below w.heap.size w (w.alloc (.cells #[.int .i64 mk, .string mn, .string mt, .int .i64 mi] 49)) := (Below.refl _ w).alloc (Nat.le_refl _) _
    have zY := Blk.new w #[.int .i64 mk, .string mn, .string mt, .int .i64 mi] 49
    have szY : (w.alloc (.cells #[.int .i64 mk, .string mn, .string mt, .int .i64 mi] 49)).heap.size = w.heap.size + 1 := by simp
    generalize w.alloc (.cells #[.int .i64 mk, .string mn, .string mt, .int .i64 mi] 49) = Y at *
    have OY : Hid (OpenD Y base p d bi bd bw gs (.slice uA um uc)) := HO.out.on hbY
    have ZY : Hid (Blk Y w.heap.size #[.int .i64 mk, .string mn, .string mt, .int .i64 mi] 49) := zY
    have BY : Hid (Below w.heap.size w Y) := hbY
    have ZNE : Hid (∀ g, (Value.slice uA um uc).ownBlock = some g → g ≠ w.heap.size) := fun g hg => by
      have := (HO.out.mv.lt g hg).2
      omega
    have PZN : Hid (w.heap.size ≠ p ∧ w.heap.size ≠ bw) := by
      have h1 := HO.out.blk.lt
      have h2 := HO.out.nw.lt
      exact ⟨by omega, by omega⟩
    have hszY : Hid (w.heap.size ≤ Y.heap.size) := hbY.size
    clear hbY zY szY
    generalize hpz : w.heap.size = pz at *
    have HB2 : Hid (base ≤ pz) := HB.out
    have S0 : Hid (Y.drew.cell? ⟨p, 4, none⟩ = some (.slice uA um uc) ∧ Y.drew.cell? ⟨pz, 0, none⟩ = some (.int .i64 mk) ∧ Y.drew.cell? ⟨pz, 1, none⟩ = some (.string mn) ∧ Y.drew.cell? ⟨pz, 2, none⟩ = some (.string mt) ∧ Y.drew.cell? ⟨pz, 3, none⟩ = some (.int .i64 mi)) := ⟨OY.out.blk.cell 4 _ rfl, ZY.out.cell 0 _ rfl, ZY.out.cell 1 _ rfl, ZY.out.cell 2 _ rfl, ZY.out.cell 3 _ rfl⟩
    have OYd : Owns Y.drew base 49 4 (.slice uA um uc) (movR d.movs) := OY.out.mv.kept fun _ _ _ => rfl
    have Z5 : base ≤ Y.drew.heap.size := Nat.le_trans HB.out hszY.out
    obtain ⟨nA, nm, nc, w5, r5, hO5, hb5, hk5, _⟩ := run_append_row (P := Tryz.prog) Y.drew 30 30 49 (.agg #[.int .i64 0, .string ⟨#[]⟩, .string ⟨#[]⟩, .int .i64 0]) 4 48 Tryz.underlying30 Tryz.infoMov rfl (by omega) base (.slice uA um uc) (movR d.movs) OYd [.int .i64 mk, .string mn, .string mt, .int .i64 mi] rfl (by intro y hy; simp at hy; rcases hy with rfl | rfl | rfl | rfl <;> rfl) (by rw [movR_length]; have := HM.out; omega) (by omega) Z5
    have hk : ∀ g, g < Y.heap.size → (Value.slice uA um uc).ownBlock ≠ some g → w5.heap[g]? = Y.heap[g]? := hk5
    have P5 : Hid (Blk w5 p #[.int .i64 d.room, .int .i64 d.next, .map (some bi), .map (some bd), .slice uA um uc, .map (some bw)] 91) := by
      unfold Hid Blk
      rw [hk p OY.out.blk.lt (OY.out.mv.notBlk OY.out.blk (by decide))]
      exact OY.out.blk
    have K5 : Hid (Blk w5 pz #[.int .i64 mk, .string mn, .string mt, .int .i64 mi] 49) := by
      unfold Hid Blk
      rw [hk pz ZY.out.lt (fun e => ZNE.out pz e rfl)]
      exact ZY.out
    have I5 : Hid (IT w5 bi (prs d.nods gs)) := OY.out.it.kept (hk bi OY.out.it.lt (OY.out.it.notOwn OY.out.mv))
    have N5 : Hid (NT w5 bd d.dir) := OY.out.nd.kept (hk bd OY.out.nd.lt (OY.out.nd.notOwn OY.out.mv))
    have W5 : Hid (NT w5 bw (now d)) := OY.out.nw.kept (hk bw OY.out.nw.lt (OY.out.nw.notOwn OY.out.mv))
    have H5 : Hid (Held w5 d.nods gs) := OY.out.held.kept fun g hg => hk g (OY.out.held.lt g hg) (by
      obtain ⟨j, hj, rfl⟩ := List.getElem_of_mem hg
      have h1 := OY.out.held.blk j (by rw [← OY.out.held.len]; exact hj)
      rw [List.getD_eq_getElem?_getD, List.getElem?_eq_getElem hj] at h1
      exact OY.out.mv.notBlk h1 (by decide))
    have O5 : Hid (Owns w5 base 49 4 (.slice nA nm nc) (movR d.movs ++ [[.int .i64 mk, .string mn, .string mt, .int .i64 mi]])) := hO5
    have B5 : Hid (Below base Y w5) := (Below.refl base Y).drew.trans hb5
    have y4 := P5.out.cell 4 _ rfl
    have z4 := P5.out.free 4
    clear hO5 hb5 hk5 hk OYd Z5
    refine wp_region_until (fun w' => w'.cell? ⟨p, 4, none⟩ = some (.slice uA um uc) ∧ w'.cell? ⟨pz, 0, none⟩ = some (.int .i64 mk) ∧ w'.cell? ⟨pz, 1, none⟩ = some (.string mn) ∧ w'.cell? ⟨pz, 2, none⟩ = some (.string mt) ∧ w'.cell? ⟨pz, 3, none⟩ = some (.int .i64 mi)) (fun i => i == 7 || i == 10) 11 (by rfl) (by kernel_rfl) ?_
    refine until_pure 0 (v := ?va0) (by rfl) (by kernel_rfl) (by exact fun _ _ _ h => h) (by rfl) ?hya0 ?ra0
    case hya0 =>
      intro w
      go_simp
      try with_reducible rfl
    try simp only [Act.put, List.setIfInBounds_toArray, List.set_cons_zero, List.set_cons_succ]
    refine until_take 1 (v := ?va1) (by rfl) (by kernel_rfl) (by exact fun _ _ _ h => h) (by rfl) ?hya1 S0.out ?ra1
    case hya1 =>
      intro w hSw
      try dsimp only at hSw
      go_simp
      try with_reducible rfl
    try simp only [Act.put, List.setIfInBounds_toArray, List.set_cons_zero, List.set_cons_succ]
    refine until_take 2 (v := ?va2) (by rfl) (by kernel_rfl) (by exact fun _ _ _ h => h) (by rfl) ?hya2 S0.out ?ra2
    case hya2 =>
      intro w hSw
      try dsimp only at hSw
      go_simp
      try with_reducible rfl
    try simp only [Act.put, List.setIfInBounds_toArray, List.set_cons_zero, List.set_cons_succ]
    refine until_take 3 (v := ?va3) (by rfl) (by kernel_rfl) (by exact fun _ _ _ h => h) (by rfl) ?hya3 S0.out ?ra3
    case hya3 =>
      intro w hSw
      try dsimp only at hSw
      go_simp
      try with_reducible rfl
    try simp only [Act.put, List.setIfInBounds_toArray, List.set_cons_zero, List.set_cons_succ]
    refine until_take 4 (v := ?va4) (by rfl) (by kernel_rfl) (by exact fun _ _ _ h => h) (by rfl) ?hya4 S0.out ?ra4
    case hya4 =>
      intro w hSw
      try dsimp only at hSw
      go_simp
      try with_reducible rfl
    try simp only [Act.put, List.setIfInBounds_toArray, List.set_cons_zero, List.set_cons_succ]
    refine until_take 5 (v := ?va5) (by rfl) (by kernel_rfl) (by exact fun _ _ _ h => h) (by rfl) ?hya5 S0.out ?ra5
    case hya5 =>
      intro w hSw
      try dsimp only at hSw
      go_simp
      try with_reducible rfl
    try simp only [Act.put, List.setIfInBounds_toArray, List.set_cons_zero, List.set_cons_succ]
    refine until_one 6 (by rfl) (by kernel_rfl) (fun K hK => ?_)
    go_simp
    refine hK.out _ _ (fun _ _ => ⟨(Blk.alloc (w := Y.drew) OY.out.blk _).cell 4 _ rfl, (Blk.alloc (w := Y.drew) ZY.out _).cell 0 _ rfl, (Blk.alloc (w := Y.drew) ZY.out _).cell 1 _ rfl, (Blk.alloc (w := Y.drew) ZY.out _).cell 2 _ rfl, (Blk.alloc (w := Y.drew) ZY.out _).cell 3 _ rfl⟩) ?_
    clear hK K
    try simp only [Act.put, List.setIfInBounds_toArray, List.set_cons_zero, List.set_cons_succ]
    refine until_one 7 (by rfl) (by kernel_rfl) (fun K hK => ?_)
    refine step_append_run (by rfl) (.tmp 15) (.tmp 17) 30 (by rfl) _ _ _ _ (by rfl) (by rfl) r5 ?_
    refine hK.out _ _ (fun h => by cases h) ?_
    clear hK K
    try simp only [Act.put, List.setIfInBounds_toArray, List.set_cons_zero, List.set_cons_succ]
    refine until_pure 8 (v := ?vb8) (by rfl) (by kernel_rfl) (by exact fun _ _ _ h => h) (by rfl) ?hyb8 ?rb8
    case hyb8 =>
      intro w
      go_simp
      try with_reducible rfl
    try simp only [Act.put, List.setIfInBounds_toArray, List.set_cons_zero, List.set_cons_succ]
    refine until_pure 9 (v := ?vb9) (by rfl) (by kernel_rfl) (by exact fun _ _ _ h => h) (by rfl) ?hyb9 ?rb9
    case hyb9 =>
      intro w
      go_simp
      try with_reducible rfl
    try simp only [Act.put, List.setIfInBounds_toArray, List.set_cons_zero, List.set_cons_succ]
    refine until_one 10 (by rfl) (by kernel_rfl) (fun K hK => ?_)
    go_simp
    refine hK.out _ _ (fun h => by cases h) ?_
    clear hK K
    refine until_done (by kernel_rfl) ?_ _
    go_wp2_with fail
    have P6 : Hid (Blk (w5.setCell ⟨p, 4, none⟩ (.slice nA nm nc)) p #[.int .i64 d.room, .int .i64 d.next, .map (some bi), .map (some bd), .slice nA nm nc, .map (some bw)] 91) := P5.out.set 4 _
    have K6 : Hid (Blk (w5.setCell ⟨p, 4, none⟩ (.slice nA nm nc)) pz #[.int .i64 mk, .string mn, .string mt, .int .i64 mi] 49) := K5.out.other PZN.out.1 _ _
    have hkeep : ∀ g, g ≠ p → (w5.setCell ⟨p, 4, none⟩ (.slice nA nm nc)).heap[g]? = w5.heap[g]? := fun g hg => Below.heap_setCell _ ⟨p, 4, none⟩ _ _ hg
    have I6 : Hid (IT (w5.setCell ⟨p, 4, none⟩ (.slice nA nm nc)) bi (prs d.nods gs)) := I5.out.kept (hkeep bi HO.out.pi.symm)
    have N6 : Hid (NT (w5.setCell ⟨p, 4, none⟩ (.slice nA nm nc)) bd d.dir) := N5.out.kept (hkeep bd HO.out.pd.symm)
    have W6 : Hid (NT (w5.setCell ⟨p, 4, none⟩ (.slice nA nm nc)) bw (now d)) := W5.out.kept (hkeep bw HO.out.pw.symm)
    have H6 : Hid (Held (w5.setCell ⟨p, 4, none⟩ (.slice nA nm nc)) d.nods gs) := H5.out.kept fun g hg => hkeep g (HO.out.gl g hg).2.1
    have O6 : Hid (Owns (w5.setCell ⟨p, 4, none⟩ (.slice nA nm nc)) base 49 4 (.slice nA nm nc) (movR d.movs ++ [[.int .i64 mk, .string mn, .string mt, .int .i64 mi]])) := O5.out.other (O5.out.notBlk P5.out (by decide)) _ _
    have B6 : Hid (Below base Y (w5.setCell ⟨p, 4, none⟩ (.slice nA nm nc))) := B5.out.setCell (p := ⟨p, 4, none⟩) HO.out.lo.1 _
    clear hkeep y4 z4 S0 r5 P5 K5 I5 N5 W5 H5 O5 B5
    generalize w5.setCell ⟨p, 4, none⟩ (.slice nA nm nc) = w6 at *
    have S0 : Hid (w6.drew.cell? ⟨p, 5, none⟩ = some (.map (some bw)) ∧ w6.drew.cell? ⟨pz, 0, none⟩ = some (.int .i64 mk) ∧ w6.drew.cell? ⟨pz, 1, none⟩ = some (.string mn) ∧ w6.drew.cell? ⟨pz, 2, none⟩ = some (.string mt) ∧ w6.drew.cell? ⟨pz, 3, none⟩ = some (.int .i64 mi)) := ⟨P6.out.cell 5 _ rfl, K6.out.cell 0 _ rfl, K6.out.cell 1 _ rfl, K6.out.cell 2 _ rfl, K6.out.cell 3 _ rfl⟩
    have cA := applyI (now d) bw ⟨mk, mn, mt, mi⟩ w6.drew (W6.out.kept rfl) HL.out HNO.out (by have := HS1.out; unfold maxLen; simp only; omega) (by have := HS2.out; unfold maxLen; simp only; omega)
    unfold movV at cA
    simp only at cA
    generalize (apply (now d) ⟨mk, mn, mt, mi⟩).isSome = ok at *
    refine wp_region_until (fun w' => w'.cell? ⟨p, 5, none⟩ = some (.map (some bw)) ∧ w'.cell? ⟨pz, 0, none⟩ = some (.int .i64 mk) ∧ w'.cell? ⟨pz, 1, none⟩ = some (.string mn) ∧ w'.cell? ⟨pz, 2, none⟩ = some (.string mt) ∧ w'.cell? ⟨pz, 3, none⟩ = some (.int .i64 mi)) (fun i => i == 5) 6 (by rfl) (by kernel_rfl) ?_
    refine until_take 0 (v := ?vd0) (by rfl) (by kernel_rfl) (by exact fun _ _ _ h => h) (by rfl) ?hyd0 S0.out ?rd0
    case hyd0 =>
      intro w hSw
      try dsimp only at hSw
      go_simp
      try with_reducible rfl
    try simp only [Act.put, List.setIfInBounds_toArray, List.set_cons_zero, List.set_cons_succ]
    refine until_take 1 (v := ?vd1) (by rfl) (by kernel_rfl) (by exact fun _ _ _ h => h) (by rfl) ?hyd1 S0.out ?rd1
    case hyd1 =>
      intro w hSw
      try dsimp only at hSw
      go_simp
      try with_reducible rfl
    try simp only [Act.put, List.setIfInBounds_toArray, List.set_cons_zero, List.set_cons_succ]
    refine until_take 2 (v := ?vd2) (by rfl) (by kernel_rfl) (by exact fun _ _ _ h => h) (by rfl) ?hyd2 S0.out ?rd2
    case hyd2 =>
      intro w hSw
      try dsimp only at hSw
      go_simp
      try with_reducible rfl
    try simp only [Act.put, List.setIfInBounds_toArray, List.set_cons_zero, List.set_cons_succ]
    refine until_take 3 (v := ?vd3) (by rfl) (by kernel_rfl) (by exact fun _ _ _ h => h) (by rfl) ?hyd3 S0.out ?rd3
    case hyd3 =>
      intro w hSw
      try dsimp only at hSw
      go_simp
      try with_reducible rfl
    try simp only [Act.put, List.setIfInBounds_toArray, List.set_cons_zero, List.set_cons_succ]
    refine until_take 4 (v := ?vd4) (by rfl) (by kernel_rfl) (by exact fun _ _ _ h => h) (by rfl) ?hyd4 S0.out ?rd4
    case hyd4 =>
      intro w hSw
      try dsimp only at hSw
      go_simp
      try with_reducible rfl
    try simp only [Act.put, List.setIfInBounds_toArray, List.set_cons_zero, List.set_cons_succ]
    refine until_one 5 (by rfl) (by kernel_rfl) (fun K hK => ?_)
    go_simp
    refine cA.mono ?_
    rintro e w7 ⟨rfl, _, hB7⟩
    have P7 : Hid (Blk w7 p #[.int .i64 d.room, .int .i64 d.next, .map (some bi), .map (some bd), .slice nA nm nc, .map (some bw)] 91) := hB7.blk (w := w6.drew) P6.out HO.out.pw
    have I7 : Hid (IT w7 bi (prs d.nods gs)) := IT.but (w := w6.drew) (I6.out.kept rfl) hB7 HO.out.iw
    have N7 : Hid (NT w7 bd d.dir) := NT.kept (w := w6.drew) (N6.out.kept rfl) (hB7.block bd N6.out.lt HO.out.dw)
    have H7 : Hid (Held w7 d.nods gs) := Held.but (w := w6.drew) (H6.out.kept fun _ _ => rfl) hB7 (fun g hg => (HO.out.gl g hg).2.2.2.2)
    have O7 : Hid (Owns w7 base 49 4 (.slice nA nm nc) (movR d.movs ++ [[.int .i64 mk, .string mn, .string mt, .int .i64 mi]])) := O6.out.kept fun g hg ho => hB7.block g hg (fun e => by subst e; exact W6.out.notOwn O6.out ho)
    have B7 : Hid (Below base Y w7) := (B6.out.drew).trans (hB7.below base (Nat.le_trans HB.out (Nat.le_trans hszY.out B6.out.size)) fun i hi e => by have := HO.out.lo.2.2.2; omega)
    clear cA hB7 S0 P6 K6 I6 N6 W6 H6 O6 B6
    go_wp2_with fail
    refine hK.out _ _ (fun h => by cases h) ?_
    clear hK K
    refine until_done (by kernel_rfl) ?_ _
    go_wp2_with fail
    go_ret
    have e1 : movR (d.movs ++ [⟨mk, mn, mt, mi⟩]) = movR d.movs ++ [[.int .i64 mk, .string mn, .string mt, .int .i64 mi]] := by unfold movR; rw [List.map_append]; rfl
    refine ⟨by rw [HRR.out]; rfl, .inr ⟨HFL.out, _, P7.out, I7.out, H7.out, N7.out, ?_⟩, ?_⟩
    · rw [e1]
      exact O7.out
    · exact (BY.out.mono HB2.out).trans B7.out
end Go.Proofs.YtpmemmghilipaaaGreat
