/-
  The contracts of (impl.openDisk).addMove and of spec.l4Moved.
-/
import Derived.Test.YtljpakpokjpemaaGreatRows
import Derived.Test.YtljpakpokjpemaaGreatImSyncA
import Derived.Test.YtljpakpokjpemaaGreatDkOkD
import Derived.Test.YtljpakpokjpemaaGreatDkCopy
import Derived.Deep.Cut
namespace Go.Proofs.YtljpakpokjpemaaGreat
open Go.ChangeShapes Go.WideShapes Go.ChangeAt Go.RowKit Go.PlainAid
set_option linter.unusedVariables false

theorem IT.notOwn {w : World} {b base : Nat} {l : List (Int × Nat)} {e : TypeId} {sz : Nat} {v : Value} {R : List (List Value)} (h : IT w b l) (k : Owns w base e sz v R) : v.ownBlock ≠ some b := by
  intro hg
  obtain ⟨c, fz, e1⟩ := Lib.ownsRow_kind k.2 b hg
  obtain ⟨n, es, clock, hb, _⟩ := h
  rw [e1] at hb
  cases hb
theorem NT.notOwn {w : World} {b base : Nat} {l : List Lnk} {e : TypeId} {sz : Nat} {v : Value} {R : List (List Value)} (h : NT w b l) (k : Owns w base e sz v R) : v.ownBlock ≠ some b := by
  intro hg
  obtain ⟨c, fz, e1⟩ := Lib.ownsRow_kind k.2 b hg
  obtain ⟨n, es, clock, hb, _⟩ := h
  rw [e1] at hb
  cases hb
theorem tell_on {w w' : World} {p : Nat} {d : Dsk} (h : Tellable w p d) (hb : Below w.heap.size w w') : Tellable w' p d := by
  obtain ⟨bi, bd, gs, u, vw, h1, h2, h3, h4, h5⟩ := h.ex
  exact ⟨⟨bi, bd, gs, u, vw, h1.on hb h1.lt, h2.on hb h2.lt, h3.on hb h3.lt, h4.on hb h4.lt, (h5.on hb).mono hb.size⟩, h.rise, h.sorted, h.ok, h.n1, h.n2, h.n3, h.nx, h.mx⟩
/-- A disk behind one move more. -/
def movedD (d : Dsk) (m : Mov) : Dsk × Int := if 20 ≤ d.movs.length then (d, 4) else (⟨d.room, d.next, d.nods, d.dir, d.movs ++ [m]⟩, 0)
theorem movedD_full {d : Dsk} {m : Mov} (h : 20 ≤ d.movs.length) : movedD d m = (d, 4) := by unfold movedD; rw [if_pos h]
theorem movedD_room {d : Dsk} {m : Mov} (h : ¬ 20 ≤ d.movs.length) : movedD d m = (⟨d.room, d.next, d.nods, d.dir, d.movs ++ [m]⟩, 0) := by unfold movedD; rw [if_neg h]
theorem slice_len {w : World} {base : Nat} {A : Option Addr} {m c : Nat} {l : List Mov} (h : Owns w base 59 4 (.slice A m c) (movR l)) : m = l.length := by
  have := (h.lies.room).1
  rw [movR_length] at this
  exact this

set_option maxRecDepth 20000 in
set_option maxHeartbeats 4000000 in
theorem addMoveV (w : World) (base p : Nat) (d : Dsk) (bi bd bw : Nat) (gs : List Nat) (u : Value) (mk : Int) (mn mt : ByteArray) (mi : Int) (h : OpenD w base p d bi bd bw gs u) (hd : Whole d) (hw : wtD d ≤ 1048576) (hs1 : mn.size ≤ 1000) (hs2 : mt.size ≤ 1000) (hB : base ≤ w.heap.size) :
    Calls Tryz.prog 86 #[.pointer (some ⟨p, 0, none⟩), .agg #[.int .i64 mk, .string mn, .string mt, .int .i64 mi]] w fun e w' => e = .returned (.int .i64 (movedD d ⟨mk, mn, mt, mi⟩).2) ∧ Tellable w' p (movedD d ⟨mk, mn, mt, mi⟩).1 ∧ Below base w w' := by
  have HT : Hid (Tellable w p d) := h.tell hd hw
  obtain ⟨uA, um, uc, rfl⟩ := h.mv.shape
  obtain rfl := slice_len h.mv
  have HO : Hid (OpenD w base p d bi bd bw gs (.slice uA d.movs.length uc)) := h
  have HB : Hid (base ≤ w.heap.size) := hB
  have HS1 : Hid (mn.size ≤ 1000) := hs1
  have HS2 : Hid (mt.size ≤ 1000) := hs2
  have hR := (sizeOk_iff d).1 hd.size
  have HM : Hid (d.movs.length ≤ 20) := hR.m
  have HL : Hid ((now d).length ≤ 1000) := by
    have h1 := names_len d.dir d.movs
    have := hR.l
    have := hR.m
    unfold Hid now
    omega
  have HNO : Hid (NamesOk (now d)) := (now_linked hd).ok
  have HR : Hid ((20 ≤ d.movs.length → movedD d ⟨mk, mn, mt, mi⟩ = (d, 4)) ∧ (¬ 20 ≤ d.movs.length → movedD d ⟨mk, mn, mt, mi⟩ = (⟨d.room, d.next, d.nods, d.dir, d.movs ++ [⟨mk, mn, mt, mi⟩]⟩, 0))) := ⟨movedD_full, movedD_room⟩
  clear h hd hw hB hs1 hs2 hR
  generalize hUM : d.movs.length = um at *
  have q1 : (um : Int) ≤ 20 := by have := HM.out; omega
  have PY0 : Hid (Blk (w.alloc (.cells #[.int .i64 mk, .string mn, .string mt, .int .i64 mi] 59)) p #[.int .i64 d.room, .int .i64 d.next, .map (some bi), .map (some bd), .slice uA um uc, .map (some bw)] 83) := HO.out.blk.alloc _
  have x4 := PY0.out.cell 4 _ rfl
  by_cases hfull : 20 ≤ um
  · have t1 : decide ((20 : Int) ≤ (um : Int)) = true := decide_eq_true (by omega)
    have HRR := HR.out.1 hfull
    clear hfull HR
    go_enter Tryz.func86, Tryz.ntmps86
    go_wp2_with fail
    go_ret
    have hb : Below w.heap.size w (w.alloc (.cells #[.int .i64 mk, .string mn, .string mt, .int .i64 mi] 59)) := (Below.refl _ w).alloc (Nat.le_refl _) _
    exact ⟨by rw [HRR]; rfl, by rw [HRR]; exact tell_on HT.out hb, hb.mono HB.out⟩
  · have t1 : decide ((20 : Int) ≤ (um : Int)) = false := decide_eq_false (by omega)
    have HRR : Hid (movedD d ⟨mk, mn, mt, mi⟩ = _) := HR.out.2 hfull
    clear hfull HR
    go_enter Tryz.func86, Tryz.ntmps86
    go_wp2_with fail
    clear x4
    have hbY : Below w.heap.size w (w.alloc (.cells #[.int .i64 mk, .string mn, .string mt, .int .i64 mi] 59)) := (Below.refl _ w).alloc (Nat.le_refl _) _
    have zY := Blk.new w #[.int .i64 mk, .string mn, .string mt, .int .i64 mi] 59
    have szY : (w.alloc (.cells #[.int .i64 mk, .string mn, .string mt, .int .i64 mi] 59)).heap.size = w.heap.size + 1 := by simp
    generalize w.alloc (.cells #[.int .i64 mk, .string mn, .string mt, .int .i64 mi] 59) = Y at *
    have OY : Hid (OpenD Y base p d bi bd bw gs (.slice uA um uc)) := HO.out.on hbY
    have ZY : Hid (Blk Y w.heap.size #[.int .i64 mk, .string mn, .string mt, .int .i64 mi] 59) := zY
    have BY : Hid (Below w.heap.size w Y) := hbY
    have ZNE : Hid (∀ g, (Value.slice uA um uc).ownBlock = some g → g ≠ w.heap.size) := fun g hg => by
      have := (HO.out.mv.lt g hg).2
      omega
    have PZN : Hid (w.heap.size ≠ p ∧ w.heap.size ≠ bw) := by
      have h1 := HO.out.blk.lt
      have h2 := HO.out.nw.lt
      exact ⟨by omega, by omega⟩
    have hszY : Hid (w.heap.size ≤ Y.heap.size) := hbY.size
    clear hbY zY szY
    generalize hpz : w.heap.size = pz at *
    have HB2 : Hid (base ≤ pz) := HB.out
    have S0 : Hid (Y.drew.cell? ⟨p, 4, none⟩ = some (.slice uA um uc) ∧ Y.drew.cell? ⟨pz, 0, none⟩ = some (.int .i64 mk) ∧ Y.drew.cell? ⟨pz, 1, none⟩ = some (.string mn) ∧ Y.drew.cell? ⟨pz, 2, none⟩ = some (.string mt) ∧ Y.drew.cell? ⟨pz, 3, none⟩ = some (.int .i64 mi)) := ⟨OY.out.blk.cell 4 _ rfl, ZY.out.cell 0 _ rfl, ZY.out.cell 1 _ rfl, ZY.out.cell 2 _ rfl, ZY.out.cell 3 _ rfl⟩
    have OYd : Owns Y.drew base 59 4 (.slice uA um uc) (movR d.movs) := OY.out.mv.kept fun _ _ _ => rfl
    have Z5 : base ≤ Y.drew.heap.size := Nat.le_trans HB.out hszY.out
    obtain ⟨nA, nm, nc, w5, r5, hO5, hb5, hk5, _⟩ := run_append_row (P := Tryz.prog) Y.drew 30 30 59 (.agg #[.int .i64 0, .string ⟨#[]⟩, .string ⟨#[]⟩, .int .i64 0]) 4 48 Tryz.underlying30 Tryz.infoMov rfl (by omega) base (.slice uA um uc) (movR d.movs) OYd [.int .i64 mk, .string mn, .string mt, .int .i64 mi] rfl (by intro y hy; simp at hy; rcases hy with rfl | rfl | rfl | rfl <;> rfl) (by rw [movR_length]; have := HM.out; omega) (by omega) Z5
    have hk : ∀ g, g < Y.heap.size → (Value.slice uA um uc).ownBlock ≠ some g → w5.heap[g]? = Y.heap[g]? := hk5
    have P5 : Hid (Blk w5 p #[.int .i64 d.room, .int .i64 d.next, .map (some bi), .map (some bd), .slice uA um uc, .map (some bw)] 83) := by
      unfold Hid Blk
      rw [hk p OY.out.blk.lt (OY.out.mv.notBlk OY.out.blk (by decide))]
      exact OY.out.blk
    have K5 : Hid (Blk w5 pz #[.int .i64 mk, .string mn, .string mt, .int .i64 mi] 59) := by
      unfold Hid Blk
      rw [hk pz ZY.out.lt (fun e => ZNE.out pz e rfl)]
      exact ZY.out
    have I5 : Hid (IT w5 bi (prs d.nods gs)) := OY.out.it.kept (hk bi OY.out.it.lt (OY.out.it.notOwn OY.out.mv))
    have N5 : Hid (NT w5 bd d.dir) := OY.out.nd.kept (hk bd OY.out.nd.lt (OY.out.nd.notOwn OY.out.mv))
    have W5 : Hid (NT w5 bw (now d)) := OY.out.nw.kept (hk bw OY.out.nw.lt (OY.out.nw.notOwn OY.out.mv))
    have H5 : Hid (Held w5 d.nods gs) := OY.out.held.kept fun g hg => hk g (OY.out.held.lt g hg) (by
      obtain ⟨j, hj, rfl⟩ := List.getElem_of_mem hg
      have h1 := OY.out.held.blk j (by rw [← OY.out.held.len]; exact hj)
      rw [List.getD_eq_getElem?_getD, List.getElem?_eq_getElem hj] at h1
      exact OY.out.mv.notBlk h1 (by decide))
    have O5 : Hid (Owns w5 base 59 4 (.slice nA nm nc) (movR d.movs ++ [[.int .i64 mk, .string mn, .string mt, .int .i64 mi]])) := hO5
    have B5 : Hid (Below base Y w5) := (Below.refl base Y).drew.trans hb5
    have y4 := P5.out.cell 4 _ rfl
    have z4 := P5.out.free 4
    clear hO5 hb5 hk5 hk OYd Z5
    refine wp_region_until (fun w' => w'.cell? ⟨p, 4, none⟩ = some (.slice uA um uc) ∧ w'.cell? ⟨pz, 0, none⟩ = some (.int .i64 mk) ∧ w'.cell? ⟨pz, 1, none⟩ = some (.string mn) ∧ w'.cell? ⟨pz, 2, none⟩ = some (.string mt) ∧ w'.cell? ⟨pz, 3, none⟩ = some (.int .i64 mi)) (fun i => i == 7 || i == 10) 11 (by rfl) (by kernel_rfl) ?_
    refine until_pure 0 (v := ?va0) (by rfl) (by kernel_rfl) (by exact fun _ _ _ h => h) (by rfl) ?hya0 ?ra0
    case hya0 =>
      intro w
      go_simp
      try with_reducible rfl
    try simp only [Act.put, List.setIfInBounds_toArray, List.set_cons_zero, List.set_cons_succ]
    refine until_take 1 (v := ?va1) (by rfl) (by kernel_rfl) (by exact fun _ _ _ h => h) (by rfl) ?hya1 S0.out ?ra1
    case hya1 =>
      intro w hSw
      try dsimp only at hSw
      go_simp
      try with_reducible rfl
    try simp only [Act.put, List.setIfInBounds_toArray, List.set_cons_zero, List.set_cons_succ]
    refine until_take 2 (v := ?va2) (by rfl) (by kernel_rfl) (by exact fun _ _ _ h => h) (by rfl) ?hya2 S0.out ?ra2
    case hya2 =>
      intro w hSw
      try dsimp only at hSw
      go_simp
      try with_reducible rfl
    try simp only [Act.put, List.setIfInBounds_toArray, List.set_cons_zero, List.set_cons_succ]
    refine until_take 3 (v := ?va3) (by rfl) (by kernel_rfl) (by exact fun _ _ _ h => h) (by rfl) ?hya3 S0.out ?ra3
    case hya3 =>
      intro w hSw
      try dsimp only at hSw
      go_simp
      try with_reducible rfl
    try simp only [Act.put, List.setIfInBounds_toArray, List.set_cons_zero, List.set_cons_succ]
    refine until_take 4 (v := ?va4) (by rfl) (by kernel_rfl) (by exact fun _ _ _ h => h) (by rfl) ?hya4 S0.out ?ra4
    case hya4 =>
      intro w hSw
      try dsimp only at hSw
      go_simp
      try with_reducible rfl
    try simp only [Act.put, List.setIfInBounds_toArray, List.set_cons_zero, List.set_cons_succ]
    refine until_take 5 (v := ?va5) (by rfl) (by kernel_rfl) (by exact fun _ _ _ h => h) (by rfl) ?hya5 S0.out ?ra5
    case hya5 =>
      intro w hSw
      try dsimp only at hSw
      go_simp
      try with_reducible rfl
    try simp only [Act.put, List.setIfInBounds_toArray, List.set_cons_zero, List.set_cons_succ]
    refine until_one 6 (by rfl) (by kernel_rfl) (fun K hK => ?_)
    go_simp
    refine hK.out _ _ (fun _ _ => ⟨(Blk.alloc (w := Y.drew) OY.out.blk _).cell 4 _ rfl, (Blk.alloc (w := Y.drew) ZY.out _).cell 0 _ rfl, (Blk.alloc (w := Y.drew) ZY.out _).cell 1 _ rfl, (Blk.alloc (w := Y.drew) ZY.out _).cell 2 _ rfl, (Blk.alloc (w := Y.drew) ZY.out _).cell 3 _ rfl⟩) ?_
    clear hK K
    try simp only [Act.put, List.setIfInBounds_toArray, List.set_cons_zero, List.set_cons_succ]
    refine until_one 7 (by rfl) (by kernel_rfl) (fun K hK => ?_)
    refine step_append_run (by rfl) (.tmp 15) (.tmp 17) 30 (by rfl) _ _ _ _ (by rfl) (by rfl) r5 ?_
    refine hK.out _ _ (fun h => by cases h) ?_
    clear hK K
    try simp only [Act.put, List.setIfInBounds_toArray, List.set_cons_zero, List.set_cons_succ]
    refine until_pure 8 (v := ?vb8) (by rfl) (by kernel_rfl) (by exact fun _ _ _ h => h) (by rfl) ?hyb8 ?rb8
    case hyb8 =>
      intro w
      go_simp
      try with_reducible rfl
    try simp only [Act.put, List.setIfInBounds_toArray, List.set_cons_zero, List.set_cons_succ]
    refine until_pure 9 (v := ?vb9) (by rfl) (by kernel_rfl) (by exact fun _ _ _ h => h) (by rfl) ?hyb9 ?rb9
    case hyb9 =>
      intro w
      go_simp
      try with_reducible rfl
    try simp only [Act.put, List.setIfInBounds_toArray, List.set_cons_zero, List.set_cons_succ]
    refine until_one 10 (by rfl) (by kernel_rfl) (fun K hK => ?_)
    go_simp
    refine hK.out _ _ (fun h => by cases h) ?_
    clear hK K
    refine until_done (by kernel_rfl) ?_ _
    go_wp2_with fail
    have P6 : Hid (Blk (w5.setCell ⟨p, 4, none⟩ (.slice nA nm nc)) p #[.int .i64 d.room, .int .i64 d.next, .map (some bi), .map (some bd), .slice nA nm nc, .map (some bw)] 83) := P5.out.set 4 _
    have K6 : Hid (Blk (w5.setCell ⟨p, 4, none⟩ (.slice nA nm nc)) pz #[.int .i64 mk, .string mn, .string mt, .int .i64 mi] 59) := K5.out.other PZN.out.1 _ _
    have hkeep : ∀ g, g ≠ p → (w5.setCell ⟨p, 4, none⟩ (.slice nA nm nc)).heap[g]? = w5.heap[g]? := fun g hg => Below.heap_setCell _ ⟨p, 4, none⟩ _ _ hg
    have I6 : Hid (IT (w5.setCell ⟨p, 4, none⟩ (.slice nA nm nc)) bi (prs d.nods gs)) := I5.out.kept (hkeep bi HO.out.pi.symm)
    have N6 : Hid (NT (w5.setCell ⟨p, 4, none⟩ (.slice nA nm nc)) bd d.dir) := N5.out.kept (hkeep bd HO.out.pd.symm)
    have W6 : Hid (NT (w5.setCell ⟨p, 4, none⟩ (.slice nA nm nc)) bw (now d)) := W5.out.kept (hkeep bw HO.out.pw.symm)
    have H6 : Hid (Held (w5.setCell ⟨p, 4, none⟩ (.slice nA nm nc)) d.nods gs) := H5.out.kept fun g hg => hkeep g (HO.out.gl g hg).2.1
    have O6 : Hid (Owns (w5.setCell ⟨p, 4, none⟩ (.slice nA nm nc)) base 59 4 (.slice nA nm nc) (movR d.movs ++ [[.int .i64 mk, .string mn, .string mt, .int .i64 mi]])) := O5.out.other (O5.out.notBlk P5.out (by decide)) _ _
    have B6 : Hid (Below base Y (w5.setCell ⟨p, 4, none⟩ (.slice nA nm nc))) := B5.out.setCell (p := ⟨p, 4, none⟩) HO.out.lo.1 _
    clear hkeep y4 z4 S0 r5 P5 K5 I5 N5 W5 H5 O5 B5
    generalize w5.setCell ⟨p, 4, none⟩ (.slice nA nm nc) = w6 at *
    have S0 : Hid (w6.drew.cell? ⟨p, 5, none⟩ = some (.map (some bw)) ∧ w6.drew.cell? ⟨pz, 0, none⟩ = some (.int .i64 mk) ∧ w6.drew.cell? ⟨pz, 1, none⟩ = some (.string mn) ∧ w6.drew.cell? ⟨pz, 2, none⟩ = some (.string mt) ∧ w6.drew.cell? ⟨pz, 3, none⟩ = some (.int .i64 mi)) := ⟨P6.out.cell 5 _ rfl, K6.out.cell 0 _ rfl, K6.out.cell 1 _ rfl, K6.out.cell 2 _ rfl, K6.out.cell 3 _ rfl⟩
    have cA := applyI (now d) bw ⟨mk, mn, mt, mi⟩ w6.drew (W6.out.kept rfl) HL.out HNO.out (by have := HS1.out; unfold maxLen; simp only; omega) (by have := HS2.out; unfold maxLen; simp only; omega)
    unfold movV at cA
    simp only at cA
    generalize (apply (now d) ⟨mk, mn, mt, mi⟩).isSome = ok at *
    refine wp_region_until (fun w' => w'.cell? ⟨p, 5, none⟩ = some (.map (some bw)) ∧ w'.cell? ⟨pz, 0, none⟩ = some (.int .i64 mk) ∧ w'.cell? ⟨pz, 1, none⟩ = some (.string mn) ∧ w'.cell? ⟨pz, 2, none⟩ = some (.string mt) ∧ w'.cell? ⟨pz, 3, none⟩ = some (.int .i64 mi)) (fun i => i == 5) 6 (by rfl) (by kernel_rfl) ?_
    refine until_take 0 (v := ?vd0) (by rfl) (by kernel_rfl) (by exact fun _ _ _ h => h) (by rfl) ?hyd0 S0.out ?rd0
    case hyd0 =>
      intro w hSw
      try dsimp only at hSw
      go_simp
      try with_reducible rfl
    try simp only [Act.put, List.setIfInBounds_toArray, List.set_cons_zero, List.set_cons_succ]
    refine until_take 1 (v := ?vd1) (by rfl) (by kernel_rfl) (by exact fun _ _ _ h => h) (by rfl) ?hyd1 S0.out ?rd1
    case hyd1 =>
      intro w hSw
      try dsimp only at hSw
      go_simp
      try with_reducible rfl
    try simp only [Act.put, List.setIfInBounds_toArray, List.set_cons_zero, List.set_cons_succ]
    refine until_take 2 (v := ?vd2) (by rfl) (by kernel_rfl) (by exact fun _ _ _ h => h) (by rfl) ?hyd2 S0.out ?rd2
    case hyd2 =>
      intro w hSw
      try dsimp only at hSw
      go_simp
      try with_reducible rfl
    try simp only [Act.put, List.setIfInBounds_toArray, List.set_cons_zero, List.set_cons_succ]
    refine until_take 3 (v := ?vd3) (by rfl) (by kernel_rfl) (by exact fun _ _ _ h => h) (by rfl) ?hyd3 S0.out ?rd3
    case hyd3 =>
      intro w hSw
      try dsimp only at hSw
      go_simp
      try with_reducible rfl
    try simp only [Act.put, List.setIfInBounds_toArray, List.set_cons_zero, List.set_cons_succ]
    refine until_take 4 (v := ?vd4) (by rfl) (by kernel_rfl) (by exact fun _ _ _ h => h) (by rfl) ?hyd4 S0.out ?rd4
    case hyd4 =>
      intro w hSw
      try dsimp only at hSw
      go_simp
      try with_reducible rfl
    try simp only [Act.put, List.setIfInBounds_toArray, List.set_cons_zero, List.set_cons_succ]
    refine until_one 5 (by rfl) (by kernel_rfl) (fun K hK => ?_)
    go_simp
    refine cA.mono ?_
    rintro e w7 ⟨rfl, _, hB7⟩
    have P7 : Hid (Blk w7 p #[.int .i64 d.room, .int .i64 d.next, .map (some bi), .map (some bd), .slice nA nm nc, .map (some bw)] 83) := hB7.blk (w := w6.drew) P6.out HO.out.pw
    have I7 : Hid (IT w7 bi (prs d.nods gs)) := IT.but (w := w6.drew) (I6.out.kept rfl) hB7 HO.out.iw
    have N7 : Hid (NT w7 bd d.dir) := NT.kept (w := w6.drew) (N6.out.kept rfl) (hB7.block bd N6.out.lt HO.out.dw)
    have H7 : Hid (Held w7 d.nods gs) := Held.but (w := w6.drew) (H6.out.kept fun _ _ => rfl) hB7 (fun g hg => (HO.out.gl g hg).2.2.2.2)
    have O7 : Hid (Owns w7 base 59 4 (.slice nA nm nc) (movR d.movs ++ [[.int .i64 mk, .string mn, .string mt, .int .i64 mi]])) := O6.out.kept fun g hg ho => hB7.block g hg (fun e => by subst e; exact W6.out.notOwn O6.out ho)
    have B7 : Hid (Below base Y w7) := (B6.out.drew).trans (hB7.below base (Nat.le_trans HB.out (Nat.le_trans hszY.out B6.out.size)) fun i hi e => by have := HO.out.lo.2.2.2; omega)
    clear cA hB7 S0 P6 K6 I6 N6 W6 H6 O6 B6
    go_wp2_with fail
    refine hK.out _ _ (fun h => by cases h) ?_
    clear hK K
    refine until_done (by kernel_rfl) ?_ _
    go_wp2_with fail
    go_ret
    refine ⟨by rw [HRR.out]; rfl, ?_, ?_⟩
    · rw [HRR.out]
      refine ⟨⟨bi, bd, gs, _, _, P7.out, I7.out, H7.out, N7.out, ?_⟩, HT.out.rise, HT.out.sorted, HT.out.ok, HT.out.n1, HT.out.n2, ?_, HT.out.nx, fun x hx => ?_⟩
      · have h1 := O7.out.lies
        have e1 : movR (d.movs ++ [⟨mk, mn, mt, mi⟩]) = movR d.movs ++ [[.int .i64 mk, .string mn, .string mt, .int .i64 mi]] := by unfold movR; rw [List.map_append]; rfl
        show Lies w7 w7.heap.size 4 (.slice nA nm nc) (movR (d.movs ++ [⟨mk, mn, mt, mi⟩]))
        rw [e1]
        exact h1
      · show (d.movs ++ [_]).length ≤ 1000
        rw [List.length_append, hUM, List.length_singleton]
        have := HM.out
        omega
      · have hx' : x ∈ d.movs ++ [⟨mk, mn, mt, mi⟩] := hx
        rcases List.mem_append.1 hx' with h1 | h1
        · exact HT.out.mx x h1
        · obtain rfl := List.mem_singleton.1 h1
          have := HS1.out
          have := HS2.out
          exact ⟨by show mn.size ≤ _; omega, by show mt.size ≤ _; omega⟩
    · exact (BY.out.mono HB2.out).trans B7.out

/-- A disk behind one move more, where the code so far is 0. -/
def movedC (d : Dsk) (m : Mov) (code : Int) : Dsk × Int := if code = 0 then movedD d m else (d, code)
theorem movedC_no {d : Dsk} {m : Mov} {code : Int} (h : code ≠ 0) : movedC d m code = (d, code) := by unfold movedC; rw [if_neg h]
theorem movedC_yes {d : Dsk} {m : Mov} : movedC d m 0 = movedD d m := by unfold movedC; rw [if_pos rfl]

set_option maxRecDepth 20000 in
set_option maxHeartbeats 4000000 in
theorem movedV (d : Dsk) (v : Value) (mk : Int) (mn mt : ByteArray) (mi code : Int) (w : World) (B : Nat) (hv : DiskV w B v d) (l1 : d.nods.length ≤ 1048576) (l2 : d.dir.length ≤ 1048576) (l3 : d.movs.length ≤ 1048576) (hB : B ≤ w.heap.size) :
    Calls Tryz.prog 60 #[v, .agg #[.int .i64 mk, .string mn, .string mt, .int .i64 mi], .int .i64 code] w fun e w' => ∃ x, e = .returned (.tuple #[x, .int .i64 (movedC d ⟨mk, mn, mt, mi⟩ code).2]) ∧ DiskO w' w.heap.size x (movedC d ⟨mk, mn, mt, mi⟩ code).1 ∧ Below w.heap.size w w' := by
  have HV : Hid (DiskV w B v d) := hv
  have HB : Hid (B ≤ w.heap.size) := hB
  have L1 : Hid (d.nods.length ≤ 1048576) := l1
  have L2 : Hid (d.dir.length ≤ 1048576) := l2
  have L3 : Hid (d.movs.length ≤ 1048576) := l3
  obtain ⟨v1, v2, v3, rfl, h1, h2, h3⟩ := hv
  obtain ⟨A0, c0, rfl, _⟩ := mov_look h3
  have q1 : (d.movs.length : Int) ≤ 1048576 := by omega
  have hb0 := ((Below.refl _ w).alloc (Nat.le_refl _) (.cells #[.int .i64 d.room, .int .i64 d.next, v1, v2, .slice A0 d.movs.length c0] 32)).alloc (by simp only [World.size_alloc]; omega) (.cells #[.int .i64 mk, .string mn, .string mt, .int .i64 mi] 59)
  have hb1 := hb0.alloc (by simp only [World.size_alloc]; omega) (.cells #[.int .i64 0, .int .i64 0, .slice none 0 0, .slice none 0 0, .slice none 0 0] 32)
  have bA := ((Blk.new w #[.int .i64 d.room, .int .i64 d.next, v1, v2, .slice A0 d.movs.length c0] 32).alloc (.cells #[.int .i64 mk, .string mn, .string mt, .int .i64 mi] 59)).alloc (.cells #[.int .i64 0, .int .i64 0, .slice none 0 0, .slice none 0 0, .slice none 0 0] 32)
  have bM := (Blk.new (w.alloc (.cells #[.int .i64 d.room, .int .i64 d.next, v1, v2, .slice A0 d.movs.length c0] 32)) #[.int .i64 mk, .string mn, .string mt, .int .i64 mi] 59).alloc (.cells #[.int .i64 0, .int .i64 0, .slice none 0 0, .slice none 0 0, .slice none 0 0] 32)
  have bR := Blk.new ((w.alloc (.cells #[.int .i64 d.room, .int .i64 d.next, v1, v2, .slice A0 d.movs.length c0] 32)).alloc (.cells #[.int .i64 mk, .string mn, .string mt, .int .i64 mi] 59)) #[.int .i64 0, .int .i64 0, .slice none 0 0, .slice none 0 0, .slice none 0 0] 32
  simp only [World.size_alloc] at bM bR
  clear h1 h2 h3 hB l1 l2 l3 hb0
  have y4 := bA.cell 4 _ rfl
  by_cases hc : code = 0
  · subst hc
    by_cases hfull : 20 ≤ d.movs.length
    · have t1 : decide ((20 : Int) ≤ (d.movs.length : Int)) = true := decide_eq_true (by omega)
      have hRR : Hid (movedC d ⟨mk, mn, mt, mi⟩ 0 = (d, 4)) := by unfold Hid; rw [movedC_yes, movedD_full hfull]
      clear hfull
      go_enter Tryz.func60, Tryz.ntmps60
      go_upto_region 3 with fail
      clear y4
      generalize ((w.alloc (.cells #[.int .i64 d.room, .int .i64 d.next, v1, v2, .slice A0 d.movs.length c0] 32)).alloc (.cells #[.int .i64 mk, .string mn, .string mt, .int .i64 mi] 59)).alloc (.cells #[.int .i64 0, .int .i64 0, .slice none 0 0, .slice none 0 0, .slice none 0 0] 32) = W at *
      have B0 : Hid (Below w.heap.size w W) := hb1
      have K0 : Hid (Blk W w.heap.size #[.int .i64 d.room, .int .i64 d.next, v1, v2, .slice A0 d.movs.length c0] 32) := bA
      have M0 : Hid (Blk W (w.heap.size + 1) #[.int .i64 mk, .string mn, .string mt, .int .i64 mi] 59) := bM
      have R0 : Hid (Blk W (w.heap.size + 1 + 1) #[.int .i64 0, .int .i64 0, .slice none 0 0, .slice none 0 0, .slice none 0 0] 32) := bR
      clear hb1 bA bM bR
      have y0 := K0.out.cell 0 _ rfl
      have y1 := K0.out.cell 1 _ rfl
      have y2 := K0.out.cell 2 _ rfl
      have y3 := K0.out.cell 3 _ rfl
      have y4 := K0.out.cell 4 _ rfl
      go_wp2_with fail
      refine (copyV d (.agg #[.int .i64 d.room, .int .i64 d.next, v1, v2, .slice A0 d.movs.length c0]) W B (HV.out.on (B0.out.mono HB.out)) L1.out L2.out L3.out (Nat.le_trans HB.out B0.out.size)).mono ?_
      rintro e w3 ⟨x, rfl, hO3, hb3⟩
      clear y0 y1 y2 y3 y4
      have hsz3 : Hid (W.heap.size ≤ w3.heap.size) := hb3.size
      have B3 : Hid (Below w.heap.size w w3) := B0.out.trans (hb3.mono B0.out.size)
      have K3 : Hid (Blk w3 w.heap.size #[.int .i64 d.room, .int .i64 d.next, v1, v2, .slice A0 d.movs.length c0] 32) := K0.out.on hb3 K0.out.lt
      have M3 : Hid (Blk w3 (w.heap.size + 1) #[.int .i64 mk, .string mn, .string mt, .int .i64 mi] 59) := M0.out.on hb3 M0.out.lt
      have R3 : Hid (Blk w3 (w.heap.size + 1 + 1) #[.int .i64 0, .int .i64 0, .slice none 0 0, .slice none 0 0, .slice none 0 0] 32) := R0.out.on hb3 R0.out.lt
      obtain ⟨x1, x2, x3, rfl, o1, o2, o3⟩ := hO3
      obtain ⟨A1, m1, k1, rfl⟩ := o1.shape
      obtain ⟨A2, m2, k2, rfl⟩ := o2.shape
      obtain ⟨A3, m3, k3, rfl⟩ := o3.shape
      have hz : w.heap.size + 1 + 1 < W.heap.size := R0.out.lt
      have hm : w.heap.size ≤ W.heap.size := B0.out.size
      have HP1 : Hid (Owns (((((w3.setCell ⟨w.heap.size, 0, none⟩ (.int .i64 d.room)).setCell ⟨w.heap.size, 1, none⟩ (.int .i64 d.next)).setCell ⟨w.heap.size, 2, none⟩ (.slice A1 m1 k1)).setCell ⟨w.heap.size, 3, none⟩ (.slice A2 m2 k2)).setCell ⟨w.heap.size, 4, none⟩ (.slice A3 m3 k3)) W.heap.size 57 3 (.slice A1 m1 k1) (nodR d.nods)) := (((((o1.other (o1.below (show w.heap.size < W.heap.size by omega)) 0 (.int .i64 d.room)).other (o1.below (show w.heap.size < W.heap.size by omega)) 1 (.int .i64 d.next)).other (o1.below (show w.heap.size < W.heap.size by omega)) 2 (.slice A1 m1 k1)).other (o1.below (show w.heap.size < W.heap.size by omega)) 3 (.slice A2 m2 k2)).other (o1.below (show w.heap.size < W.heap.size by omega)) 4 (.slice A3 m3 k3))
      have HP2 : Hid (Owns (((((w3.setCell ⟨w.heap.size, 0, none⟩ (.int .i64 d.room)).setCell ⟨w.heap.size, 1, none⟩ (.int .i64 d.next)).setCell ⟨w.heap.size, 2, none⟩ (.slice A1 m1 k1)).setCell ⟨w.heap.size, 3, none⟩ (.slice A2 m2 k2)).setCell ⟨w.heap.size, 4, none⟩ (.slice A3 m3 k3)) W.heap.size 99 2 (.slice A2 m2 k2) (lnkR d.dir)) := (((((o2.other (o2.below (show w.heap.size < W.heap.size by omega)) 0 (.int .i64 d.room)).other (o2.below (show w.heap.size < W.heap.size by omega)) 1 (.int .i64 d.next)).other (o2.below (show w.heap.size < W.heap.size by omega)) 2 (.slice A1 m1 k1)).other (o2.below (show w.heap.size < W.heap.size by omega)) 3 (.slice A2 m2 k2)).other (o2.below (show w.heap.size < W.heap.size by omega)) 4 (.slice A3 m3 k3))
      have HP3 : Hid (Owns (((((w3.setCell ⟨w.heap.size, 0, none⟩ (.int .i64 d.room)).setCell ⟨w.heap.size, 1, none⟩ (.int .i64 d.next)).setCell ⟨w.heap.size, 2, none⟩ (.slice A1 m1 k1)).setCell ⟨w.heap.size, 3, none⟩ (.slice A2 m2 k2)).setCell ⟨w.heap.size, 4, none⟩ (.slice A3 m3 k3)) W.heap.size 59 4 (.slice A3 m3 k3) (movR d.movs)) := (((((o3.other (o3.below (show w.heap.size < W.heap.size by omega)) 0 (.int .i64 d.room)).other (o3.below (show w.heap.size < W.heap.size by omega)) 1 (.int .i64 d.next)).other (o3.below (show w.heap.size < W.heap.size by omega)) 2 (.slice A1 m1 k1)).other (o3.below (show w.heap.size < W.heap.size by omega)) 3 (.slice A2 m2 k2)).other (o3.below (show w.heap.size < W.heap.size by omega)) 4 (.slice A3 m3 k3))
      have HPB : Hid (Below w.heap.size w (((((w3.setCell ⟨w.heap.size, 0, none⟩ (.int .i64 d.room)).setCell ⟨w.heap.size, 1, none⟩ (.int .i64 d.next)).setCell ⟨w.heap.size, 2, none⟩ (.slice A1 m1 k1)).setCell ⟨w.heap.size, 3, none⟩ (.slice A2 m2 k2)).setCell ⟨w.heap.size, 4, none⟩ (.slice A3 m3 k3))) := (((((B3.out.setCell (Nat.le_refl _) (.int .i64 d.room) (p := ⟨_, 0, none⟩)).setCell (Nat.le_refl _) (.int .i64 d.next) (p := ⟨_, 1, none⟩)).setCell (Nat.le_refl _) (.slice A1 m1 k1) (p := ⟨_, 2, none⟩)).setCell (Nat.le_refl _) (.slice A2 m2 k2) (p := ⟨_, 3, none⟩)).setCell (Nat.le_refl _) (.slice A3 m3 k3) (p := ⟨_, 4, none⟩))
      have HPK : Hid (Blk (((((w3.setCell ⟨w.heap.size, 0, none⟩ (.int .i64 d.room)).setCell ⟨w.heap.size, 1, none⟩ (.int .i64 d.next)).setCell ⟨w.heap.size, 2, none⟩ (.slice A1 m1 k1)).setCell ⟨w.heap.size, 3, none⟩ (.slice A2 m2 k2)).setCell ⟨w.heap.size, 4, none⟩ (.slice A3 m3 k3)) w.heap.size #[.int .i64 d.room, .int .i64 d.next, .slice A1 m1 k1, .slice A2 m2 k2, .slice A3 m3 k3] 32) := (((((K3.out.set 0 (.int .i64 d.room)).set 1 (.int .i64 d.next)).set 2 (.slice A1 m1 k1)).set 3 (.slice A2 m2 k2)).set 4 (.slice A3 m3 k3))
      have HPM : Hid (Blk (((((w3.setCell ⟨w.heap.size, 0, none⟩ (.int .i64 d.room)).setCell ⟨w.heap.size, 1, none⟩ (.int .i64 d.next)).setCell ⟨w.heap.size, 2, none⟩ (.slice A1 m1 k1)).setCell ⟨w.heap.size, 3, none⟩ (.slice A2 m2 k2)).setCell ⟨w.heap.size, 4, none⟩ (.slice A3 m3 k3)) (w.heap.size + 1) #[.int .i64 mk, .string mn, .string mt, .int .i64 mi] 59) := (((((M3.out.other (show w.heap.size + 1 ≠ w.heap.size by omega) 0 (.int .i64 d.room)).other (show w.heap.size + 1 ≠ w.heap.size by omega) 1 (.int .i64 d.next)).other (show w.heap.size + 1 ≠ w.heap.size by omega) 2 (.slice A1 m1 k1)).other (show w.heap.size + 1 ≠ w.heap.size by omega) 3 (.slice A2 m2 k2)).other (show w.heap.size + 1 ≠ w.heap.size by omega) 4 (.slice A3 m3 k3))
      have HPR : Hid (Blk (((((w3.setCell ⟨w.heap.size, 0, none⟩ (.int .i64 d.room)).setCell ⟨w.heap.size, 1, none⟩ (.int .i64 d.next)).setCell ⟨w.heap.size, 2, none⟩ (.slice A1 m1 k1)).setCell ⟨w.heap.size, 3, none⟩ (.slice A2 m2 k2)).setCell ⟨w.heap.size, 4, none⟩ (.slice A3 m3 k3)) (w.heap.size + 1 + 1) #[.int .i64 0, .int .i64 0, .slice none 0 0, .slice none 0 0, .slice none 0 0] 32) := (((((R3.out.other (show w.heap.size + 1 + 1 ≠ w.heap.size by omega) 0 (.int .i64 d.room)).other (show w.heap.size + 1 + 1 ≠ w.heap.size by omega) 1 (.int .i64 d.next)).other (show w.heap.size + 1 + 1 ≠ w.heap.size by omega) 2 (.slice A1 m1 k1)).other (show w.heap.size + 1 + 1 ≠ w.heap.size by omega) 3 (.slice A2 m2 k2)).other (show w.heap.size + 1 + 1 ≠ w.heap.size by omega) 4 (.slice A3 m3 k3))
      clear hb3 o1 o2 o3
      have e0 := K3.out.cell 0 _ rfl
      have t0 := K3.out.free 0
      have e1 := K3.out.cell 1 _ rfl
      have t1 := K3.out.free 1
      have e2 := K3.out.cell 2 _ rfl
      have t2 := K3.out.free 2
      have e3 := K3.out.cell 3 _ rfl
      have t3 := K3.out.free 3
      have e4 := K3.out.cell 4 _ rfl
      have t4 := K3.out.free 4
      have r0 := HPK.out.cell 0 _ rfl
      have r1 := HPK.out.cell 1 _ rfl
      have r2 := HPK.out.cell 2 _ rfl
      have r3 := HPK.out.cell 3 _ rfl
      have r4 := HPK.out.cell 4 _ rfl
      have g0 := HPR.out.cell 0 _ rfl
      have f0 := HPR.out.free 0
      have g1 := HPR.out.cell 1 _ rfl
      have f1 := HPR.out.free 1
      have g2 := HPR.out.cell 2 _ rfl
      have f2 := HPR.out.free 2
      have g3 := HPR.out.cell 3 _ rfl
      have f3 := HPR.out.free 3
      have g4 := HPR.out.cell 4 _ rfl
      have f4 := HPR.out.free 4
      go_wp2_with fail
      have hB := HPB.out
      have hg : w.heap.size ≤ w.heap.size + 1 + 1 := by omega
      clear r0 e0 t0 r1 e1 t1 r2 e2 t2 r3 e3 t3 r4 e4 t4
      have FB := (((((hB.setCell hg (.int .i64 d.room) (p := ⟨_, 0, none⟩)).setCell hg (.int .i64 d.next) (p := ⟨_, 1, none⟩)).setCell hg (.slice A1 m1 k1) (p := ⟨_, 2, none⟩)).setCell hg (.slice A2 m2 k2) (p := ⟨_, 3, none⟩)).setCell hg (.slice A3 m3 k3) (p := ⟨_, 4, none⟩))
      have hF := (((((HPR.out.set 0 (.int .i64 d.room)).set 1 (.int .i64 d.next)).set 2 (.slice A1 m1 k1)).set 3 (.slice A2 m2 k2)).set 4 (.slice A3 m3 k3))
      have mm0 := HP1.out.notBlk HPR.out (by decide)
      have F0 := (((((HP1.out.other mm0 0 (.int .i64 d.room)).other mm0 1 (.int .i64 d.next)).other mm0 2 (.slice A1 m1 k1)).other mm0 3 (.slice A2 m2 k2)).other mm0 4 (.slice A3 m3 k3))
      have mm1 := HP2.out.notBlk HPR.out (by decide)
      have F1 := (((((HP2.out.other mm1 0 (.int .i64 d.room)).other mm1 1 (.int .i64 d.next)).other mm1 2 (.slice A1 m1 k1)).other mm1 3 (.slice A2 m2 k2)).other mm1 4 (.slice A3 m3 k3))
      have mm2 := HP3.out.notBlk HPR.out (by decide)
      have F2 := (((((HP3.out.other mm2 0 (.int .i64 d.room)).other mm2 1 (.int .i64 d.next)).other mm2 2 (.slice A1 m1 k1)).other mm2 3 (.slice A2 m2 k2)).other mm2 4 (.slice A3 m3 k3))
      clear g0 f0 g1 f1 g2 f2 g3 f3 g4 f4
      generalize ((((((((((w3.setCell ⟨w.heap.size, 0, none⟩ (.int .i64 d.room)).setCell ⟨w.heap.size, 1, none⟩ (.int .i64 d.next)).setCell ⟨w.heap.size, 2, none⟩ (.slice A1 m1 k1)).setCell ⟨w.heap.size, 3, none⟩ (.slice A2 m2 k2)).setCell ⟨w.heap.size, 4, none⟩ (.slice A3 m3 k3)).setCell ⟨w.heap.size + 1 + 1, 0, none⟩ (.int .i64 d.room)).setCell ⟨w.heap.size + 1 + 1, 1, none⟩ (.int .i64 d.next)).setCell ⟨w.heap.size + 1 + 1, 2, none⟩ (.slice A1 m1 k1)).setCell ⟨w.heap.size + 1 + 1, 3, none⟩ (.slice A2 m2 k2)).setCell ⟨w.heap.size + 1 + 1, 4, none⟩ (.slice A3 m3 k3)) = WF at *
      have hG : Blk WF (w.heap.size + 1 + 1) #[.int .i64 d.room, .int .i64 d.next, .slice A1 m1 k1, .slice A2 m2 k2, .slice A3 m3 k3] 32 := hF
      have l0 := hG.cell 0 (.int .i64 d.room) rfl
      have l1 := hG.cell 1 (.int .i64 d.next) rfl
      have l2 := hG.cell 2 (.slice A1 m1 k1) rfl
      have l3 := hG.cell 3 (.slice A2 m2 k2) rfl
      have l4 := hG.cell 4 (.slice A3 m3 k3) rfl
      exact bodyPost_ret (v := .tuple #[.agg #[.int .i64 d.room, .int .i64 d.next, .slice A1 m1 k1, .slice A2 m2 k2, .slice A3 m3 k3], .int .i64 4]) (by simp [results, go_sem, l0, l1, l2, l3, l4]) rfl (by rw [hRR.out]; exact ⟨_, rfl, ⟨_, _, _, rfl, F0.mono hm, F1.mono hm, F2.mono hm⟩, FB⟩)
    · have t1 : decide ((20 : Int) ≤ (d.movs.length : Int)) = false := decide_eq_false (by omega)
      have hRR : Hid (movedC d ⟨mk, mn, mt, mi⟩ 0 = (⟨d.room, d.next, d.nods, d.dir, d.movs ++ [⟨mk, mn, mt, mi⟩]⟩, 0)) := by unfold Hid; rw [movedC_yes, movedD_room hfull]
      clear hfull
      go_enter Tryz.func60, Tryz.ntmps60
      go_upto_region 3 with fail
      clear y4
      generalize ((w.alloc (.cells #[.int .i64 d.room, .int .i64 d.next, v1, v2, .slice A0 d.movs.length c0] 32)).alloc (.cells #[.int .i64 mk, .string mn, .string mt, .int .i64 mi] 59)).alloc (.cells #[.int .i64 0, .int .i64 0, .slice none 0 0, .slice none 0 0, .slice none 0 0] 32) = W at *
      have B0 : Hid (Below w.heap.size w W) := hb1
      have K0 : Hid (Blk W w.heap.size #[.int .i64 d.room, .int .i64 d.next, v1, v2, .slice A0 d.movs.length c0] 32) := bA
      have M0 : Hid (Blk W (w.heap.size + 1) #[.int .i64 mk, .string mn, .string mt, .int .i64 mi] 59) := bM
      have R0 : Hid (Blk W (w.heap.size + 1 + 1) #[.int .i64 0, .int .i64 0, .slice none 0 0, .slice none 0 0, .slice none 0 0] 32) := bR
      clear hb1 bA bM bR
      have y0 := K0.out.cell 0 _ rfl
      have y1 := K0.out.cell 1 _ rfl
      have y2 := K0.out.cell 2 _ rfl
      have y3 := K0.out.cell 3 _ rfl
      have y4 := K0.out.cell 4 _ rfl
      go_wp2_with fail
      refine (copyV d (.agg #[.int .i64 d.room, .int .i64 d.next, v1, v2, .slice A0 d.movs.length c0]) W B (HV.out.on (B0.out.mono HB.out)) L1.out L2.out L3.out (Nat.le_trans HB.out B0.out.size)).mono ?_
      rintro e w3 ⟨x, rfl, hO3, hb3⟩
      clear y0 y1 y2 y3 y4
      have hsz3 : Hid (W.heap.size ≤ w3.heap.size) := hb3.size
      have B3 : Hid (Below w.heap.size w w3) := B0.out.trans (hb3.mono B0.out.size)
      have K3 : Hid (Blk w3 w.heap.size #[.int .i64 d.room, .int .i64 d.next, v1, v2, .slice A0 d.movs.length c0] 32) := K0.out.on hb3 K0.out.lt
      have M3 : Hid (Blk w3 (w.heap.size + 1) #[.int .i64 mk, .string mn, .string mt, .int .i64 mi] 59) := M0.out.on hb3 M0.out.lt
      have R3 : Hid (Blk w3 (w.heap.size + 1 + 1) #[.int .i64 0, .int .i64 0, .slice none 0 0, .slice none 0 0, .slice none 0 0] 32) := R0.out.on hb3 R0.out.lt
      obtain ⟨x1, x2, x3, rfl, o1, o2, o3⟩ := hO3
      obtain ⟨A1, m1, k1, rfl⟩ := o1.shape
      obtain ⟨A2, m2, k2, rfl⟩ := o2.shape
      obtain ⟨A3, m3, k3, rfl⟩ := o3.shape
      have hz : w.heap.size + 1 + 1 < W.heap.size := R0.out.lt
      have hm : w.heap.size ≤ W.heap.size := B0.out.size
      have HP1 : Hid (Owns (((((w3.setCell ⟨w.heap.size, 0, none⟩ (.int .i64 d.room)).setCell ⟨w.heap.size, 1, none⟩ (.int .i64 d.next)).setCell ⟨w.heap.size, 2, none⟩ (.slice A1 m1 k1)).setCell ⟨w.heap.size, 3, none⟩ (.slice A2 m2 k2)).setCell ⟨w.heap.size, 4, none⟩ (.slice A3 m3 k3)) W.heap.size 57 3 (.slice A1 m1 k1) (nodR d.nods)) := (((((o1.other (o1.below (show w.heap.size < W.heap.size by omega)) 0 (.int .i64 d.room)).other (o1.below (show w.heap.size < W.heap.size by omega)) 1 (.int .i64 d.next)).other (o1.below (show w.heap.size < W.heap.size by omega)) 2 (.slice A1 m1 k1)).other (o1.below (show w.heap.size < W.heap.size by omega)) 3 (.slice A2 m2 k2)).other (o1.below (show w.heap.size < W.heap.size by omega)) 4 (.slice A3 m3 k3))
      have HP2 : Hid (Owns (((((w3.setCell ⟨w.heap.size, 0, none⟩ (.int .i64 d.room)).setCell ⟨w.heap.size, 1, none⟩ (.int .i64 d.next)).setCell ⟨w.heap.size, 2, none⟩ (.slice A1 m1 k1)).setCell ⟨w.heap.size, 3, none⟩ (.slice A2 m2 k2)).setCell ⟨w.heap.size, 4, none⟩ (.slice A3 m3 k3)) W.heap.size 99 2 (.slice A2 m2 k2) (lnkR d.dir)) := (((((o2.other (o2.below (show w.heap.size < W.heap.size by omega)) 0 (.int .i64 d.room)).other (o2.below (show w.heap.size < W.heap.size by omega)) 1 (.int .i64 d.next)).other (o2.below (show w.heap.size < W.heap.size by omega)) 2 (.slice A1 m1 k1)).other (o2.below (show w.heap.size < W.heap.size by omega)) 3 (.slice A2 m2 k2)).other (o2.below (show w.heap.size < W.heap.size by omega)) 4 (.slice A3 m3 k3))
      have HP3 : Hid (Owns (((((w3.setCell ⟨w.heap.size, 0, none⟩ (.int .i64 d.room)).setCell ⟨w.heap.size, 1, none⟩ (.int .i64 d.next)).setCell ⟨w.heap.size, 2, none⟩ (.slice A1 m1 k1)).setCell ⟨w.heap.size, 3, none⟩ (.slice A2 m2 k2)).setCell ⟨w.heap.size, 4, none⟩ (.slice A3 m3 k3)) W.heap.size 59 4 (.slice A3 m3 k3) (movR d.movs)) := (((((o3.other (o3.below (show w.heap.size < W.heap.size by omega)) 0 (.int .i64 d.room)).other (o3.below (show w.heap.size < W.heap.size by omega)) 1 (.int .i64 d.next)).other (o3.below (show w.heap.size < W.heap.size by omega)) 2 (.slice A1 m1 k1)).other (o3.below (show w.heap.size < W.heap.size by omega)) 3 (.slice A2 m2 k2)).other (o3.below (show w.heap.size < W.heap.size by omega)) 4 (.slice A3 m3 k3))
      have HPB : Hid (Below w.heap.size w (((((w3.setCell ⟨w.heap.size, 0, none⟩ (.int .i64 d.room)).setCell ⟨w.heap.size, 1, none⟩ (.int .i64 d.next)).setCell ⟨w.heap.size, 2, none⟩ (.slice A1 m1 k1)).setCell ⟨w.heap.size, 3, none⟩ (.slice A2 m2 k2)).setCell ⟨w.heap.size, 4, none⟩ (.slice A3 m3 k3))) := (((((B3.out.setCell (Nat.le_refl _) (.int .i64 d.room) (p := ⟨_, 0, none⟩)).setCell (Nat.le_refl _) (.int .i64 d.next) (p := ⟨_, 1, none⟩)).setCell (Nat.le_refl _) (.slice A1 m1 k1) (p := ⟨_, 2, none⟩)).setCell (Nat.le_refl _) (.slice A2 m2 k2) (p := ⟨_, 3, none⟩)).setCell (Nat.le_refl _) (.slice A3 m3 k3) (p := ⟨_, 4, none⟩))
      have HPK : Hid (Blk (((((w3.setCell ⟨w.heap.size, 0, none⟩ (.int .i64 d.room)).setCell ⟨w.heap.size, 1, none⟩ (.int .i64 d.next)).setCell ⟨w.heap.size, 2, none⟩ (.slice A1 m1 k1)).setCell ⟨w.heap.size, 3, none⟩ (.slice A2 m2 k2)).setCell ⟨w.heap.size, 4, none⟩ (.slice A3 m3 k3)) w.heap.size #[.int .i64 d.room, .int .i64 d.next, .slice A1 m1 k1, .slice A2 m2 k2, .slice A3 m3 k3] 32) := (((((K3.out.set 0 (.int .i64 d.room)).set 1 (.int .i64 d.next)).set 2 (.slice A1 m1 k1)).set 3 (.slice A2 m2 k2)).set 4 (.slice A3 m3 k3))
      have HPM : Hid (Blk (((((w3.setCell ⟨w.heap.size, 0, none⟩ (.int .i64 d.room)).setCell ⟨w.heap.size, 1, none⟩ (.int .i64 d.next)).setCell ⟨w.heap.size, 2, none⟩ (.slice A1 m1 k1)).setCell ⟨w.heap.size, 3, none⟩ (.slice A2 m2 k2)).setCell ⟨w.heap.size, 4, none⟩ (.slice A3 m3 k3)) (w.heap.size + 1) #[.int .i64 mk, .string mn, .string mt, .int .i64 mi] 59) := (((((M3.out.other (show w.heap.size + 1 ≠ w.heap.size by omega) 0 (.int .i64 d.room)).other (show w.heap.size + 1 ≠ w.heap.size by omega) 1 (.int .i64 d.next)).other (show w.heap.size + 1 ≠ w.heap.size by omega) 2 (.slice A1 m1 k1)).other (show w.heap.size + 1 ≠ w.heap.size by omega) 3 (.slice A2 m2 k2)).other (show w.heap.size + 1 ≠ w.heap.size by omega) 4 (.slice A3 m3 k3))
      have HPR : Hid (Blk (((((w3.setCell ⟨w.heap.size, 0, none⟩ (.int .i64 d.room)).setCell ⟨w.heap.size, 1, none⟩ (.int .i64 d.next)).setCell ⟨w.heap.size, 2, none⟩ (.slice A1 m1 k1)).setCell ⟨w.heap.size, 3, none⟩ (.slice A2 m2 k2)).setCell ⟨w.heap.size, 4, none⟩ (.slice A3 m3 k3)) (w.heap.size + 1 + 1) #[.int .i64 0, .int .i64 0, .slice none 0 0, .slice none 0 0, .slice none 0 0] 32) := (((((R3.out.other (show w.heap.size + 1 + 1 ≠ w.heap.size by omega) 0 (.int .i64 d.room)).other (show w.heap.size + 1 + 1 ≠ w.heap.size by omega) 1 (.int .i64 d.next)).other (show w.heap.size + 1 + 1 ≠ w.heap.size by omega) 2 (.slice A1 m1 k1)).other (show w.heap.size + 1 + 1 ≠ w.heap.size by omega) 3 (.slice A2 m2 k2)).other (show w.heap.size + 1 + 1 ≠ w.heap.size by omega) 4 (.slice A3 m3 k3))
      clear hb3 o1 o2 o3
      have e0 := K3.out.cell 0 _ rfl
      have t0 := K3.out.free 0
      have e1 := K3.out.cell 1 _ rfl
      have t1 := K3.out.free 1
      have e2 := K3.out.cell 2 _ rfl
      have t2 := K3.out.free 2
      have e3 := K3.out.cell 3 _ rfl
      have t3 := K3.out.free 3
      have e4 := K3.out.cell 4 _ rfl
      have t4 := K3.out.free 4
      have r4 := HPK.out.cell 4 _ rfl
      have n0 := HPM.out.cell 0 _ rfl
      have n1 := HPM.out.cell 1 _ rfl
      have n2 := HPM.out.cell 2 _ rfl
      have n3 := HPM.out.cell 3 _ rfl
      have hzz : W.heap.size ≤ ((((((w3.setCell ⟨w.heap.size, 0, none⟩ (.int .i64 d.room)).setCell ⟨w.heap.size, 1, none⟩ (.int .i64 d.next)).setCell ⟨w.heap.size, 2, none⟩ (.slice A1 m1 k1)).setCell ⟨w.heap.size, 3, none⟩ (.slice A2 m2 k2)).setCell ⟨w.heap.size, 4, none⟩ (.slice A3 m3 k3))).heap.size := by simp only [World.size_setCell]; exact hsz3.out
      have hYs : ((((((w3.setCell ⟨w.heap.size, 0, none⟩ (.int .i64 d.room)).setCell ⟨w.heap.size, 1, none⟩ (.int .i64 d.next)).setCell ⟨w.heap.size, 2, none⟩ (.slice A1 m1 k1)).setCell ⟨w.heap.size, 3, none⟩ (.slice A2 m2 k2)).setCell ⟨w.heap.size, 4, none⟩ (.slice A3 m3 k3))).heap.size = w3.heap.size := by simp only [World.size_setCell]
      go_wp2_with (at_builtin; refine Shut.out ?_)
      clear r4 n0 n1 n2 n3 e0 t0 e1 t1 e2 t2 e3 t3 e4 t4
      generalize (((((w3.setCell ⟨w.heap.size, 0, none⟩ (.int .i64 d.room)).setCell ⟨w.heap.size, 1, none⟩ (.int .i64 d.next)).setCell ⟨w.heap.size, 2, none⟩ (.slice A1 m1 k1)).setCell ⟨w.heap.size, 3, none⟩ (.slice A2 m2 k2)).setCell ⟨w.heap.size, 4, none⟩ (.slice A3 m3 k3)) = Y at *
      unfold Shut
      refine wpList_append_row (w := Y) rfl (.tmp 21) (.tmp 23) 30 59 (.agg #[.int .i64 0, .string ⟨#[]⟩, .string ⟨#[]⟩, .int .i64 0]) 4 48 rfl Tryz.underlying30 Tryz.infoMov rfl (by omega) W.heap.size (.slice A3 m3 k3) (movR d.movs) rfl HP3.out [.int .i64 mk, .string mn, .string mt, .int .i64 mi] rfl (by intro y hy; simp at hy; rcases hy with rfl | rfl | rfl | rfl <;> rfl) (by rw [hYs]; rfl) (by rw [movR_length]; have := L3.out; omega) (by omega) hzz ?_
      intro v' w5 hO5 hb5 hk5 _
      obtain ⟨nA, nm, nc, rfl⟩ := hO5.shape
      have Q1 : Hid (Owns w5 W.heap.size 57 3 (.slice A1 m1 k1) (nodR d.nods)) := HP1.out.kept fun g hg ho => hk5 g hg (HP1.out.apart HP3.out (by decide) g ho)
      have Q2 : Hid (Owns w5 W.heap.size 99 2 (.slice A2 m2 k2) (lnkR d.dir)) := HP2.out.kept fun g hg ho => hk5 g hg (HP2.out.apart HP3.out (by decide) g ho)
      have Q3 : Hid (Owns w5 W.heap.size 59 4 (.slice nA nm nc) (movR d.movs ++ [[.int .i64 mk, .string mn, .string mt, .int .i64 mi]])) := hO5
      have QB : Hid (Below w.heap.size w w5) := HPB.out.trans (hb5.mono hm)
      have QK : Hid (Blk w5 w.heap.size #[.int .i64 d.room, .int .i64 d.next, .slice A1 m1 k1, .slice A2 m2 k2, .slice A3 m3 k3] 32) := HPK.out.on hb5 (by omega)
      have QR : Hid (Blk w5 (w.heap.size + 1 + 1) #[.int .i64 0, .int .i64 0, .slice none 0 0, .slice none 0 0, .slice none 0 0] 32) := HPR.out.on hb5 hz
      have y4 := QK.out.cell 4 _ rfl
      have z4 := QK.out.free 4
      have kk : Blk (w5.setCell ⟨w.heap.size, 4, none⟩ (.slice nA nm nc)) w.heap.size #[.int .i64 d.room, .int .i64 d.next, .slice A1 m1 k1, .slice A2 m2 k2, .slice nA nm nc] 32 := QK.out.set 4 _
      have rr : Blk (w5.setCell ⟨w.heap.size, 4, none⟩ (.slice nA nm nc)) (w.heap.size + 1 + 1) #[.int .i64 0, .int .i64 0, .slice none 0 0, .slice none 0 0, .slice none 0 0] 32 := QR.out.other (by omega) _ _
      have KK : Hid (Blk (w5.setCell ⟨w.heap.size, 4, none⟩ (.slice nA nm nc)) w.heap.size #[.int .i64 d.room, .int .i64 d.next, .slice A1 m1 k1, .slice A2 m2 k2, .slice nA nm nc] 32) := kk
      have RRx : Hid (Blk (w5.setCell ⟨w.heap.size, 4, none⟩ (.slice nA nm nc)) (w.heap.size + 1 + 1) #[.int .i64 0, .int .i64 0, .slice none 0 0, .slice none 0 0, .slice none 0 0] 32) := rr
      have F1 : Hid (Owns (w5.setCell ⟨w.heap.size, 4, none⟩ (.slice nA nm nc)) W.heap.size 57 3 (.slice A1 m1 k1) (nodR d.nods)) := Q1.out.other (Q1.out.below (by omega)) _ _
      have F2 : Hid (Owns (w5.setCell ⟨w.heap.size, 4, none⟩ (.slice nA nm nc)) W.heap.size 99 2 (.slice A2 m2 k2) (lnkR d.dir)) := Q2.out.other (Q2.out.below (by omega)) _ _
      have F3 : Hid (Owns (w5.setCell ⟨w.heap.size, 4, none⟩ (.slice nA nm nc)) W.heap.size 59 4 (.slice nA nm nc) (movR d.movs ++ [[.int .i64 mk, .string mn, .string mt, .int .i64 mi]])) := Q3.out.other (Q3.out.below (by omega)) _ _
      have FBx : Hid (Below w.heap.size w (w5.setCell ⟨w.heap.size, 4, none⟩ (.slice nA nm nc))) := QB.out.setCell (p := ⟨w.heap.size, 4, none⟩) (Nat.le_refl _) _
      clear hO5 hb5 hk5 kk rr Q1 Q2 Q3 QB QK QR HP1 HP2 HP3 HPB HPK HPM HPR
      have r0 := KK.out.cell 0 _ rfl
      have r1 := KK.out.cell 1 _ rfl
      have r2 := KK.out.cell 2 _ rfl
      have r3 := KK.out.cell 3 _ rfl
      have r4 := KK.out.cell 4 _ rfl
      have g0 := RRx.out.cell 0 _ rfl
      have f0 := RRx.out.free 0
      have g1 := RRx.out.cell 1 _ rfl
      have f1 := RRx.out.free 1
      have g2 := RRx.out.cell 2 _ rfl
      have f2 := RRx.out.free 2
      have g3 := RRx.out.cell 3 _ rfl
      have f3 := RRx.out.free 3
      have g4 := RRx.out.cell 4 _ rfl
      have f4 := RRx.out.free 4
      go_wp2_with fail
      have hB := FBx.out
      have hg : w.heap.size ≤ w.heap.size + 1 + 1 := by omega
      clear y4 z4 r0 r1 r2 r3 r4
      have e1 : movR (d.movs ++ [⟨mk, mn, mt, mi⟩]) = movR d.movs ++ [[.int .i64 mk, .string mn, .string mt, .int .i64 mi]] := by unfold movR; rw [List.map_append]; rfl
      have F3' : Hid (Owns (w5.setCell ⟨w.heap.size, 4, none⟩ (.slice nA nm nc)) W.heap.size 59 4 (.slice nA nm nc) (movR (d.movs ++ [⟨mk, mn, mt, mi⟩]))) := by unfold Hid; rw [e1]; exact F3.out
      have FB := (((((hB.setCell hg (.int .i64 d.room) (p := ⟨_, 0, none⟩)).setCell hg (.int .i64 d.next) (p := ⟨_, 1, none⟩)).setCell hg (.slice A1 m1 k1) (p := ⟨_, 2, none⟩)).setCell hg (.slice A2 m2 k2) (p := ⟨_, 3, none⟩)).setCell hg (.slice nA nm nc) (p := ⟨_, 4, none⟩))
      have hF := (((((RRx.out.set 0 (.int .i64 d.room)).set 1 (.int .i64 d.next)).set 2 (.slice A1 m1 k1)).set 3 (.slice A2 m2 k2)).set 4 (.slice nA nm nc))
      have mm0 := F1.out.notBlk RRx.out (by decide)
      have F0 := (((((F1.out.other mm0 0 (.int .i64 d.room)).other mm0 1 (.int .i64 d.next)).other mm0 2 (.slice A1 m1 k1)).other mm0 3 (.slice A2 m2 k2)).other mm0 4 (.slice nA nm nc))
      have mm1 := F2.out.notBlk RRx.out (by decide)
      have F1 := (((((F2.out.other mm1 0 (.int .i64 d.room)).other mm1 1 (.int .i64 d.next)).other mm1 2 (.slice A1 m1 k1)).other mm1 3 (.slice A2 m2 k2)).other mm1 4 (.slice nA nm nc))
      have mm2 := F3'.out.notBlk RRx.out (by decide)
      have F2 := (((((F3'.out.other mm2 0 (.int .i64 d.room)).other mm2 1 (.int .i64 d.next)).other mm2 2 (.slice A1 m1 k1)).other mm2 3 (.slice A2 m2 k2)).other mm2 4 (.slice nA nm nc))
      clear g0 f0 g1 f1 g2 f2 g3 f3 g4 f4
      generalize ((((((w5.setCell ⟨w.heap.size, 4, none⟩ (.slice nA nm nc)).setCell ⟨w.heap.size + 1 + 1, 0, none⟩ (.int .i64 d.room)).setCell ⟨w.heap.size + 1 + 1, 1, none⟩ (.int .i64 d.next)).setCell ⟨w.heap.size + 1 + 1, 2, none⟩ (.slice A1 m1 k1)).setCell ⟨w.heap.size + 1 + 1, 3, none⟩ (.slice A2 m2 k2)).setCell ⟨w.heap.size + 1 + 1, 4, none⟩ (.slice nA nm nc)) = WF at *
      have hG : Blk WF (w.heap.size + 1 + 1) #[.int .i64 d.room, .int .i64 d.next, .slice A1 m1 k1, .slice A2 m2 k2, .slice nA nm nc] 32 := hF
      have l0 := hG.cell 0 (.int .i64 d.room) rfl
      have l1 := hG.cell 1 (.int .i64 d.next) rfl
      have l2 := hG.cell 2 (.slice A1 m1 k1) rfl
      have l3 := hG.cell 3 (.slice A2 m2 k2) rfl
      have l4 := hG.cell 4 (.slice nA nm nc) rfl
      exact bodyPost_ret (v := .tuple #[.agg #[.int .i64 d.room, .int .i64 d.next, .slice A1 m1 k1, .slice A2 m2 k2, .slice nA nm nc], .int .i64 0]) (by simp [results, go_sem, l0, l1, l2, l3, l4]) rfl (by rw [hRR.out]; exact ⟨_, rfl, ⟨_, _, _, rfl, F0.mono hm, F1.mono hm, F2.mono hm⟩, FB⟩)
  · have t1 : (code == 0) = false := by simpa using hc
    have hRR : Hid (movedC d ⟨mk, mn, mt, mi⟩ code = (d, code)) := movedC_no hc
    clear hc
    go_enter Tryz.func60, Tryz.ntmps60
    go_upto_region 3 with fail
    clear y4
    generalize ((w.alloc (.cells #[.int .i64 d.room, .int .i64 d.next, v1, v2, .slice A0 d.movs.length c0] 32)).alloc (.cells #[.int .i64 mk, .string mn, .string mt, .int .i64 mi] 59)).alloc (.cells #[.int .i64 0, .int .i64 0, .slice none 0 0, .slice none 0 0, .slice none 0 0] 32) = W at *
    have B0 : Hid (Below w.heap.size w W) := hb1
    have K0 : Hid (Blk W w.heap.size #[.int .i64 d.room, .int .i64 d.next, v1, v2, .slice A0 d.movs.length c0] 32) := bA
    have M0 : Hid (Blk W (w.heap.size + 1) #[.int .i64 mk, .string mn, .string mt, .int .i64 mi] 59) := bM
    have R0 : Hid (Blk W (w.heap.size + 1 + 1) #[.int .i64 0, .int .i64 0, .slice none 0 0, .slice none 0 0, .slice none 0 0] 32) := bR
    clear hb1 bA bM bR
    have y0 := K0.out.cell 0 _ rfl
    have y1 := K0.out.cell 1 _ rfl
    have y2 := K0.out.cell 2 _ rfl
    have y3 := K0.out.cell 3 _ rfl
    have y4 := K0.out.cell 4 _ rfl
    go_wp2_with fail
    refine (copyV d (.agg #[.int .i64 d.room, .int .i64 d.next, v1, v2, .slice A0 d.movs.length c0]) W B (HV.out.on (B0.out.mono HB.out)) L1.out L2.out L3.out (Nat.le_trans HB.out B0.out.size)).mono ?_
    rintro e w3 ⟨x, rfl, hO3, hb3⟩
    clear y0 y1 y2 y3 y4
    have hsz3 : Hid (W.heap.size ≤ w3.heap.size) := hb3.size
    have B3 : Hid (Below w.heap.size w w3) := B0.out.trans (hb3.mono B0.out.size)
    have K3 : Hid (Blk w3 w.heap.size #[.int .i64 d.room, .int .i64 d.next, v1, v2, .slice A0 d.movs.length c0] 32) := K0.out.on hb3 K0.out.lt
    have M3 : Hid (Blk w3 (w.heap.size + 1) #[.int .i64 mk, .string mn, .string mt, .int .i64 mi] 59) := M0.out.on hb3 M0.out.lt
    have R3 : Hid (Blk w3 (w.heap.size + 1 + 1) #[.int .i64 0, .int .i64 0, .slice none 0 0, .slice none 0 0, .slice none 0 0] 32) := R0.out.on hb3 R0.out.lt
    obtain ⟨x1, x2, x3, rfl, o1, o2, o3⟩ := hO3
    obtain ⟨A1, m1, k1, rfl⟩ := o1.shape
    obtain ⟨A2, m2, k2, rfl⟩ := o2.shape
    obtain ⟨A3, m3, k3, rfl⟩ := o3.shape
    have hz : w.heap.size + 1 + 1 < W.heap.size := R0.out.lt
    have hm : w.heap.size ≤ W.heap.size := B0.out.size
    have HP1 : Hid (Owns (((((w3.setCell ⟨w.heap.size, 0, none⟩ (.int .i64 d.room)).setCell ⟨w.heap.size, 1, none⟩ (.int .i64 d.next)).setCell ⟨w.heap.size, 2, none⟩ (.slice A1 m1 k1)).setCell ⟨w.heap.size, 3, none⟩ (.slice A2 m2 k2)).setCell ⟨w.heap.size, 4, none⟩ (.slice A3 m3 k3)) W.heap.size 57 3 (.slice A1 m1 k1) (nodR d.nods)) := (((((o1.other (o1.below (show w.heap.size < W.heap.size by omega)) 0 (.int .i64 d.room)).other (o1.below (show w.heap.size < W.heap.size by omega)) 1 (.int .i64 d.next)).other (o1.below (show w.heap.size < W.heap.size by omega)) 2 (.slice A1 m1 k1)).other (o1.below (show w.heap.size < W.heap.size by omega)) 3 (.slice A2 m2 k2)).other (o1.below (show w.heap.size < W.heap.size by omega)) 4 (.slice A3 m3 k3))
    have HP2 : Hid (Owns (((((w3.setCell ⟨w.heap.size, 0, none⟩ (.int .i64 d.room)).setCell ⟨w.heap.size, 1, none⟩ (.int .i64 d.next)).setCell ⟨w.heap.size, 2, none⟩ (.slice A1 m1 k1)).setCell ⟨w.heap.size, 3, none⟩ (.slice A2 m2 k2)).setCell ⟨w.heap.size, 4, none⟩ (.slice A3 m3 k3)) W.heap.size 99 2 (.slice A2 m2 k2) (lnkR d.dir)) := (((((o2.other (o2.below (show w.heap.size < W.heap.size by omega)) 0 (.int .i64 d.room)).other (o2.below (show w.heap.size < W.heap.size by omega)) 1 (.int .i64 d.next)).other (o2.below (show w.heap.size < W.heap.size by omega)) 2 (.slice A1 m1 k1)).other (o2.below (show w.heap.size < W.heap.size by omega)) 3 (.slice A2 m2 k2)).other (o2.below (show w.heap.size < W.heap.size by omega)) 4 (.slice A3 m3 k3))
    have HP3 : Hid (Owns (((((w3.setCell ⟨w.heap.size, 0, none⟩ (.int .i64 d.room)).setCell ⟨w.heap.size, 1, none⟩ (.int .i64 d.next)).setCell ⟨w.heap.size, 2, none⟩ (.slice A1 m1 k1)).setCell ⟨w.heap.size, 3, none⟩ (.slice A2 m2 k2)).setCell ⟨w.heap.size, 4, none⟩ (.slice A3 m3 k3)) W.heap.size 59 4 (.slice A3 m3 k3) (movR d.movs)) := (((((o3.other (o3.below (show w.heap.size < W.heap.size by omega)) 0 (.int .i64 d.room)).other (o3.below (show w.heap.size < W.heap.size by omega)) 1 (.int .i64 d.next)).other (o3.below (show w.heap.size < W.heap.size by omega)) 2 (.slice A1 m1 k1)).other (o3.below (show w.heap.size < W.heap.size by omega)) 3 (.slice A2 m2 k2)).other (o3.below (show w.heap.size < W.heap.size by omega)) 4 (.slice A3 m3 k3))
    have HPB : Hid (Below w.heap.size w (((((w3.setCell ⟨w.heap.size, 0, none⟩ (.int .i64 d.room)).setCell ⟨w.heap.size, 1, none⟩ (.int .i64 d.next)).setCell ⟨w.heap.size, 2, none⟩ (.slice A1 m1 k1)).setCell ⟨w.heap.size, 3, none⟩ (.slice A2 m2 k2)).setCell ⟨w.heap.size, 4, none⟩ (.slice A3 m3 k3))) := (((((B3.out.setCell (Nat.le_refl _) (.int .i64 d.room) (p := ⟨_, 0, none⟩)).setCell (Nat.le_refl _) (.int .i64 d.next) (p := ⟨_, 1, none⟩)).setCell (Nat.le_refl _) (.slice A1 m1 k1) (p := ⟨_, 2, none⟩)).setCell (Nat.le_refl _) (.slice A2 m2 k2) (p := ⟨_, 3, none⟩)).setCell (Nat.le_refl _) (.slice A3 m3 k3) (p := ⟨_, 4, none⟩))
    have HPK : Hid (Blk (((((w3.setCell ⟨w.heap.size, 0, none⟩ (.int .i64 d.room)).setCell ⟨w.heap.size, 1, none⟩ (.int .i64 d.next)).setCell ⟨w.heap.size, 2, none⟩ (.slice A1 m1 k1)).setCell ⟨w.heap.size, 3, none⟩ (.slice A2 m2 k2)).setCell ⟨w.heap.size, 4, none⟩ (.slice A3 m3 k3)) w.heap.size #[.int .i64 d.room, .int .i64 d.next, .slice A1 m1 k1, .slice A2 m2 k2, .slice A3 m3 k3] 32) := (((((K3.out.set 0 (.int .i64 d.room)).set 1 (.int .i64 d.next)).set 2 (.slice A1 m1 k1)).set 3 (.slice A2 m2 k2)).set 4 (.slice A3 m3 k3))
    have HPM : Hid (Blk (((((w3.setCell ⟨w.heap.size, 0, none⟩ (.int .i64 d.room)).setCell ⟨w.heap.size, 1, none⟩ (.int .i64 d.next)).setCell ⟨w.heap.size, 2, none⟩ (.slice A1 m1 k1)).setCell ⟨w.heap.size, 3, none⟩ (.slice A2 m2 k2)).setCell ⟨w.heap.size, 4, none⟩ (.slice A3 m3 k3)) (w.heap.size + 1) #[.int .i64 mk, .string mn, .string mt, .int .i64 mi] 59) := (((((M3.out.other (show w.heap.size + 1 ≠ w.heap.size by omega) 0 (.int .i64 d.room)).other (show w.heap.size + 1 ≠ w.heap.size by omega) 1 (.int .i64 d.next)).other (show w.heap.size + 1 ≠ w.heap.size by omega) 2 (.slice A1 m1 k1)).other (show w.heap.size + 1 ≠ w.heap.size by omega) 3 (.slice A2 m2 k2)).other (show w.heap.size + 1 ≠ w.heap.size by omega) 4 (.slice A3 m3 k3))
    have HPR : Hid (Blk (((((w3.setCell ⟨w.heap.size, 0, none⟩ (.int .i64 d.room)).setCell ⟨w.heap.size, 1, none⟩ (.int .i64 d.next)).setCell ⟨w.heap.size, 2, none⟩ (.slice A1 m1 k1)).setCell ⟨w.heap.size, 3, none⟩ (.slice A2 m2 k2)).setCell ⟨w.heap.size, 4, none⟩ (.slice A3 m3 k3)) (w.heap.size + 1 + 1) #[.int .i64 0, .int .i64 0, .slice none 0 0, .slice none 0 0, .slice none 0 0] 32) := (((((R3.out.other (show w.heap.size + 1 + 1 ≠ w.heap.size by omega) 0 (.int .i64 d.room)).other (show w.heap.size + 1 + 1 ≠ w.heap.size by omega) 1 (.int .i64 d.next)).other (show w.heap.size + 1 + 1 ≠ w.heap.size by omega) 2 (.slice A1 m1 k1)).other (show w.heap.size + 1 + 1 ≠ w.heap.size by omega) 3 (.slice A2 m2 k2)).other (show w.heap.size + 1 + 1 ≠ w.heap.size by omega) 4 (.slice A3 m3 k3))
    clear hb3 o1 o2 o3
    have e0 := K3.out.cell 0 _ rfl
    have t0 := K3.out.free 0
    have e1 := K3.out.cell 1 _ rfl
    have t1 := K3.out.free 1
    have e2 := K3.out.cell 2 _ rfl
    have t2 := K3.out.free 2
    have e3 := K3.out.cell 3 _ rfl
    have t3 := K3.out.free 3
    have e4 := K3.out.cell 4 _ rfl
    have t4 := K3.out.free 4
    have r0 := HPK.out.cell 0 _ rfl
    have r1 := HPK.out.cell 1 _ rfl
    have r2 := HPK.out.cell 2 _ rfl
    have r3 := HPK.out.cell 3 _ rfl
    have r4 := HPK.out.cell 4 _ rfl
    have g0 := HPR.out.cell 0 _ rfl
    have f0 := HPR.out.free 0
    have g1 := HPR.out.cell 1 _ rfl
    have f1 := HPR.out.free 1
    have g2 := HPR.out.cell 2 _ rfl
    have f2 := HPR.out.free 2
    have g3 := HPR.out.cell 3 _ rfl
    have f3 := HPR.out.free 3
    have g4 := HPR.out.cell 4 _ rfl
    have f4 := HPR.out.free 4
    go_wp2_with fail
    have hB := HPB.out
    have hg : w.heap.size ≤ w.heap.size + 1 + 1 := by omega
    clear r0 e0 t0 r1 e1 t1 r2 e2 t2 r3 e3 t3 r4 e4 t4
    have FB := (((((hB.setCell hg (.int .i64 d.room) (p := ⟨_, 0, none⟩)).setCell hg (.int .i64 d.next) (p := ⟨_, 1, none⟩)).setCell hg (.slice A1 m1 k1) (p := ⟨_, 2, none⟩)).setCell hg (.slice A2 m2 k2) (p := ⟨_, 3, none⟩)).setCell hg (.slice A3 m3 k3) (p := ⟨_, 4, none⟩))
    have hF := (((((HPR.out.set 0 (.int .i64 d.room)).set 1 (.int .i64 d.next)).set 2 (.slice A1 m1 k1)).set 3 (.slice A2 m2 k2)).set 4 (.slice A3 m3 k3))
    have mm0 := HP1.out.notBlk HPR.out (by decide)
    have F0 := (((((HP1.out.other mm0 0 (.int .i64 d.room)).other mm0 1 (.int .i64 d.next)).other mm0 2 (.slice A1 m1 k1)).other mm0 3 (.slice A2 m2 k2)).other mm0 4 (.slice A3 m3 k3))
    have mm1 := HP2.out.notBlk HPR.out (by decide)
    have F1 := (((((HP2.out.other mm1 0 (.int .i64 d.room)).other mm1 1 (.int .i64 d.next)).other mm1 2 (.slice A1 m1 k1)).other mm1 3 (.slice A2 m2 k2)).other mm1 4 (.slice A3 m3 k3))
    have mm2 := HP3.out.notBlk HPR.out (by decide)
    have F2 := (((((HP3.out.other mm2 0 (.int .i64 d.room)).other mm2 1 (.int .i64 d.next)).other mm2 2 (.slice A1 m1 k1)).other mm2 3 (.slice A2 m2 k2)).other mm2 4 (.slice A3 m3 k3))
    clear g0 f0 g1 f1 g2 f2 g3 f3 g4 f4
    generalize ((((((((((w3.setCell ⟨w.heap.size, 0, none⟩ (.int .i64 d.room)).setCell ⟨w.heap.size, 1, none⟩ (.int .i64 d.next)).setCell ⟨w.heap.size, 2, none⟩ (.slice A1 m1 k1)).setCell ⟨w.heap.size, 3, none⟩ (.slice A2 m2 k2)).setCell ⟨w.heap.size, 4, none⟩ (.slice A3 m3 k3)).setCell ⟨w.heap.size + 1 + 1, 0, none⟩ (.int .i64 d.room)).setCell ⟨w.heap.size + 1 + 1, 1, none⟩ (.int .i64 d.next)).setCell ⟨w.heap.size + 1 + 1, 2, none⟩ (.slice A1 m1 k1)).setCell ⟨w.heap.size + 1 + 1, 3, none⟩ (.slice A2 m2 k2)).setCell ⟨w.heap.size + 1 + 1, 4, none⟩ (.slice A3 m3 k3)) = WF at *
    have hG : Blk WF (w.heap.size + 1 + 1) #[.int .i64 d.room, .int .i64 d.next, .slice A1 m1 k1, .slice A2 m2 k2, .slice A3 m3 k3] 32 := hF
    have l0 := hG.cell 0 (.int .i64 d.room) rfl
    have l1 := hG.cell 1 (.int .i64 d.next) rfl
    have l2 := hG.cell 2 (.slice A1 m1 k1) rfl
    have l3 := hG.cell 3 (.slice A2 m2 k2) rfl
    have l4 := hG.cell 4 (.slice A3 m3 k3) rfl
    exact bodyPost_ret (v := .tuple #[.agg #[.int .i64 d.room, .int .i64 d.next, .slice A1 m1 k1, .slice A2 m2 k2, .slice A3 m3 k3], .int .i64 code]) (by simp [results, go_sem, l0, l1, l2, l3, l4]) rfl (by rw [hRR.out]; exact ⟨_, rfl, ⟨_, _, _, rfl, F0.mono hm, F1.mono hm, F2.mono hm⟩, FB⟩)
end Go.Proofs.YtljpakpokjpemaaGreat
