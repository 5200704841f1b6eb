/-
  The contract of impl.changed, for whatever change.
-/
import Derived.Test.YtnnfnhpehacelaaGreatRows
import Derived.Test.YtnnfnhpehacelaaGreatImToldO
import Derived.Test.YtnnfnhpehacelaaGreatImOpen
namespace Go.Proofs.YtnnfnhpehacelaaGreat
open Go.ChangeShapes Go.WideShapes Go.ChangeAt Go.RowKit Go.PlainAid
set_option linter.unusedVariables false

/-- An open disk that can be told. -/
structure Tellable (w : World) (p : Nat) (d : Dsk) : Prop where
  ex : ∃ bi bd gs u vw, Blk w p #[.int .i64 d.room, .int .i64 d.next, .map (some bi), .map (some bd), u, vw] 108 ∧ IT w bi (prs d.nods gs) ∧ Held w d.nods gs ∧ NT w bd d.dir ∧ Lies w w.heap.size 4 u (movR d.movs)
  rise : Rising d.nods
  sorted : Sorted d.dir
  ok : NamesOk d.dir
  n1 : d.nods.length ≤ 1000
  n2 : d.dir.length ≤ 1000
  n3 : d.movs.length ≤ 1000
  nx : ∀ x ∈ d.nods, IntOk x.id ∧ x.data.size ≤ 281474976710656
  mx : ∀ x ∈ d.movs, x.name.size ≤ 281474976710656 ∧ x.to.size ≤ 281474976710656
theorem tellV {w : World} {p : Nat} {d : Dsk} (h : Tellable w p d) : Calls Tryz.prog 57 #[.pointer (some ⟨p, 0, none⟩)] w fun e w' => ∃ v, e = .returned v ∧ DiskO w' w.heap.size v d ∧ Below w.heap.size w w' := by
  obtain ⟨bi, bd, gs, u, vw, h1, h2, h3, h4, h5⟩ := h.ex
  exact toldO d.room d.next vw p bi bd d.nods gs d.dir d.movs u w h1 h2 h3 h.rise h4 h.sorted h.ok h5 h.n1 h.n2 h.n3 h.nx h.mx
theorem wt_data {l : List Nod} : ∀ x ∈ l, x.data.size ≤ wtN l := by
  induction l with
  | nil => intro x hx; cases hx
  | cons y r ih =>
    intro x hx
    unfold wtN wtN1
    rcases List.mem_cons.1 hx with rfl | hx
    · omega
    · have := ih x hx
      omega
theorem wt_movs {l : List Mov} : ∀ x ∈ l, x.name.size + x.to.size ≤ wtM l := by
  induction l with
  | nil => intro x hx; cases hx
  | cons y r ih =>
    intro x hx
    unfold wtM wtM1
    rcases List.mem_cons.1 hx with rfl | hx
    · omega
    · have := ih x hx
      omega
theorem whole_rising {d : Dsk} (hd : Whole d) : Rising d.nods := by
  have h := take_of_whole hd
  unfold takeOk at h
  simp only [Bool.and_eq_true] at h
  have := (take_rising (Nat.le_refl _) (all_of h.1.2)).1
  rw [List.take_length] at this
  exact this
theorem OpenD.tell {w : World} {base p : Nat} {d : Dsk} {bi bd bw : Nat} {gs : List Nat} {u : Value} (h : OpenD w base p d bi bd bw gs u) (hd : Whole d) (hw : wtD d ≤ 1048576) : Tellable w p d := by
  have hR := (sizeOk_iff d).1 hd.size
  have hl := dir_linked hd
  refine ⟨⟨bi, bd, gs, u, _, h.blk, h.it, h.held, h.nd, h.mv.lies⟩, whole_rising hd, hl.sorted, hl.ok, by have := hR.n; omega, by have := hR.l; omega, by have := hR.m; omega, fun x hx => ?_, fun x hx => ?_⟩
  · have h1 := nod_ids hd x hx
    have h2 := wt_data x hx
    unfold wtD at hw
    exact ⟨⟨by omega, by omega⟩, by omega⟩
  · have h2 := wt_movs x hx
    unfold wtD at hw
    exact ⟨by omega, by omega⟩
def zeroD : Dsk := ⟨0, 0, [], [], []⟩

set_option maxRecDepth 20000 in
set_option maxHeartbeats 2000000 in
theorem changedV (d : Dsk) (v : Value) (w : World) (B : Nat) (hv : DiskV w B v d) (hf : Fits d) (hi : IntsOk d) (hw : wtD d ≤ 1048576) (hB : B ≤ w.heap.size) (F : Nat) (caps : Array Value) (R : Dsk) (c : Int)
    (hF : ∀ args w, (callFunc F args).run Tryz.prog w = .ok (.enter F args) w)
    (hC : ∀ w1 base p bi bd bw gs u, Whole d → Below w.heap.size w w1 → w.heap.size ≤ base → base ≤ w1.heap.size → OpenD w1 base p d bi bd bw gs u → Calls Tryz.prog F (#[.pointer (some ⟨p, 0, none⟩)] ++ caps) w1 fun e w2 => e = .returned (.int .i64 c) ∧ Tellable w2 p R ∧ Below base w1 w2) :
    Calls Tryz.prog 27 #[v, .func (.func F) #[] caps] w fun e w' => ∃ x y, e = .returned (.tuple #[x, .int .i64 y]) ∧ ((diskOk d = true ∧ y = c ∧ DiskO w' w.heap.size x R) ∨ (diskOk d = false ∧ y = 1 ∧ DiskO w' w.heap.size x zeroD)) ∧ Below w.heap.size w w' := by
  have HV : Hid (DiskV w B v d) := hv
  have HB : Hid (B ≤ w.heap.size) := hB
  have HC : Hid (∀ w1 base p bi bd bw gs u, Whole d → Below w.heap.size w w1 → w.heap.size ≤ base → base ≤ w1.heap.size → OpenD w1 base p d bi bd bw gs u → Calls Tryz.prog F (#[.pointer (some ⟨p, 0, none⟩)] ++ caps) w1 fun e w2 => e = .returned (.int .i64 c) ∧ Tellable w2 p R ∧ Below base w1 w2) := hC
  obtain ⟨v1, v2, v3, rfl, h1, h2, h3⟩ := hv
  have cO := fun wx hx hb => openedV d (.agg #[.int .i64 d.room, .int .i64 d.next, v1, v2, v3]) wx B hx hf hi hw hb
  clear h1 h2 h3 hB hf hi hw hC
  go_enter Tryz.func27, Tryz.ntmps27
  go_wp2_with fail
  have hb0 := below_alloc2' w (.cells #[.int .i64 d.room, .int .i64 d.next, v1, v2, v3] 35) (.cells #[.int .i64 0, .int .i64 0, .slice none 0 0, .slice none 0 0, .slice none 0 0] 35)
  have bR := Blk.new (w.alloc (.cells #[.int .i64 d.room, .int .i64 d.next, v1, v2, v3] 35)) #[.int .i64 0, .int .i64 0, .slice none 0 0, .slice none 0 0, .slice none 0 0] 35
  have hsz : ((w.alloc (.cells #[.int .i64 d.room, .int .i64 d.next, v1, v2, v3] 35)).alloc (.cells #[.int .i64 0, .int .i64 0, .slice none 0 0, .slice none 0 0, .slice none 0 0] 35)).heap.size = w.heap.size + 1 + 1 := by simp
  simp only [World.size_alloc] at bR
  generalize (w.alloc (.cells #[.int .i64 d.room, .int .i64 d.next, v1, v2, v3] 35)).alloc (.cells #[.int .i64 0, .int .i64 0, .slice none 0 0, .slice none 0 0, .slice none 0 0] 35) = W at *
  have B0 : Hid (Below w.heap.size w W) := hb0
  have R0 : Hid (Blk W (w.heap.size + 1) #[.int .i64 0, .int .i64 0, .slice none 0 0, .slice none 0 0, .slice none 0 0] 35) := bR
  have SZ : Hid (W.heap.size = w.heap.size + 1 + 1) := hsz
  clear hb0 bR hsz
  refine (cO W (HV.out.on (B0.out.mono HB.out)) (Nat.le_trans HB.out B0.out.size)).mono ?_
  rintro e w1 ⟨hb, h⟩
  have B1 : Hid (Below w.heap.size w w1) := B0.out.trans (hb.mono B0.out.size)
  have R1 : Hid (Blk w1 (w.heap.size + 1) #[.int .i64 0, .int .i64 0, .slice none 0 0, .slice none 0 0, .slice none 0 0] 35) := R0.out.on hb R0.out.lt
  have Z1 : Hid (W.heap.size ≤ w1.heap.size) := hb.size
  clear hb cO
  rcases h with ⟨hn, rfl⟩ | ⟨hy, p, bi, bd, bw, gs, u, rfl, hO⟩
  · have HN : Hid (diskOk d = false) := hn
    clear hn
    have g0 := R1.out.cell 0 _ rfl
    have f0 := R1.out.free 0
    have g1 := R1.out.cell 1 _ rfl
    have f1 := R1.out.free 1
    have g2 := R1.out.cell 2 _ rfl
    have f2 := R1.out.free 2
    have g3 := R1.out.cell 3 _ rfl
    have f3 := R1.out.free 3
    have g4 := R1.out.cell 4 _ rfl
    have f4 := R1.out.free 4
    go_wp2_with fail
    have hg : w.heap.size ≤ w.heap.size + 1 := by omega
    have hB := B1.out
    have FB := (((((hB.setCell hg (.int .i64 0) (p := ⟨_, 0, none⟩)).setCell hg (.int .i64 0) (p := ⟨_, 1, none⟩)).setCell hg (.slice none 0 0) (p := ⟨_, 2, none⟩)).setCell hg (.slice none 0 0) (p := ⟨_, 3, none⟩)).setCell hg (.slice none 0 0) (p := ⟨_, 4, none⟩))
    have hF := (((((R1.out.set 0 (.int .i64 0)).set 1 (.int .i64 0)).set 2 (.slice none 0 0)).set 3 (.slice none 0 0)).set 4 (.slice none 0 0))
    clear g0 f0 g1 f1 g2 f2 g3 f3 g4 f4
    generalize (((((w1.setCell ⟨w.heap.size + 1, 0, none⟩ (.int .i64 0)).setCell ⟨w.heap.size + 1, 1, none⟩ (.int .i64 0)).setCell ⟨w.heap.size + 1, 2, none⟩ (.slice none 0 0)).setCell ⟨w.heap.size + 1, 3, none⟩ (.slice none 0 0)).setCell ⟨w.heap.size + 1, 4, none⟩ (.slice none 0 0)) = WF at *
    have hG : Blk WF (w.heap.size + 1) #[.int .i64 0, .int .i64 0, .slice none 0 0, .slice none 0 0, .slice none 0 0] 35 := hF
    have l0 := hG.cell 0 (.int .i64 0) rfl
    have l1 := hG.cell 1 (.int .i64 0) rfl
    have l2 := hG.cell 2 (.slice none 0 0) rfl
    have l3 := hG.cell 3 (.slice none 0 0) rfl
    have l4 := hG.cell 4 (.slice none 0 0) rfl
    exact bodyPost_ret (v := .tuple #[.agg #[.int .i64 0, .int .i64 0, .slice none 0 0, .slice none 0 0, .slice none 0 0], .int .i64 1]) (by simp [results, go_sem, l0, l1, l2, l3, l4]) rfl ⟨_, _, rfl, .inr ⟨HN.out, rfl, ⟨_, _, _, rfl, Owns.nil _ _ _ _, Owns.nil _ _ _ _, Owns.nil _ _ _ _⟩⟩, FB⟩
  · have cC := HC.out w1 W.heap.size p bi bd bw gs u ((whole_iff d).1 hy) B1.out (by rw [SZ.out]; omega) Z1.out hO
    have HY : Hid (diskOk d = true) := hy
    clear hy hO HC
    go_wp2_with fail
    refine cC.mono ?_
    rintro e w2 ⟨rfl, hT, hb2⟩
    have cT := tellV hT
    have B2 : Hid (Below w.heap.size w w2) := B1.out.trans (hb2.mono (by rw [SZ.out]; omega))
    have R2 : Hid (Blk w2 (w.heap.size + 1) #[.int .i64 0, .int .i64 0, .slice none 0 0, .slice none 0 0, .slice none 0 0] 35) := R1.out.on hb2 (by rw [SZ.out]; omega)
    clear cC hT hb2
    go_wp2_with fail
    refine cT.mono ?_
    rintro e w3 ⟨x, rfl, hO3, hb3⟩
    have B3 : Hid (Below w.heap.size w w3) := B2.out.trans (hb3.mono B2.out.size)
    have R3 : Hid (Blk w3 (w.heap.size + 1) #[.int .i64 0, .int .i64 0, .slice none 0 0, .slice none 0 0, .slice none 0 0] 35) := R2.out.on hb3 R2.out.lt
    obtain ⟨x1, x2, x3, rfl, o1, o2, o3⟩ := hO3
    obtain ⟨A1, m1, k1, rfl⟩ := o1.shape
    obtain ⟨A2, m2, k2, rfl⟩ := o2.shape
    obtain ⟨A3, m3, k3, rfl⟩ := o3.shape
    have O1 : Hid (Owns w3 w.heap.size 76 3 (.slice A1 m1 k1) (nodR R.nods)) := o1.mono B2.out.size
    have O2 : Hid (Owns w3 w.heap.size 79 2 (.slice A2 m2 k2) (lnkR R.dir)) := o2.mono B2.out.size
    have O3 : Hid (Owns w3 w.heap.size 81 4 (.slice A3 m3 k3) (movR R.movs)) := o3.mono B2.out.size
    clear cT o1 o2 o3 hb3
    have g0 := R3.out.cell 0 _ rfl
    have f0 := R3.out.free 0
    have g1 := R3.out.cell 1 _ rfl
    have f1 := R3.out.free 1
    have g2 := R3.out.cell 2 _ rfl
    have f2 := R3.out.free 2
    have g3 := R3.out.cell 3 _ rfl
    have f3 := R3.out.free 3
    have g4 := R3.out.cell 4 _ rfl
    have f4 := R3.out.free 4
    go_wp2_with fail
    have hg : w.heap.size ≤ w.heap.size + 1 := by omega
    have hB := B3.out
    have FB := (((((hB.setCell hg (.int .i64 R.room) (p := ⟨_, 0, none⟩)).setCell hg (.int .i64 R.next) (p := ⟨_, 1, none⟩)).setCell hg (.slice A1 m1 k1) (p := ⟨_, 2, none⟩)).setCell hg (.slice A2 m2 k2) (p := ⟨_, 3, none⟩)).setCell hg (.slice A3 m3 k3) (p := ⟨_, 4, none⟩))
    have hF := (((((R3.out.set 0 (.int .i64 R.room)).set 1 (.int .i64 R.next)).set 2 (.slice A1 m1 k1)).set 3 (.slice A2 m2 k2)).set 4 (.slice A3 m3 k3))
    have mm0 := O1.out.notBlk R3.out (by decide)
    have F0 := (((((O1.out.other mm0 0 (.int .i64 R.room)).other mm0 1 (.int .i64 R.next)).other mm0 2 (.slice A1 m1 k1)).other mm0 3 (.slice A2 m2 k2)).other mm0 4 (.slice A3 m3 k3))
    have mm1 := O2.out.notBlk R3.out (by decide)
    have F1 := (((((O2.out.other mm1 0 (.int .i64 R.room)).other mm1 1 (.int .i64 R.next)).other mm1 2 (.slice A1 m1 k1)).other mm1 3 (.slice A2 m2 k2)).other mm1 4 (.slice A3 m3 k3))
    have mm2 := O3.out.notBlk R3.out (by decide)
    have F2 := (((((O3.out.other mm2 0 (.int .i64 R.room)).other mm2 1 (.int .i64 R.next)).other mm2 2 (.slice A1 m1 k1)).other mm2 3 (.slice A2 m2 k2)).other mm2 4 (.slice A3 m3 k3))
    clear g0 f0 g1 f1 g2 f2 g3 f3 g4 f4
    generalize (((((w3.setCell ⟨w.heap.size + 1, 0, none⟩ (.int .i64 R.room)).setCell ⟨w.heap.size + 1, 1, none⟩ (.int .i64 R.next)).setCell ⟨w.heap.size + 1, 2, none⟩ (.slice A1 m1 k1)).setCell ⟨w.heap.size + 1, 3, none⟩ (.slice A2 m2 k2)).setCell ⟨w.heap.size + 1, 4, none⟩ (.slice A3 m3 k3)) = WF at *
    have hG : Blk WF (w.heap.size + 1) #[.int .i64 R.room, .int .i64 R.next, .slice A1 m1 k1, .slice A2 m2 k2, .slice A3 m3 k3] 35 := hF
    have l0 := hG.cell 0 (.int .i64 R.room) rfl
    have l1 := hG.cell 1 (.int .i64 R.next) rfl
    have l2 := hG.cell 2 (.slice A1 m1 k1) rfl
    have l3 := hG.cell 3 (.slice A2 m2 k2) rfl
    have l4 := hG.cell 4 (.slice A3 m3 k3) rfl
    exact bodyPost_ret (v := .tuple #[.agg #[.int .i64 R.room, .int .i64 R.next, .slice A1 m1 k1, .slice A2 m2 k2, .slice A3 m3 k3], .int .i64 c]) (by simp [results, go_sem, l0, l1, l2, l3, l4]) rfl ⟨_, _, rfl, .inl ⟨HY.out, rfl, ⟨_, _, _, rfl, F0, F1, F2⟩⟩, FB⟩
end Go.Proofs.YtnnfnhpehacelaaGreat
