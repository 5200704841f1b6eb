/-
  The contract of impl.opened.
-/
import Derived.Test.YtnnfnhpehacelaaGreatRows
import Derived.Test.YtnnfnhpehacelaaGreatImOpenA
import Derived.Test.YtnnfnhpehacelaaGreatDkEq
namespace Go.Proofs.YtnnfnhpehacelaaGreat
open Go.ChangeShapes Go.WideShapes Go.ChangeAt Go.RowKit Go.PlainAid Go.Maps
set_option linter.unusedVariables false

/-- The ints of a disk are ints. -/
structure IntsOk (d : Dsk) : Prop where
  l : ∀ x ∈ d.dir, IntOk x.id
  m : ∀ x ∈ d.movs, IntOk x.id
theorem bytes_wt (l : List Nod) : bytesOf l ≤ wtN l := by
  induction l with
  | nil => exact Nat.le_refl _
  | cons x r ih =>
    unfold bytesOf wtN wtN1
    omega
theorem delAll_len (l : List (Int × Nat)) (dl : List Lnk) : (delAll l dl).length ≤ l.length := by
  unfold delAll
  induction dl generalizing l with
  | nil => exact Nat.le_refl _
  | cons x r ih => exact Nat.le_trans (ih _) (List.length_filter_le _ _)
theorem delMade_len (l : List (Int × Nat)) (ml : List Mov) : (delMade l ml).length ≤ l.length := by
  unfold delMade
  induction ml generalizing l with
  | nil => exact Nat.le_refl _
  | cons x r ih =>
    refine Nat.le_trans (ih _) ?_
    show (if x.kind = 1 then ptrDel l x.id else l).length ≤ l.length
    split
    · exact List.length_filter_le _ _
    · exact Nat.le_refl _
/-- A disk that is open: where its parts lie. -/
structure OpenD (w : World) (base p : Nat) (d : Dsk) (bi bd bw : Nat) (gs : List Nat) (u : Value) : Prop where
  blk : Blk w p #[.int .i64 d.room, .int .i64 d.next, .map (some bi), .map (some bd), u, .map (some bw)] 108
  it : IT w bi (prs d.nods gs)
  held : Held w d.nods gs
  rise : gs.Pairwise (· < ·)
  nd : NT w bd d.dir
  nw : NT w bw (now d)
  mv : Owns w base 81 4 u (movR d.movs)
  pi : p ≠ bi
  pd : p ≠ bd
  pw : p ≠ bw
  id : bi ≠ bd
  iw : bi ≠ bw
  dw : bd ≠ bw
  lo : base ≤ p ∧ base ≤ bi ∧ base ≤ bd ∧ base ≤ bw
  gl : ∀ g ∈ gs, base ≤ g ∧ g ≠ p ∧ g ≠ bi ∧ g ≠ bd ∧ g ≠ bw
theorem OpenD.on {w w' : World} {base p : Nat} {d : Dsk} {bi bd bw : Nat} {gs : List Nat} {u : Value} (h : OpenD w base p d bi bd bw gs u) (hb : Below w.heap.size w w') : OpenD w' base p d bi bd bw gs u :=
  ⟨h.blk.on hb h.blk.lt, h.it.on hb h.it.lt, h.held.on hb h.held.lt, h.rise, h.nd.on hb h.nd.lt, h.nw.on hb h.nw.lt, h.mv.on hb, h.pi, h.pd, h.pw, h.id, h.iw, h.dw, h.lo, h.gl⟩

set_option maxRecDepth 20000 in
set_option maxHeartbeats 1000000 in
theorem opened_no (d : Dsk) (v : Value) (w : World) (B : Nat) (hv : DiskV w B v d) (h : ¬ (0 ≤ d.room ∧ d.room ≤ 1048576 ∧ 1 ≤ d.next ∧ d.next ≤ 1000000)) :
    Calls Tryz.prog 56 #[v] w fun e w' => e = .returned (.pointer none) ∧ Below w.heap.size w w' := by
  obtain ⟨v1, v2, v3, rfl, h1, h2, h3⟩ := hv
  clear h1 h2 h3
  by_cases c1 : d.room < 0
  · have k1 : decide (d.room < 0) = true := decide_eq_true c1
    clear h
    go_enter Tryz.func56, Tryz.ntmps56
    go_wp2_with fail
    go_ret
    exact ⟨rfl, (Below.refl _ _).alloc (Nat.le_refl _) _⟩
  · have k1 : decide (d.room < 0) = false := decide_eq_false c1
    by_cases c2 : 1048576 < d.room
    · have k2 : decide (1048576 < d.room) = true := decide_eq_true c2
      clear h
      go_enter Tryz.func56, Tryz.ntmps56
      go_wp2_with fail
      go_ret
      exact ⟨rfl, (Below.refl _ _).alloc (Nat.le_refl _) _⟩
    · have k2 : decide (1048576 < d.room) = false := decide_eq_false c2
      by_cases c3 : d.next < 1
      · have k3 : decide (d.next < 1) = true := decide_eq_true c3
        clear h
        go_enter Tryz.func56, Tryz.ntmps56
        go_wp2_with fail
        go_ret
        exact ⟨rfl, (Below.refl _ _).alloc (Nat.le_refl _) _⟩
      · have k3 : decide (d.next < 1) = false := decide_eq_false c3
        have c4 : 1000000 < d.next := by omega
        have k4 : decide (1000000 < d.next) = true := decide_eq_true c4
        clear h
        go_enter Tryz.func56, Tryz.ntmps56
        go_wp2_with fail
        go_ret
        exact ⟨rfl, (Below.refl _ _).alloc (Nat.le_refl _) _⟩

set_option maxRecDepth 20000 in
set_option maxHeartbeats 4000000 in
theorem openedV (d : Dsk) (v : Value) (w : World) (B : Nat) (hv : DiskV w B v d) (hf : Fits d) (hi : IntsOk d) (hw : wtD d ≤ 1048576) (hB : B ≤ w.heap.size) :
    Calls Tryz.prog 56 #[v] w fun e w' => Below w.heap.size w w' ∧ ((diskOk d = false ∧ e = .returned (.pointer none)) ∨ (diskOk d = true ∧ ∃ p bi bd bw gs u, e = .returned (.pointer (some ⟨p, 0, none⟩)) ∧ OpenD w' w.heap.size p d bi bd bw gs u)) := by
  by_cases hr : 0 ≤ d.room ∧ d.room ≤ 1048576 ∧ 1 ≤ d.next ∧ d.next ≤ 1000000
  · have HF : Hid (Fits d) := hf
    have HI : Hid (IntsOk d) := hi
    have HV : Hid (DiskV w B v d) := hv
    have HB : Hid (B ≤ w.heap.size) := hB
    have HBY : Hid (bytesOf d.nods ≤ 4194304) := by
      have := bytes_wt d.nods
      unfold wtD at hw
      unfold Hid
      omega
    have HLN : Hid (d.nods.length ≤ 1048576 ∧ d.dir.length ≤ 1048576 ∧ d.movs.length ≤ 1048576) := by
      unfold wtD at hw
      unfold Hid
      omega
    obtain ⟨r0, r1, x0, x1⟩ := hr
    have HRR : Hid (0 ≤ d.room ∧ d.room ≤ 1048576 ∧ 1 ≤ d.next ∧ d.next ≤ 1000000) := ⟨r0, r1, x0, x1⟩
    obtain ⟨v1, v2, v3, rfl, h1, h2, h3⟩ := hv
    have H1 : Hid (Lies w B 3 v1 (nodR d.nods)) := h1
    have H2 : Hid (Lies w B 2 v2 (lnkR d.dir)) := h2
    have H3 : Hid (Lies w B 4 v3 (movR d.movs)) := h3
    have k1 : decide (d.room < 0) = false := decide_eq_false (by omega)
    have k2 : decide (1048576 < d.room) = false := decide_eq_false (by omega)
    have k3 : decide (d.next < 1) = false := decide_eq_false (by omega)
    have k4 : decide (1000000 < d.next) = false := decide_eq_false (by omega)
    have hmm := fun t wx => run_makeMap (P := Tryz.prog) t wx
    obtain ⟨A1, c1, e1, _⟩ := nod_look h1
    obtain ⟨A2, c2, e2, _⟩ := lnk_look h2
    obtain ⟨A3, c3, e3, _⟩ := mov_look h3
    clear h1 h2 h3 hf hi hw hB
    subst e1 e2 e3
    go_enter Tryz.func56, Tryz.ntmps56
    go_wp2_with fail
    have kB0 := (((Blk.new w #[.int .i64 d.room, .int .i64 d.next, .slice A1 d.nods.length c1, .slice A2 d.dir.length c2, .slice A3 d.movs.length c3] 35).alloc (.map #[] 0)).alloc (.map #[] 0)).alloc (.cells #[.int .i64 d.room, .int .i64 d.next, .map (some (w.heap.size + 1)), .map (some (w.heap.size + 1 + 1)), .slice none 0 0, .map none] 108)
    have hW0 : Below w.heap.size w ((((w.alloc (.cells #[.int .i64 d.room, .int .i64 d.next, .slice A1 d.nods.length c1, .slice A2 d.dir.length c2, .slice A3 d.movs.length c3] 35)).alloc (.map #[] 0)).alloc (.map #[] 0)).alloc (.cells #[.int .i64 d.room, .int .i64 d.next, .map (some (w.heap.size + 1)), .map (some (w.heap.size + 1 + 1)), .slice none 0 0, .map none] 108)) := ((((Below.refl _ w).alloc (Nat.le_refl _) _).alloc (by simp) _).alloc (by simp; omega) _).alloc (by simp; omega) _
    have kP := Blk.new (((w.alloc (.cells #[.int .i64 d.room, .int .i64 d.next, .slice A1 d.nods.length c1, .slice A2 d.dir.length c2, .slice A3 d.movs.length c3] 35)).alloc (.map #[] 0)).alloc (.map #[] 0)) #[.int .i64 d.room, .int .i64 d.next, .map (some (w.heap.size + 1)), .map (some (w.heap.size + 1 + 1)), .slice none 0 0, .map none] 108
    have hIT : IT ((((w.alloc (.cells #[.int .i64 d.room, .int .i64 d.next, .slice A1 d.nods.length c1, .slice A2 d.dir.length c2, .slice A3 d.movs.length c3] 35)).alloc (.map #[] 0)).alloc (.map #[] 0)).alloc (.cells #[.int .i64 d.room, .int .i64 d.next, .map (some (w.heap.size + 1)), .map (some (w.heap.size + 1 + 1)), .slice none 0 0, .map none] 108)) (w.heap.size + 1) [] := by
      have := IT.made (w.alloc (.cells #[.int .i64 d.room, .int .i64 d.next, .slice A1 d.nods.length c1, .slice A2 d.dir.length c2, .slice A3 d.movs.length c3] 35))
      rw [World.size_alloc] at this
      refine (this.on ((Below.refl _ _).alloc (Nat.le_refl _) (.map #[] 0)) (by simp)).on ((Below.refl _ _).alloc (Nat.le_refl _) _) (by simp)
    have hNT : NT ((((w.alloc (.cells #[.int .i64 d.room, .int .i64 d.next, .slice A1 d.nods.length c1, .slice A2 d.dir.length c2, .slice A3 d.movs.length c3] 35)).alloc (.map #[] 0)).alloc (.map #[] 0)).alloc (.cells #[.int .i64 d.room, .int .i64 d.next, .map (some (w.heap.size + 1)), .map (some (w.heap.size + 1 + 1)), .slice none 0 0, .map none] 108)) (w.heap.size + 1 + 1) [] := by
      have := NT.made ((w.alloc (.cells #[.int .i64 d.room, .int .i64 d.next, .slice A1 d.nods.length c1, .slice A2 d.dir.length c2, .slice A3 d.movs.length c3] 35)).alloc (.map #[] 0))
      simp only [World.size_alloc] at this
      exact this.on ((Below.refl _ _).alloc (Nat.le_refl _) _) (by simp)
    simp only [World.size_alloc] at kP
    have sW0 : ((((w.alloc (.cells #[.int .i64 d.room, .int .i64 d.next, .slice A1 d.nods.length c1, .slice A2 d.dir.length c2, .slice A3 d.movs.length c3] 35)).alloc (.map #[] 0)).alloc (.map #[] 0)).alloc (.cells #[.int .i64 d.room, .int .i64 d.next, .map (some (w.heap.size + 1)), .map (some (w.heap.size + 1 + 1)), .slice none 0 0, .map none] 108)).heap.size = w.heap.size + 1 + 1 + 1 + 1 := by simp
    generalize (((w.alloc (.cells #[.int .i64 d.room, .int .i64 d.next, .slice A1 d.nods.length c1, .slice A2 d.dir.length c2, .slice A3 d.movs.length c3] 35)).alloc (.map #[] 0)).alloc (.map #[] 0)).alloc (.cells #[.int .i64 d.room, .int .i64 d.next, .map (some (w.heap.size + 1)), .map (some (w.heap.size + 1 + 1)), .slice none 0 0, .map none] 108) = W at *
    have B0 : Hid (Below w.heap.size w W) := hW0
    have KP : Hid (Blk W (w.heap.size + 1 + 1 + 1) #[.int .i64 d.room, .int .i64 d.next, .map (some (w.heap.size + 1)), .map (some (w.heap.size + 1 + 1)), .slice none 0 0, .map none] 108) := kP
    have KD : Hid (Blk W w.heap.size #[.int .i64 d.room, .int .i64 d.next, .slice A1 d.nods.length c1, .slice A2 d.dir.length c2, .slice A3 d.movs.length c3] 35) := kB0
    have N0 : Hid (NT W (w.heap.size + 1 + 1) []) := hNT
    have SW : Hid (W.heap.size = w.heap.size + 1 + 1 + 1 + 1) := sW0
    have cI := takeInodesV d.room d.next (.slice A1 d.nods.length c1) (.map (some (w.heap.size + 1 + 1))) (.slice none 0 0) (.map none) (w.heap.size + 1 + 1 + 1) (w.heap.size + 1) B d.nods W kP hIT (H1.out.on (hW0.mono HB.out)) (Nat.le_trans HB.out hW0.size) (by have := HB.out; omega) (by omega) r0 r1 x0 x1 HBY.out HLN.out.1
    have y2 := kB0.cell 2 _ rfl
    clear kB0 hW0 kP hIT hNT sW0 hmm k1 k2 k3 k4
    go_wp2_with fail
    refine cI.mono ?_
    rintro e w1 ⟨rfl, hB1, hT1⟩
    clear cI y2
    have HB1 : Hid (But (fun i => i = w.heap.size + 1) W w1) := hB1
    have BL1 : Hid (Below w.heap.size w w1) := B0.out.trans (hB1.below w.heap.size B0.out.size (fun i hi e => by omega))
    cases ht : takeOk d.room d.next d.nods with
    | false =>
      have HN : Hid (diskOk d = false) := diskOk_not fun h => by rw [take_of_whole h] at ht; cases ht
      clear hT1 hB1
      go_wp2_with fail
      go_ret
      exact ⟨BL1.out, .inl ⟨HN.out, rfl⟩⟩
    | true =>
      obtain ⟨gs, hT⟩ := hT1 ht
      have HT : Hid (takeOk d.room d.next d.nods = true) := ht
      have TK : Hid (Taken W w1 (w.heap.size + 1) d.nods gs) := hT
      have KP1 : Hid (Blk w1 (w.heap.size + 1 + 1 + 1) #[.int .i64 d.room, .int .i64 d.next, .map (some (w.heap.size + 1)), .map (some (w.heap.size + 1 + 1)), .slice none 0 0, .map none] 108) := hB1.blk KP.out (by omega)
      have KD1 : Hid (Blk w1 w.heap.size #[.int .i64 d.room, .int .i64 d.next, .slice A1 d.nods.length c1, .slice A2 d.dir.length c2, .slice A3 d.movs.length c3] 35) := hB1.blk KD.out (by omega)
      have N1 : Hid (NT w1 (w.heap.size + 1 + 1) []) := N0.out.but hB1 (by omega)
      have hl : Hid (gs.length = d.nods.length) := hT.held.len
      have cC := cloneIV w1 (w.heap.size + 1) (prs d.nods gs) hT.it
      have y2 := KP1.out.cell 2 _ rfl
      clear hB1 hT1 hT ht KP KD N0
      go_wp2_with fail
      refine cC.mono ?_
      rintro e w2 ⟨rfl, hI2, hb2⟩
      clear cC y2
      have SZ : Hid (W.heap.size ≤ w1.heap.size) := HB1.out.size
      have KP2 : Hid (Blk w2 (w.heap.size + 1 + 1 + 1) #[.int .i64 d.room, .int .i64 d.next, .map (some (w.heap.size + 1)), .map (some (w.heap.size + 1 + 1)), .slice none 0 0, .map none] 108) := KP1.out.on hb2 KP1.out.lt
      have KD2 : Hid (Blk w2 w.heap.size #[.int .i64 d.room, .int .i64 d.next, .slice A1 d.nods.length c1, .slice A2 d.dir.length c2, .slice A3 d.movs.length c3] 35) := KD1.out.on hb2 KD1.out.lt
      have N2 : Hid (NT w2 (w.heap.size + 1 + 1) []) := N1.out.on hb2 N1.out.lt
      have I2 : Hid (IT w2 (w.heap.size + 1) (prs d.nods gs)) := TK.out.it.on hb2 TK.out.it.lt
      have H2' : Hid (Held w2 d.nods gs) := TK.out.held.on hb2 TK.out.held.lt
      have GL : Hid (∀ g ∈ gs, W.heap.size ≤ g ∧ g < w1.heap.size) := fun g hg => ⟨TK.out.new g hg, TK.out.held.lt g hg⟩
      have GR : Hid (gs.Pairwise (· < ·)) := TK.out.rise
      have M2 : Hid (IT w2 w1.heap.size (prs d.nods gs)) := hI2
      have BL2 : Hid (Below w.heap.size w w2) := BL1.out.trans (hb2.mono BL1.out.size)
      have cD := takeDirV d.room d.next (.slice A2 d.dir.length c2) (.map (some (w.heap.size + 1))) (.slice none 0 0) (.map none) (w.heap.size + 1 + 1 + 1) (w.heap.size + 1 + 1) w1.heap.size B (prs d.nods gs) d.dir w2 KP2.out N2.out hI2 (H2.out.on (BL2.out.mono HB.out)) (Nat.le_trans HB.out BL2.out.size) (by have := HB.out; omega) (by have := HB.out; have := BL1.out.size; omega) (by omega) (by have := SW.out; have := SZ.out; omega) (by have := SW.out; have := SZ.out; omega) HLN.out.2.1 HI.out.l HF.out.lx
      have y3 := KD2.out.cell 3 _ rfl
      clear hI2 hb2 KP1 KD1 N1 TK
      generalize hbn : w1.heap.size = bn at *
      go_wp2_with fail
      refine cD.mono ?_
      rintro e w3 ⟨rfl, hB3, hD3⟩
      clear cD y3
      have HB3 : Hid (But (fun i => i = w.heap.size + 1 + 1 ∨ i = bn ∨ i = w.heap.size + 1 + 1 + 1) w2 w3) := hB3
      have BL3 : Hid (Below w.heap.size w w3) := BL2.out.trans (hB3.below w.heap.size BL2.out.size (fun i hi e => by have := SW.out; have := SZ.out; omega))
      cases hd : dirOk (prs d.nods gs) d.dir with
      | false =>
        have HN : Hid (diskOk d = false) := diskOk_not fun h => by rw [dir_of_whole hl.out h] at hd; cases hd
        clear hD3 hB3
        go_wp2_with fail
        go_ret
        exact ⟨BL3.out, .inl ⟨HN.out, rfl⟩⟩
      | true =>
        obtain ⟨bw, hbw, hP3, hN3, hW3, hM3⟩ := hD3 hd
        have HD : Hid (dirOk (prs d.nods gs) d.dir = true) := hd
        have KD3 : Hid (Blk w3 w.heap.size #[.int .i64 d.room, .int .i64 d.next, .slice A1 d.nods.length c1, .slice A2 d.dir.length c2, .slice A3 d.movs.length c3] 35) := hB3.blk KD2.out (by have := SW.out; have := SZ.out; omega)
        have KP3 : Hid (Blk w3 (w.heap.size + 1 + 1 + 1) #[.int .i64 d.room, .int .i64 d.next, .map (some (w.heap.size + 1)), .map (some (w.heap.size + 1 + 1)), .slice none 0 0, .map (some bw)] 108) := hP3
        have N3 : Hid (NT w3 (w.heap.size + 1 + 1) d.dir) := hN3
        have WN3 : Hid (NT w3 bw d.dir) := hW3
        have M3 : Hid (IT w3 bn (delAll (prs d.nods gs) d.dir)) := hM3
        have I3 : Hid (IT w3 (w.heap.size + 1) (prs d.nods gs)) := I2.out.but hB3 (by have := SW.out; have := SZ.out; omega)
        have H3' : Hid (Held w3 d.nods gs) := H2'.out.but hB3 (fun g hg => by have := GL.out g hg; have := SW.out; omega)
        have HBW : Hid (w2.heap.size ≤ bw) := hbw
        have HBN : Hid (bn < w2.heap.size) := M2.out.lt
        have HDL : Hid (d.dir.length ≤ 100) := by
          have h1 := dir_len hd
          rw [prs_length hl.out] at h1
          have h2 := HT.out
          unfold takeOk at h2
          simp only [Bool.and_eq_true, decide_eq_true_eq] at h2
          unfold Hid
          omega
        have cM := takeMovesV d.room d.next (.slice A3 d.movs.length c3) (.map (some (w.heap.size + 1))) (.map (some (w.heap.size + 1 + 1))) (w.heap.size + 1 + 1 + 1) bw bn B d.dir (delAll (prs d.nods gs) d.dir) d.movs w3 hP3 hW3 hM3 (H3.out.on (BL3.out.mono HB.out)) (Nat.le_trans HB.out BL3.out.size) (by have := HB.out; have := BL2.out.size; omega) (by have := HB.out; have := SW.out; have := SZ.out; omega) (by have := HB.out; omega) (by have := SW.out; have := SZ.out; have := HBN.out; omega) (by have := SW.out; have := SZ.out; omega) (by have := HBN.out; omega) HLN.out.2.2 HDL.out (NamesOk.of_dir hd) HI.out.m HF.out.mx
        have y4 := KD3.out.cell 4 _ rfl
        clear hB3 hD3 hd hP3 hN3 hW3 hM3 hbw KP2 KD2 N2 I2 H2' M2
        go_wp2_with fail
        refine cM.mono ?_
        rintro e w4 ⟨rfl, hB4, hM4⟩
        clear cM y4
        have HB4 : Hid (But (fun i => i = bw ∨ i = bn ∨ i = w.heap.size + 1 + 1 + 1) w3 w4) := hB4
        have BL4 : Hid (Below w.heap.size w w4) := BL3.out.trans (hB4.below w.heap.size BL3.out.size (fun i hi e => by have := SW.out; have := SZ.out; have := HBW.out; have := HBN.out; omega))
        cases hm : mvOk d.dir (delAll (prs d.nods gs) d.dir) d.movs with
        | false =>
          have HN : Hid (diskOk d = false) := diskOk_not fun h => by rw [mov_of_whole hl.out h] at hm; cases hm
          clear hM4 hB4
          go_wp2_with fail
          go_ret
          exact ⟨BL4.out, .inl ⟨HN.out, rfl⟩⟩
        | true =>
          obtain ⟨u, hP4, hO4, hN4, hQ4⟩ := hM4 hm
          have HM : Hid (mvOk d.dir (delAll (prs d.nods gs) d.dir) d.movs = true) := hm
          have r4 := hQ4.len 3
          have OD : Hid (OpenD w4 w.heap.size (w.heap.size + 1 + 1 + 1) d (w.heap.size + 1) (w.heap.size + 1 + 1) bw gs u) := by
            have h1 := SW.out
            have h2 := SZ.out
            have h3 := HBW.out
            have h4 := HBN.out
            refine ⟨hP4, I3.out.but hB4 (by omega), H3'.out.but hB4 (fun g hg => by have := GL.out g hg; omega), GR.out, N3.out.but hB4 (by omega), hN4, hO4.mono BL3.out.size, by omega, by omega, by omega, by omega, by omega, by omega, ⟨by omega, by omega, by omega, by omega⟩, fun g hg => ?_⟩
            have := GL.out g hg
            exact ⟨by omega, by omega, by omega, by omega, by omega⟩
          have LEN : Hid ((delMade (delAll (prs d.nods gs) d.dir) d.movs).length ≤ 1048576) := by
            have h5 := hQ4.tight.size_le
            unfold Hid
            have h6 : (delMade (delAll (prs d.nods gs) d.dir) d.movs).length ≤ (prs d.nods gs).length := by
              refine Nat.le_trans (delMade_len _ _) (delAll_len _ _)
            rw [prs_length hl.out] at h6
            have := HLN.out.1
            omega
          clear hB4 hM4 hP4 hO4 hN4 hQ4 hm
          by_cases h0 : (delMade (delAll (prs d.nods gs) d.dir) d.movs).length = 0
          · have HY : Hid (diskOk d = true) := (whole_iff d).2 (whole_of hl.out HRR.out.1 HRR.out.2.1 HRR.out.2.2.1 HRR.out.2.2.2 HT.out HD.out HM.out h0)
            rw [h0] at r4
            clear h0 LEN
            go_wp2_with fail
            go_ret
            exact ⟨BL4.out, .inr ⟨HY.out, _, _, _, _, _, _, rfl, OD.out⟩⟩
          · have HN : Hid (diskOk d = false) := diskOk_not fun h => h0 (left_of_whole hl.out h)
            have q5 : (0 : Int) < ((delMade (delAll (prs d.nods gs) d.dir) d.movs).length : Int) := by omega
            have q6 : decide ((0 : Int) < ((delMade (delAll (prs d.nods gs) d.dir) d.movs).length : Int)) = true := decide_eq_true q5
            have q7 : ((delMade (delAll (prs d.nods gs) d.dir) d.movs).length : Int) ≤ 1048576 := by have := LEN.out; omega
            clear h0 LEN
            generalize (delMade (delAll (prs d.nods gs) d.dir) d.movs).length = LL at *
            go_wp2_with fail
            go_ret
            exact ⟨BL4.out, .inl ⟨HN.out, rfl⟩⟩
  · have HN : Hid (diskOk d = false) := diskOk_not fun h => hr (by have := (sizeOk_iff d).1 h.size; exact ⟨this.r0, this.r1, this.x0, this.x1⟩)
    refine (opened_no d v w B hv hr).mono ?_
    rintro e w' ⟨rfl, hb⟩
    exact ⟨hb, .inl ⟨HN.out, rfl⟩⟩
end Go.Proofs.YtnnfnhpehacelaaGreat
