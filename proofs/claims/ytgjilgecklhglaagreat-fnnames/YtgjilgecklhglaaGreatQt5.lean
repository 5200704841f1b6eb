/- ImOpen ImChange ImFind ImMoveO DkMakeA ImSyncA DkOk -/
import Derived.Test.YtgjilgecklhglaaGreatRows
import Derived.Test.YtgjilgecklhglaaGreatQt3
import Derived.Test.YtgjilgecklhglaaGreatQt1
import Derived.Test.YtgjilgecklhglaaGreatQt0
import Derived.Deep.RegionWith
import Derived.Test.YtgjilgecklhglaaGreatQt4
import Derived.Deep.RegionHeld3
import Derived.Deep.QuietTactic
import Derived.BigQuiet
open List (setIfInBounds_toArray set_cons_zero set_cons_succ)
namespace Go.Proofs.YtgjilgecklhglaaGreat
open Go.ChangeShapes Go.WideShapes Go.ChangeAt Go.RowKit Go.PlainAid Go.Maps
set_option linter.unusedVariables false
structure IntsOk (d : Dsk) : Prop where
 l : ∀ x ∈ d.dir, IntOk x.id
 m : ∀ x ∈ d.movs, IntOk x.id
theorem bytes_wt (l : List Nod) : bytesOf l ≤ wtN l := by
 induction l with
 | nil => exact Nat.le_refl _
 | cons x r ih =>
  unfold bytesOf wtN wtN1
  omega
theorem delAll_len (l : List (Int × Nat)) (dl : List Lnk) : (delAll l dl).length ≤ l.length := by
 unfold delAll
 induction dl generalizing l with
 | nil => exact Nat.le_refl _
 | cons x r ih => exact Nat.le_trans (ih _) (List.length_filter_le _ _)
theorem delMade_len (l : List (Int × Nat)) (ml : List Mov) : (delMade l ml).length ≤ l.length := by
 unfold delMade
 induction ml generalizing l with
 | nil => exact Nat.le_refl _
 | cons x r ih =>
  refine Nat.le_trans (ih _) ?_
  show (if x.kind = 1 then ptrDel l x.id else l).length ≤ l.length
  split
  ·exact List.length_filter_le _ _
  ·exact Nat.le_refl _
structure OpenD (w : World) (base p : Nat) (d : Dsk) (bi bd bw : Nat) (gs : List Nat) (u : Value) : Prop where
 blk : Blk w p #[.int .i64 d.room, .int .i64 d.next, .map (some bi), .map (some bd), u, .map (some bw)] 86
 it : IT w bi (prs d.nods gs)
 held : Held w d.nods gs
 rise : gs.Pairwise (· < ·)
 nd : NT w bd d.dir
 nw : NT w bw (now d)
 mv : Owns w base 51 4 u (movR d.movs)
 pi : p ≠ bi
 pd : p ≠ bd
 pw : p ≠ bw
 id : bi ≠ bd
 iw : bi ≠ bw
 dw : bd ≠ bw
 lo : base ≤ p ∧ base ≤ bi ∧ base ≤ bd ∧ base ≤ bw
 gl : ∀ g ∈ gs, base ≤ g ∧ g ≠ p ∧ g ≠ bi ∧ g ≠ bd ∧ g ≠ bw
theorem OpenD.on {w w' : World} {base p : Nat} {d : Dsk} {bi bd bw : Nat} {gs : List Nat} {u : Value} (h : OpenD w base p d bi bd bw gs u) (hb : Below w.heap.size w w') : OpenD w' base p d bi bd bw gs u :=
 ⟨h.blk.on hb h.blk.lt, h.it.on hb h.it.lt, h.held.on hb h.held.lt, h.rise, h.nd.on hb h.nd.lt, h.nw.on hb h.nw.lt, h.mv.on hb, h.pi, h.pd, h.pw, h.id, h.iw, h.dw, h.lo, h.gl⟩
set_option maxRecDepth 20000 in
set_option maxHeartbeats 1000000 in
theorem opened_no (d : Dsk) (v : Value) (w : World) (B : Nat) (hv : DiskV w B v d) (h : ¬ (0 ≤ d.room ∧ d.room ≤ 1048576 ∧ 1 ≤ d.next ∧ d.next ≤ 1000000)) :
  Calls Tryz.prog 46 #[v] w fun e w' => e = .returned (.pointer none) ∧ Below w.heap.size w w' := by
 obtain ⟨v1, v2, v3, rfl, h1, h2, h3⟩ := hv
 clear h1 h2 h3
 by_cases c1 : d.room < 0
 ·have k1 : decide (d.room < 0) = true := decide_eq_true c1
  clear h
  go_enter Tryz.func46, Tryz.ntmps46
  go_wp2_with fail
  go_ret
  exact ⟨rfl, (Below.refl _ _).alloc (Nat.le_refl _) _⟩
 ·have k1 : decide (d.room < 0) = false := decide_eq_false c1
  by_cases c2 : 1048576 < d.room
  ·have k2 : decide (1048576 < d.room) = true := decide_eq_true c2
   clear h
   go_enter Tryz.func46, Tryz.ntmps46
   go_wp2_with fail
   go_ret
   exact ⟨rfl, (Below.refl _ _).alloc (Nat.le_refl _) _⟩
  ·have k2 : decide (1048576 < d.room) = false := decide_eq_false c2
   by_cases c3 : d.next < 1
   ·have k3 : decide (d.next < 1) = true := decide_eq_true c3
    clear h
    go_enter Tryz.func46, Tryz.ntmps46
    go_wp2_with fail
    go_ret
    exact ⟨rfl, (Below.refl _ _).alloc (Nat.le_refl _) _⟩
   ·have k3 : decide (d.next < 1) = false := decide_eq_false c3
    have c4 : 1000000 < d.next := by omega
    have k4 : decide (1000000 < d.next) = true := decide_eq_true c4
    clear h
    go_enter Tryz.func46, Tryz.ntmps46
    go_wp2_with fail
    go_ret
    exact ⟨rfl, (Below.refl _ _).alloc (Nat.le_refl _) _⟩
set_option maxRecDepth 20000 in
set_option maxHeartbeats 4000000 in
theorem openedV (d : Dsk) (v : Value) (w : World) (B : Nat) (hv : DiskV w B v d) (hf : Fits d) (hi : IntsOk d) (hw : wtD d ≤ 1048576) (hB : B ≤ w.heap.size) :
  Calls Tryz.prog 46 #[v] w fun e w' => Below w.heap.size w w' ∧ ((diskOk d = false ∧ e = .returned (.pointer none)) ∨ (diskOk d = true ∧ ∃ p bi bd bw gs u, e = .returned (.pointer (some ⟨p, 0, none⟩)) ∧ OpenD w' w.heap.size p d bi bd bw gs u)) := by
 by_cases hr : 0 ≤ d.room ∧ d.room ≤ 1048576 ∧ 1 ≤ d.next ∧ d.next ≤ 1000000
 ·have HF : Hid (Fits d) := hf
  have HI : Hid (IntsOk d) := hi
  have HV : Hid (DiskV w B v d) := hv
  have HB : Hid (B ≤ w.heap.size) := hB
  have HBY : Hid (bytesOf d.nods ≤ 4194304) := by
   have := bytes_wt d.nods
   unfold wtD at hw
   unfold Hid
   omega
  have HLN : Hid (d.nods.length ≤ 1048576 ∧ d.dir.length ≤ 1048576 ∧ d.movs.length ≤ 1048576) := by
   unfold wtD at hw
   unfold Hid
   omega
  obtain ⟨r0, r1, x0, x1⟩ := hr
  have HRR : Hid (0 ≤ d.room ∧ d.room ≤ 1048576 ∧ 1 ≤ d.next ∧ d.next ≤ 1000000) := ⟨r0, r1, x0, x1⟩
  obtain ⟨v1, v2, v3, rfl, h1, h2, h3⟩ := hv
  have H1 : Hid (Lies w B 3 v1 (nodR d.nods)) := h1
  have H2 : Hid (Lies w B 2 v2 (lnkR d.dir)) := h2
  have H3 : Hid (Lies w B 4 v3 (movR d.movs)) := h3
  have k1 : decide (d.room < 0) = false := decide_eq_false (by omega)
  have k2 : decide (1048576 < d.room) = false := decide_eq_false (by omega)
  have k3 : decide (d.next < 1) = false := decide_eq_false (by omega)
  have k4 : decide (1000000 < d.next) = false := decide_eq_false (by omega)
  have hmm := fun t wx => run_makeMap (P := Tryz.prog) t wx
  obtain ⟨A1, c1, e1, _⟩ := nod_look h1
  obtain ⟨A2, c2, e2, _⟩ := lnk_look h2
  obtain ⟨A3, c3, e3, _⟩ := mov_look h3
  clear h1 h2 h3 hf hi hw hB
  subst e1 e2 e3
  go_enter Tryz.func46, Tryz.ntmps46
  go_wp2_with fail
  have kB0 := (((Blk.new w #[.int .i64 d.room, .int .i64 d.next, .slice A1 d.nods.length c1, .slice A2 d.dir.length c2, .slice A3 d.movs.length c3] 28).alloc (.map #[] 0)).alloc (.map #[] 0)).alloc (.cells #[.int .i64 d.room, .int .i64 d.next, .map (some (w.heap.size + 1)), .map (some (w.heap.size + 1 + 1)), .slice none 0 0, .map none] 86)
  have hW0 : Below w.heap.size w ((((w.alloc (.cells #[.int .i64 d.room, .int .i64 d.next, .slice A1 d.nods.length c1, .slice A2 d.dir.length c2, .slice A3 d.movs.length c3] 28)).alloc (.map #[] 0)).alloc (.map #[] 0)).alloc (.cells #[.int .i64 d.room, .int .i64 d.next, .map (some (w.heap.size + 1)), .map (some (w.heap.size + 1 + 1)), .slice none 0 0, .map none] 86)) := ((((Below.refl _ w).alloc (Nat.le_refl _) _).alloc (by simp) _).alloc (by simp; omega) _).alloc (by simp; omega) _
  have kP := Blk.new (((w.alloc (.cells #[.int .i64 d.room, .int .i64 d.next, .slice A1 d.nods.length c1, .slice A2 d.dir.length c2, .slice A3 d.movs.length c3] 28)).alloc (.map #[] 0)).alloc (.map #[] 0)) #[.int .i64 d.room, .int .i64 d.next, .map (some (w.heap.size + 1)), .map (some (w.heap.size + 1 + 1)), .slice none 0 0, .map none] 86
  have hIT : IT ((((w.alloc (.cells #[.int .i64 d.room, .int .i64 d.next, .slice A1 d.nods.length c1, .slice A2 d.dir.length c2, .slice A3 d.movs.length c3] 28)).alloc (.map #[] 0)).alloc (.map #[] 0)).alloc (.cells #[.int .i64 d.room, .int .i64 d.next, .map (some (w.heap.size + 1)), .map (some (w.heap.size + 1 + 1)), .slice none 0 0, .map none] 86)) (w.heap.size + 1) [] := by
   have := IT.made (w.alloc (.cells #[.int .i64 d.room, .int .i64 d.next, .slice A1 d.nods.length c1, .slice A2 d.dir.length c2, .slice A3 d.movs.length c3] 28))
   rw [World.size_alloc] at this
   refine (this.on ((Below.refl _ _).alloc (Nat.le_refl _) (.map #[] 0)) (by simp)).on ((Below.refl _ _).alloc (Nat.le_refl _) _) (by simp)
  have hNT : NT ((((w.alloc (.cells #[.int .i64 d.room, .int .i64 d.next, .slice A1 d.nods.length c1, .slice A2 d.dir.length c2, .slice A3 d.movs.length c3] 28)).alloc (.map #[] 0)).alloc (.map #[] 0)).alloc (.cells #[.int .i64 d.room, .int .i64 d.next, .map (some (w.heap.size + 1)), .map (some (w.heap.size + 1 + 1)), .slice none 0 0, .map none] 86)) (w.heap.size + 1 + 1) [] := by
   have := NT.made ((w.alloc (.cells #[.int .i64 d.room, .int .i64 d.next, .slice A1 d.nods.length c1, .slice A2 d.dir.length c2, .slice A3 d.movs.length c3] 28)).alloc (.map #[] 0))
   simp only [World.size_alloc] at this
   exact this.on ((Below.refl _ _).alloc (Nat.le_refl _) _) (by simp)
  simp only [World.size_alloc] at kP
  have sW0 : ((((w.alloc (.cells #[.int .i64 d.room, .int .i64 d.next, .slice A1 d.nods.length c1, .slice A2 d.dir.length c2, .slice A3 d.movs.length c3] 28)).alloc (.map #[] 0)).alloc (.map #[] 0)).alloc (.cells #[.int .i64 d.room, .int .i64 d.next, .map (some (w.heap.size + 1)), .map (some (w.heap.size + 1 + 1)), .slice none 0 0, .map none] 86)).heap.size = w.heap.size + 1 + 1 + 1 + 1 := by simp
  generalize (((w.alloc (.cells #[.int .i64 d.room, .int .i64 d.next, .slice A1 d.nods.length c1, .slice A2 d.dir.length c2, .slice A3 d.movs.length c3] 28)).alloc (.map #[] 0)).alloc (.map #[] 0)).alloc (.cells #[.int .i64 d.room, .int .i64 d.next, .map (some (w.heap.size + 1)), .map (some (w.heap.size + 1 + 1)), .slice none 0 0, .map none] 86) = W at *
  have B0 : Hid (Below w.heap.size w W) := hW0
  have KP : Hid (Blk W (w.heap.size + 1 + 1 + 1) #[.int .i64 d.room, .int .i64 d.next, .map (some (w.heap.size + 1)), .map (some (w.heap.size + 1 + 1)), .slice none 0 0, .map none] 86) := kP
  have KD : Hid (Blk W w.heap.size #[.int .i64 d.room, .int .i64 d.next, .slice A1 d.nods.length c1, .slice A2 d.dir.length c2, .slice A3 d.movs.length c3] 28) := kB0
  have N0 : Hid (NT W (w.heap.size + 1 + 1) []) := hNT
  have SW : Hid (W.heap.size = w.heap.size + 1 + 1 + 1 + 1) := sW0
  have cI := takeInodesV d.room d.next (.slice A1 d.nods.length c1) (.map (some (w.heap.size + 1 + 1))) (.slice none 0 0) (.map none) (w.heap.size + 1 + 1 + 1) (w.heap.size + 1) B d.nods W kP hIT (H1.out.on (hW0.mono HB.out)) (Nat.le_trans HB.out hW0.size) (by have := HB.out; omega) (by omega) r0 r1 x0 x1 HBY.out HLN.out.1
  have y2 := kB0.cell 2 _ rfl
  clear kB0 hW0 kP hIT hNT sW0 hmm k1 k2 k3 k4
  go_wp2_with fail
  refine cI.mono ?_
  rintro e w1 ⟨rfl, hB1, hT1⟩
  clear cI y2
  have HB1 : Hid (But (fun i => i = w.heap.size + 1) W w1) := hB1
  have BL1 : Hid (Below w.heap.size w w1) := B0.out.trans (hB1.below w.heap.size B0.out.size (fun i hi e => by omega))
  cases ht : takeOk d.room d.next d.nods with
  | false =>
   have HN : Hid (diskOk d = false) := diskOk_not fun h => by rw [take_of_whole h] at ht; cases ht
   clear hT1 hB1
   go_wp2_with fail
   go_ret
   exact ⟨BL1.out, .inl ⟨HN.out, rfl⟩⟩
  | true =>
   obtain ⟨gs, hT⟩ := hT1 ht
   have HT : Hid (takeOk d.room d.next d.nods = true) := ht
   have TK : Hid (Taken W w1 (w.heap.size + 1) d.nods gs) := hT
   have KP1 : Hid (Blk w1 (w.heap.size + 1 + 1 + 1) #[.int .i64 d.room, .int .i64 d.next, .map (some (w.heap.size + 1)), .map (some (w.heap.size + 1 + 1)), .slice none 0 0, .map none] 86) := hB1.blk KP.out (by omega)
   have KD1 : Hid (Blk w1 w.heap.size #[.int .i64 d.room, .int .i64 d.next, .slice A1 d.nods.length c1, .slice A2 d.dir.length c2, .slice A3 d.movs.length c3] 28) := hB1.blk KD.out (by omega)
   have N1 : Hid (NT w1 (w.heap.size + 1 + 1) []) := N0.out.but hB1 (by omega)
   have hl : Hid (gs.length = d.nods.length) := hT.held.len
   have cC := cloneIV w1 (w.heap.size + 1) (prs d.nods gs) hT.it
   have y2 := KP1.out.cell 2 _ rfl
   clear hB1 hT1 hT ht KP KD N0
   go_wp2_with fail
   refine cC.mono ?_
   rintro e w2 ⟨rfl, hI2, hb2⟩
   clear cC y2
   have SZ : Hid (W.heap.size ≤ w1.heap.size) := HB1.out.size
   have KP2 : Hid (Blk w2 (w.heap.size + 1 + 1 + 1) #[.int .i64 d.room, .int .i64 d.next, .map (some (w.heap.size + 1)), .map (some (w.heap.size + 1 + 1)), .slice none 0 0, .map none] 86) := KP1.out.on hb2 KP1.out.lt
   have KD2 : Hid (Blk w2 w.heap.size #[.int .i64 d.room, .int .i64 d.next, .slice A1 d.nods.length c1, .slice A2 d.dir.length c2, .slice A3 d.movs.length c3] 28) := KD1.out.on hb2 KD1.out.lt
   have N2 : Hid (NT w2 (w.heap.size + 1 + 1) []) := N1.out.on hb2 N1.out.lt
   have I2 : Hid (IT w2 (w.heap.size + 1) (prs d.nods gs)) := TK.out.it.on hb2 TK.out.it.lt
   have H2' : Hid (Held w2 d.nods gs) := TK.out.held.on hb2 TK.out.held.lt
   have GL : Hid (∀ g ∈ gs, W.heap.size ≤ g ∧ g < w1.heap.size) := fun g hg => ⟨TK.out.new g hg, TK.out.held.lt g hg⟩
   have GR : Hid (gs.Pairwise (· < ·)) := TK.out.rise
   have M2 : Hid (IT w2 w1.heap.size (prs d.nods gs)) := hI2
   have BL2 : Hid (Below w.heap.size w w2) := BL1.out.trans (hb2.mono BL1.out.size)
   have cD := takeDirV d.room d.next (.slice A2 d.dir.length c2) (.map (some (w.heap.size + 1))) (.slice none 0 0) (.map none) (w.heap.size + 1 + 1 + 1) (w.heap.size + 1 + 1) w1.heap.size B (prs d.nods gs) d.dir w2 KP2.out N2.out hI2 (H2.out.on (BL2.out.mono HB.out)) (Nat.le_trans HB.out BL2.out.size) (by have := HB.out; omega) (by have := HB.out; have := BL1.out.size; omega) (by omega) (by have := SW.out; have := SZ.out; omega) (by have := SW.out; have := SZ.out; omega) HLN.out.2.1 HI.out.l HF.out.lx
   have y3 := KD2.out.cell 3 _ rfl
   clear hI2 hb2 KP1 KD1 N1 TK
   generalize hbn : w1.heap.size = bn at *
   go_wp2_with fail
   refine cD.mono ?_
   rintro e w3 ⟨rfl, hB3, hD3⟩
   clear cD y3
   have HB3 : Hid (But (fun i => i = w.heap.size + 1 + 1 ∨ i = bn ∨ i = w.heap.size + 1 + 1 + 1) w2 w3) := hB3
   have BL3 : Hid (Below w.heap.size w w3) := BL2.out.trans (hB3.below w.heap.size BL2.out.size (fun i hi e => by have := SW.out; have := SZ.out; omega))
   cases hd : dirOk (prs d.nods gs) d.dir with
   | false =>
    have HN : Hid (diskOk d = false) := diskOk_not fun h => by rw [dir_of_whole hl.out h] at hd; cases hd
    clear hD3 hB3
    go_wp2_with fail
    go_ret
    exact ⟨BL3.out, .inl ⟨HN.out, rfl⟩⟩
   | true =>
    obtain ⟨bw, hbw, hP3, hN3, hW3, hM3⟩ := hD3 hd
    have HD : Hid (dirOk (prs d.nods gs) d.dir = true) := hd
    have KD3 : Hid (Blk w3 w.heap.size #[.int .i64 d.room, .int .i64 d.next, .slice A1 d.nods.length c1, .slice A2 d.dir.length c2, .slice A3 d.movs.length c3] 28) := hB3.blk KD2.out (by have := SW.out; have := SZ.out; omega)
    have KP3 : Hid (Blk w3 (w.heap.size + 1 + 1 + 1) #[.int .i64 d.room, .int .i64 d.next, .map (some (w.heap.size + 1)), .map (some (w.heap.size + 1 + 1)), .slice none 0 0, .map (some bw)] 86) := hP3
    have N3 : Hid (NT w3 (w.heap.size + 1 + 1) d.dir) := hN3
    have WN3 : Hid (NT w3 bw d.dir) := hW3
    have M3 : Hid (IT w3 bn (delAll (prs d.nods gs) d.dir)) := hM3
    have I3 : Hid (IT w3 (w.heap.size + 1) (prs d.nods gs)) := I2.out.but hB3 (by have := SW.out; have := SZ.out; omega)
    have H3' : Hid (Held w3 d.nods gs) := H2'.out.but hB3 (fun g hg => by have := GL.out g hg; have := SW.out; omega)
    have HBW : Hid (w2.heap.size ≤ bw) := hbw
    have HBN : Hid (bn < w2.heap.size) := M2.out.lt
    have HDL : Hid (d.dir.length ≤ 100) := by
     have h1 := dir_len hd
     rw [prs_length hl.out] at h1
     have h2 := HT.out
     unfold takeOk at h2
     simp only [Bool.and_eq_true, decide_eq_true_eq] at h2
     unfold Hid
     omega
    have cM := takeMovesV d.room d.next (.slice A3 d.movs.length c3) (.map (some (w.heap.size + 1))) (.map (some (w.heap.size + 1 + 1))) (w.heap.size + 1 + 1 + 1) bw bn B d.dir (delAll (prs d.nods gs) d.dir) d.movs w3 hP3 hW3 hM3 (H3.out.on (BL3.out.mono HB.out)) (Nat.le_trans HB.out BL3.out.size) (by have := HB.out; have := BL2.out.size; omega) (by have := HB.out; have := SW.out; have := SZ.out; omega) (by have := HB.out; omega) (by have := SW.out; have := SZ.out; have := HBN.out; omega) (by have := SW.out; have := SZ.out; omega) (by have := HBN.out; omega) HLN.out.2.2 HDL.out (NamesOk.of_dir hd) HI.out.m HF.out.mx
    have y4 := KD3.out.cell 4 _ rfl
    clear hB3 hD3 hd hP3 hN3 hW3 hM3 hbw KP2 KD2 N2 I2 H2' M2
    go_wp2_with fail
    refine cM.mono ?_
    rintro e w4 ⟨rfl, hB4, hM4⟩
    clear cM y4
    have HB4 : Hid (But (fun i => i = bw ∨ i = bn ∨ i = w.heap.size + 1 + 1 + 1) w3 w4) := hB4
    have BL4 : Hid (Below w.heap.size w w4) := BL3.out.trans (hB4.below w.heap.size BL3.out.size (fun i hi e => by have := SW.out; have := SZ.out; have := HBW.out; have := HBN.out; omega))
    cases hm : mvOk d.dir (delAll (prs d.nods gs) d.dir) d.movs with
    | false =>
     have HN : Hid (diskOk d = false) := diskOk_not fun h => by rw [mov_of_whole hl.out h] at hm; cases hm
     clear hM4 hB4
     go_wp2_with fail
     go_ret
     exact ⟨BL4.out, .inl ⟨HN.out, rfl⟩⟩
    | true =>
     obtain ⟨u, hP4, hO4, hN4, hQ4⟩ := hM4 hm
     have HM : Hid (mvOk d.dir (delAll (prs d.nods gs) d.dir) d.movs = true) := hm
     have r4 := hQ4.len 3
     have OD : Hid (OpenD w4 w.heap.size (w.heap.size + 1 + 1 + 1) d (w.heap.size + 1) (w.heap.size + 1 + 1) bw gs u) := by
      have h1 := SW.out
      have h2 := SZ.out
      have h3 := HBW.out
      have h4 := HBN.out
      refine ⟨hP4, I3.out.but hB4 (by omega), H3'.out.but hB4 (fun g hg => by have := GL.out g hg; omega), GR.out, N3.out.but hB4 (by omega), hN4, hO4.mono BL3.out.size, by omega, by omega, by omega, by omega, by omega, by omega, ⟨by omega, by omega, by omega, by omega⟩, fun g hg => ?_⟩
      have := GL.out g hg
      exact ⟨by omega, by omega, by omega, by omega, by omega⟩
     have LEN : Hid ((delMade (delAll (prs d.nods gs) d.dir) d.movs).length ≤ 1048576) := by
      have h5 := hQ4.tight.size_le
      unfold Hid
      have h6 : (delMade (delAll (prs d.nods gs) d.dir) d.movs).length ≤ (prs d.nods gs).length := by
       refine Nat.le_trans (delMade_len _ _) (delAll_len _ _)
      rw [prs_length hl.out] at h6
      have := HLN.out.1
      omega
     clear hB4 hM4 hP4 hO4 hN4 hQ4 hm
     by_cases h0 : (delMade (delAll (prs d.nods gs) d.dir) d.movs).length = 0
     ·have HY : Hid (diskOk d = true) := (whole_iff d).2 (whole_of hl.out HRR.out.1 HRR.out.2.1 HRR.out.2.2.1 HRR.out.2.2.2 HT.out HD.out HM.out h0)
      rw [h0] at r4
      clear h0 LEN
      go_wp2_with fail
      go_ret
      exact ⟨BL4.out, .inr ⟨HY.out, _, _, _, _, _, _, rfl, OD.out⟩⟩
     ·have HN : Hid (diskOk d = false) := diskOk_not fun h => h0 (left_of_whole hl.out h)
      have q5 : (0 : Int) < ((delMade (delAll (prs d.nods gs) d.dir) d.movs).length : Int) := by omega
      have q6 : decide ((0 : Int) < ((delMade (delAll (prs d.nods gs) d.dir) d.movs).length : Int)) = true := decide_eq_true q5
      have q7 : ((delMade (delAll (prs d.nods gs) d.dir) d.movs).length : Int) ≤ 1048576 := by have := LEN.out; omega
      clear h0 LEN
      generalize (delMade (delAll (prs d.nods gs) d.dir) d.movs).length = LL at *
      go_wp2_with fail
      go_ret
      exact ⟨BL4.out, .inl ⟨HN.out, rfl⟩⟩
 ·have HN : Hid (diskOk d = false) := diskOk_not fun h => hr (by have := (sizeOk_iff d).1 h.size; exact ⟨this.r0, this.r1, this.x0, this.x1⟩)
  refine (opened_no d v w B hv hr).mono ?_
  rintro e w' ⟨rfl, hb⟩
  exact ⟨hb, .inl ⟨HN.out, rfl⟩⟩
end Go.Proofs.YtgjilgecklhglaaGreat
namespace Go.Proofs.YtgjilgecklhglaaGreat
open Go.ChangeShapes Go.WideShapes Go.ChangeAt Go.RowKit Go.PlainAid
set_option linter.unusedVariables false
structure Tellable (w : World) (p : Nat) (d : Dsk) : Prop where
 ex : ∃ bi bd gs u vw, Blk w p #[.int .i64 d.room, .int .i64 d.next, .map (some bi), .map (some bd), u, vw] 86 ∧ IT w bi (prs d.nods gs) ∧ Held w d.nods gs ∧ NT w bd d.dir ∧ Lies w w.heap.size 4 u (movR d.movs)
 rise : Rising d.nods
 sorted : Sorted d.dir
 ok : NamesOk d.dir
 n1 : d.nods.length ≤ 1000
 n2 : d.dir.length ≤ 1000
 n3 : d.movs.length ≤ 1000
 nx : ∀ x ∈ d.nods, IntOk x.id ∧ x.data.size ≤ 281474976710656
 mx : ∀ x ∈ d.movs, x.name.size ≤ 281474976710656 ∧ x.to.size ≤ 281474976710656
theorem tellV {w : World} {p : Nat} {d : Dsk} (h : Tellable w p d) : Calls Tryz.prog 50 #[.pointer (some ⟨p, 0, none⟩)] w fun e w' => ∃ v, e = .returned v ∧ DiskO w' w.heap.size v d ∧ Below w.heap.size w w' := by
 obtain ⟨bi, bd, gs, u, vw, h1, h2, h3, h4, h5⟩ := h.ex
 exact toldO d.room d.next vw p bi bd d.nods gs d.dir d.movs u w h1 h2 h3 h.rise h4 h.sorted h.ok h5 h.n1 h.n2 h.n3 h.nx h.mx
theorem wt_data {l : List Nod} : ∀ x ∈ l, x.data.size ≤ wtN l := by
 induction l with
 | nil => intro x hx; cases hx
 | cons y r ih =>
  intro x hx
  unfold wtN wtN1
  rcases List.mem_cons.1 hx with rfl | hx
  ·omega
  ·have := ih x hx
   omega
theorem wt_movs {l : List Mov} : ∀ x ∈ l, x.name.size + x.to.size ≤ wtM l := by
 induction l with
 | nil => intro x hx; cases hx
 | cons y r ih =>
  intro x hx
  unfold wtM wtM1
  rcases List.mem_cons.1 hx with rfl | hx
  ·omega
  ·have := ih x hx
   omega
theorem whole_rising {d : Dsk} (hd : Whole d) : Rising d.nods := by
 have h := take_of_whole hd
 unfold takeOk at h
 simp only [Bool.and_eq_true] at h
 have := (take_rising (Nat.le_refl _) (all_of h.1.2)).1
 rw [List.take_length] at this
 exact this
theorem OpenD.tell {w : World} {base p : Nat} {d : Dsk} {bi bd bw : Nat} {gs : List Nat} {u : Value} (h : OpenD w base p d bi bd bw gs u) (hd : Whole d) (hw : wtD d ≤ 1048576) : Tellable w p d := by
 have hR := (sizeOk_iff d).1 hd.size
 have hl := dir_linked hd
 refine ⟨⟨bi, bd, gs, u, _, h.blk, h.it, h.held, h.nd, h.mv.lies⟩, whole_rising hd, hl.sorted, hl.ok, by have := hR.n; omega, by have := hR.l; omega, by have := hR.m; omega, fun x hx => ?_, fun x hx => ?_⟩
 ·have h1 := nod_ids hd x hx
  have h2 := wt_data x hx
  unfold wtD at hw
  exact ⟨⟨by omega, by omega⟩, by omega⟩
 ·have h2 := wt_movs x hx
  unfold wtD at hw
  exact ⟨by omega, by omega⟩
def zeroD : Dsk := ⟨0, 0, [], [], []⟩
set_option maxRecDepth 20000 in
set_option maxHeartbeats 2000000 in
theorem changedV (d : Dsk) (v : Value) (w : World) (B : Nat) (hv : DiskV w B v d) (hf : Fits d) (hi : IntsOk d) (hw : wtD d ≤ 1048576) (hB : B ≤ w.heap.size) (F : Nat) (caps : Array Value) (R : Dsk) (c : Int)
  (hF : ∀ args w, (callFunc F args).run Tryz.prog w = .ok (.enter F args) w)
  (hC : ∀ w1 base p bi bd bw gs u, Whole d → Below w.heap.size w w1 → w.heap.size ≤ base → base ≤ w1.heap.size → OpenD w1 base p d bi bd bw gs u → Calls Tryz.prog F (#[.pointer (some ⟨p, 0, none⟩)] ++ caps) w1 fun e w2 => e = .returned (.int .i64 c) ∧ Tellable w2 p R ∧ Below base w1 w2) :
  Calls Tryz.prog 38 #[v, .func (.func F) #[] caps] w fun e w' => ∃ x y, e = .returned (.tuple #[x, .int .i64 y]) ∧ ((diskOk d = true ∧ y = c ∧ DiskO w' w.heap.size x R) ∨ (diskOk d = false ∧ y = 1 ∧ DiskO w' w.heap.size x zeroD)) ∧ Below w.heap.size w w' := by
 have HV : Hid (DiskV w B v d) := hv
 have HB : Hid (B ≤ w.heap.size) := hB
 have HC : Hid (∀ w1 base p bi bd bw gs u, Whole d → Below w.heap.size w w1 → w.heap.size ≤ base → base ≤ w1.heap.size → OpenD w1 base p d bi bd bw gs u → Calls Tryz.prog F (#[.pointer (some ⟨p, 0, none⟩)] ++ caps) w1 fun e w2 => e = .returned (.int .i64 c) ∧ Tellable w2 p R ∧ Below base w1 w2) := hC
 obtain ⟨v1, v2, v3, rfl, h1, h2, h3⟩ := hv
 have cO := fun wx hx hb => openedV d (.agg #[.int .i64 d.room, .int .i64 d.next, v1, v2, v3]) wx B hx hf hi hw hb
 clear h1 h2 h3 hB hf hi hw hC
 go_enter Tryz.func38, Tryz.ntmps38
 go_wp2_with fail
 have hb0 := below_alloc2' w (.cells #[.int .i64 d.room, .int .i64 d.next, v1, v2, v3] 28) (.cells #[.int .i64 0, .int .i64 0, .slice none 0 0, .slice none 0 0, .slice none 0 0] 28)
 have bR := Blk.new (w.alloc (.cells #[.int .i64 d.room, .int .i64 d.next, v1, v2, v3] 28)) #[.int .i64 0, .int .i64 0, .slice none 0 0, .slice none 0 0, .slice none 0 0] 28
 have hsz : ((w.alloc (.cells #[.int .i64 d.room, .int .i64 d.next, v1, v2, v3] 28)).alloc (.cells #[.int .i64 0, .int .i64 0, .slice none 0 0, .slice none 0 0, .slice none 0 0] 28)).heap.size = w.heap.size + 1 + 1 := by simp
 simp only [World.size_alloc] at bR
 generalize (w.alloc (.cells #[.int .i64 d.room, .int .i64 d.next, v1, v2, v3] 28)).alloc (.cells #[.int .i64 0, .int .i64 0, .slice none 0 0, .slice none 0 0, .slice none 0 0] 28) = W at *
 have B0 : Hid (Below w.heap.size w W) := hb0
 have R0 : Hid (Blk W (w.heap.size + 1) #[.int .i64 0, .int .i64 0, .slice none 0 0, .slice none 0 0, .slice none 0 0] 28) := bR
 have SZ : Hid (W.heap.size = w.heap.size + 1 + 1) := hsz
 clear hb0 bR hsz
 refine (cO W (HV.out.on (B0.out.mono HB.out)) (Nat.le_trans HB.out B0.out.size)).mono ?_
 rintro e w1 ⟨hb, h⟩
 have B1 : Hid (Below w.heap.size w w1) := B0.out.trans (hb.mono B0.out.size)
 have R1 : Hid (Blk w1 (w.heap.size + 1) #[.int .i64 0, .int .i64 0, .slice none 0 0, .slice none 0 0, .slice none 0 0] 28) := R0.out.on hb R0.out.lt
 have Z1 : Hid (W.heap.size ≤ w1.heap.size) := hb.size
 clear hb cO
 rcases h with ⟨hn, rfl⟩ | ⟨hy, p, bi, bd, bw, gs, u, rfl, hO⟩
 ·have HN : Hid (diskOk d = false) := hn
  clear hn
  have g0 := R1.out.cell 0 _ rfl
  have f0 := R1.out.free 0
  have g1 := R1.out.cell 1 _ rfl
  have f1 := R1.out.free 1
  have g2 := R1.out.cell 2 _ rfl
  have f2 := R1.out.free 2
  have g3 := R1.out.cell 3 _ rfl
  have f3 := R1.out.free 3
  have g4 := R1.out.cell 4 _ rfl
  have f4 := R1.out.free 4
  go_wp2_with fail
  have hg : w.heap.size ≤ w.heap.size + 1 := by omega
  have hB := B1.out
  have FB := (((((hB.setCell hg (.int .i64 0) (p := ⟨_, 0, none⟩)).setCell hg (.int .i64 0) (p := ⟨_, 1, none⟩)).setCell hg (.slice none 0 0) (p := ⟨_, 2, none⟩)).setCell hg (.slice none 0 0) (p := ⟨_, 3, none⟩)).setCell hg (.slice none 0 0) (p := ⟨_, 4, none⟩))
  have hF := (((((R1.out.set 0 (.int .i64 0)).set 1 (.int .i64 0)).set 2 (.slice none 0 0)).set 3 (.slice none 0 0)).set 4 (.slice none 0 0))
  clear g0 f0 g1 f1 g2 f2 g3 f3 g4 f4
  generalize (((((w1.setCell ⟨w.heap.size + 1, 0, none⟩ (.int .i64 0)).setCell ⟨w.heap.size + 1, 1, none⟩ (.int .i64 0)).setCell ⟨w.heap.size + 1, 2, none⟩ (.slice none 0 0)).setCell ⟨w.heap.size + 1, 3, none⟩ (.slice none 0 0)).setCell ⟨w.heap.size + 1, 4, none⟩ (.slice none 0 0)) = WF at *
  have hG : Blk WF (w.heap.size + 1) #[.int .i64 0, .int .i64 0, .slice none 0 0, .slice none 0 0, .slice none 0 0] 28 := hF
  have l0 := hG.cell 0 (.int .i64 0) rfl
  have l1 := hG.cell 1 (.int .i64 0) rfl
  have l2 := hG.cell 2 (.slice none 0 0) rfl
  have l3 := hG.cell 3 (.slice none 0 0) rfl
  have l4 := hG.cell 4 (.slice none 0 0) rfl
  exact bodyPost_ret (v := .tuple #[.agg #[.int .i64 0, .int .i64 0, .slice none 0 0, .slice none 0 0, .slice none 0 0], .int .i64 1]) (by simp [results, go_sem, l0, l1, l2, l3, l4]) rfl ⟨_, _, rfl, .inr ⟨HN.out, rfl, ⟨_, _, _, rfl, Owns.nil _ _ _ _, Owns.nil _ _ _ _, Owns.nil _ _ _ _⟩⟩, FB⟩
 ·have cC := HC.out w1 W.heap.size p bi bd bw gs u ((whole_iff d).1 hy) B1.out (by rw [SZ.out]; omega) Z1.out hO
  have HY : Hid (diskOk d = true) := hy
  clear hy hO HC
  go_wp2_with fail
  refine cC.mono ?_
  rintro e w2 ⟨rfl, hT, hb2⟩
  have cT := tellV hT
  have B2 : Hid (Below w.heap.size w w2) := B1.out.trans (hb2.mono (by rw [SZ.out]; omega))
  have R2 : Hid (Blk w2 (w.heap.size + 1) #[.int .i64 0, .int .i64 0, .slice none 0 0, .slice none 0 0, .slice none 0 0] 28) := R1.out.on hb2 (by rw [SZ.out]; omega)
  clear cC hT hb2
  go_wp2_with fail
  refine cT.mono ?_
  rintro e w3 ⟨x, rfl, hO3, hb3⟩
  have B3 : Hid (Below w.heap.size w w3) := B2.out.trans (hb3.mono B2.out.size)
  have R3 : Hid (Blk w3 (w.heap.size + 1) #[.int .i64 0, .int .i64 0, .slice none 0 0, .slice none 0 0, .slice none 0 0] 28) := R2.out.on hb3 R2.out.lt
  obtain ⟨x1, x2, x3, rfl, o1, o2, o3⟩ := hO3
  obtain ⟨A1, m1, k1, rfl⟩ := o1.shape
  obtain ⟨A2, m2, k2, rfl⟩ := o2.shape
  obtain ⟨A3, m3, k3, rfl⟩ := o3.shape
  have O1 : Hid (Owns w3 w.heap.size 47 3 (.slice A1 m1 k1) (nodR R.nods)) := o1.mono B2.out.size
  have O2 : Hid (Owns w3 w.heap.size 49 2 (.slice A2 m2 k2) (lnkR R.dir)) := o2.mono B2.out.size
  have O3 : Hid (Owns w3 w.heap.size 51 4 (.slice A3 m3 k3) (movR R.movs)) := o3.mono B2.out.size
  clear cT o1 o2 o3 hb3
  have g0 := R3.out.cell 0 _ rfl
  have f0 := R3.out.free 0
  have g1 := R3.out.cell 1 _ rfl
  have f1 := R3.out.free 1
  have g2 := R3.out.cell 2 _ rfl
  have f2 := R3.out.free 2
  have g3 := R3.out.cell 3 _ rfl
  have f3 := R3.out.free 3
  have g4 := R3.out.cell 4 _ rfl
  have f4 := R3.out.free 4
  go_wp2_with fail
  have hg : w.heap.size ≤ w.heap.size + 1 := by omega
  have hB := B3.out
  have FB := (((((hB.setCell hg (.int .i64 R.room) (p := ⟨_, 0, none⟩)).setCell hg (.int .i64 R.next) (p := ⟨_, 1, none⟩)).setCell hg (.slice A1 m1 k1) (p := ⟨_, 2, none⟩)).setCell hg (.slice A2 m2 k2) (p := ⟨_, 3, none⟩)).setCell hg (.slice A3 m3 k3) (p := ⟨_, 4, none⟩))
  have hF := (((((R3.out.set 0 (.int .i64 R.room)).set 1 (.int .i64 R.next)).set 2 (.slice A1 m1 k1)).set 3 (.slice A2 m2 k2)).set 4 (.slice A3 m3 k3))
  have mm0 := O1.out.notBlk R3.out (by decide)
  have F0 := (((((O1.out.other mm0 0 (.int .i64 R.room)).other mm0 1 (.int .i64 R.next)).other mm0 2 (.slice A1 m1 k1)).other mm0 3 (.slice A2 m2 k2)).other mm0 4 (.slice A3 m3 k3))
  have mm1 := O2.out.notBlk R3.out (by decide)
  have F1 := (((((O2.out.other mm1 0 (.int .i64 R.room)).other mm1 1 (.int .i64 R.next)).other mm1 2 (.slice A1 m1 k1)).other mm1 3 (.slice A2 m2 k2)).other mm1 4 (.slice A3 m3 k3))
  have mm2 := O3.out.notBlk R3.out (by decide)
  have F2 := (((((O3.out.other mm2 0 (.int .i64 R.room)).other mm2 1 (.int .i64 R.next)).other mm2 2 (.slice A1 m1 k1)).other mm2 3 (.slice A2 m2 k2)).other mm2 4 (.slice A3 m3 k3))
  clear g0 f0 g1 f1 g2 f2 g3 f3 g4 f4
  generalize (((((w3.setCell ⟨w.heap.size + 1, 0, none⟩ (.int .i64 R.room)).setCell ⟨w.heap.size + 1, 1, none⟩ (.int .i64 R.next)).setCell ⟨w.heap.size + 1, 2, none⟩ (.slice A1 m1 k1)).setCell ⟨w.heap.size + 1, 3, none⟩ (.slice A2 m2 k2)).setCell ⟨w.heap.size + 1, 4, none⟩ (.slice A3 m3 k3)) = WF at *
  have hG : Blk WF (w.heap.size + 1) #[.int .i64 R.room, .int .i64 R.next, .slice A1 m1 k1, .slice A2 m2 k2, .slice A3 m3 k3] 28 := hF
  have l0 := hG.cell 0 (.int .i64 R.room) rfl
  have l1 := hG.cell 1 (.int .i64 R.next) rfl
  have l2 := hG.cell 2 (.slice A1 m1 k1) rfl
  have l3 := hG.cell 3 (.slice A2 m2 k2) rfl
  have l4 := hG.cell 4 (.slice A3 m3 k3) rfl
  exact bodyPost_ret (v := .tuple #[.agg #[.int .i64 R.room, .int .i64 R.next, .slice A1 m1 k1, .slice A2 m2 k2, .slice A3 m3 k3], .int .i64 c]) (by simp [results, go_sem, l0, l1, l2, l3, l4]) rfl ⟨_, _, rfl, .inl ⟨HY.out, rfl, ⟨_, _, _, rfl, F0, F1, F2⟩⟩, FB⟩
end Go.Proofs.YtgjilgecklhglaaGreat
namespace Go.Proofs.YtgjilgecklhglaaGreat
open Go.ChangeShapes Go.WideShapes Go.ChangeAt Go.RowKit Go.PlainAid Go.Maps
set_option linter.unusedVariables false
theorem find_link {d : Dsk} (hd : Whole d) {name : ByteArray} {i : Nat} (h : linkAt (now d) name = some i) : ∃ j, nodAt d.nods ((now d).getD i default).id = some j ∧ find d name = some j ∧ j < d.nods.length := by
 have h1 : (nodAt d.nods ((names d.dir d.movs).getD i default).id).isSome = true := (now_linked hd).ids _ (linkAt_name h).2
 rcases e : nodAt d.nods ((now d).getD i default).id with _ | j
 ·rw [show nodAt d.nods ((names d.dir d.movs).getD i default).id = none from e] at h1
  cases h1
 ·exact ⟨j, rfl, by rw [find_yes h]; exact e, (nodAt_at e).1⟩
def FoundI (d : Dsk) (gs : List Nat) (name : ByteArray) (e : Ending) : Prop :=
 (nameOk name = false ∧ e = .returned (.tuple #[.pointer none, .int .i64 1])) ∨ (nameOk name = true ∧ find d name = none ∧ e = .returned (.tuple #[.pointer none, .int .i64 2])) ∨ (nameOk name = true ∧ ∃ j, find d name = some j ∧ j < d.nods.length ∧ e = .returned (.tuple #[.pointer (some ⟨gs.getD j 0, 0, none⟩), .int .i64 0]))
theorem FoundI.bad {d : Dsk} {gs : List Nat} {name : ByteArray} (h : nameOk name = false) : FoundI d gs name (.returned (.tuple #[.pointer none, .int .i64 1])) := .inl ⟨h, rfl⟩
theorem FoundI.no {d : Dsk} {gs : List Nat} {name : ByteArray} (h : nameOk name = true) (hf : find d name = none) : FoundI d gs name (.returned (.tuple #[.pointer none, .int .i64 2])) := .inr (.inl ⟨h, hf, rfl⟩)
theorem FoundI.yes {d : Dsk} {gs : List Nat} {name : ByteArray} (h : nameOk name = true) {j : Nat} (hf : find d name = some j) (hj : j < d.nods.length) {gj : Nat} (hg : gs.getD j 0 = gj) : FoundI d gs name (.returned (.tuple #[.pointer (some ⟨gj, 0, none⟩), .int .i64 0])) := .inr (.inr ⟨h, j, hf, hj, by rw [hg]⟩)
set_option maxHeartbeats 1000000 in
theorem findI (w : World) (base p : Nat) (d : Dsk) (bi bd bw : Nat) (gs : List Nat) (u : Value) (name : ByteArray) (h : OpenD w base p d bi bd bw gs u) (hd : Whole d) (hs : name.size ≤ maxLen) :
  Calls Tryz.prog 51 #[.pointer (some ⟨p, 0, none⟩), .string name] w fun e w' => w = w' ∧ FoundI d gs name e := by
 have c1 := isNameV name w (by unfold maxLen at hs; omega)
 cases hno : nameOk name with
 | false =>
  rw [hno] at c1
  have HNO : Hid (nameOk name = false) := hno
  clear h hno
  go_enter Tryz.func51, Tryz.ntmps51
  go_wp2_with fail
  refine c1.mono ?_
  rintro e w1 ⟨rfl, rfl⟩
  go_wp2_with fail
  go_ret2
  exact ⟨rfl, FoundI.bad HNO.out⟩
 | true =>
  rw [hno] at c1
  have HNO : Hid (nameOk name = true) := hno
  have y5 := h.blk.cell 5 _ rfl
  have y2 := h.blk.cell 2 _ rfl
  rcases hat : linkAt (now d) name with _ | i
  ·have HF : Hid (find d name = none) := find_no hat
   have r1 := (h.nw.look name hs).1 hat
   clear h hat hno
   go_enter Tryz.func51, Tryz.ntmps51
   go_wp2_with fail
   refine c1.mono ?_
   rintro e w1 ⟨rfl, rfl⟩
   go_wp2_with fail
   go_ret2
   exact ⟨rfl, FoundI.no HNO.out HF.out⟩
  ·obtain ⟨j, hj, hf, hjl⟩ := find_link hd hat
   have HF : Hid (find d name = some j ∧ j < d.nods.length) := ⟨hf, hjl⟩
   have r1 := (h.nw.look name hs).2 i hat
   have hio : IntOk ((now d).getD i default).id := by
    have h1 := nod_ids hd _ (getD_mem d.nods j hjl)
    rw [(nodAt_at hj).2] at h1
    exact ⟨by omega, by omega⟩
   have r2 := (h.it.val _ hio).2 _ (ptr_nod h.held.len hj)
   clear h hat hno hj hf hjl hio
   generalize ((now d).getD i default).id = li at *
   generalize hgj : gs.getD j 0 = gj at *
   have HGJ : Hid (gs.getD j 0 = gj) := hgj
   clear hgj
   go_enter Tryz.func51, Tryz.ntmps51
   go_wp2_with fail
   refine c1.mono ?_
   rintro e w1 ⟨rfl, rfl⟩
   go_wp2_with fail
   go_ret2
   exact ⟨rfl, FoundI.yes HNO.out HF.out.1 HF.out.2 HGJ.out⟩
end Go.Proofs.YtgjilgecklhglaaGreat
namespace Go.Proofs.YtgjilgecklhglaaGreat
open Go.ChangeShapes Go.WideShapes Go.ChangeAt Go.RowKit Go.PlainAid
set_option linter.unusedVariables false
theorem IT.notOwn {w : World} {b base : Nat} {l : List (Int × Nat)} {e : TypeId} {sz : Nat} {v : Value} {R : List (List Value)} (h : IT w b l) (k : Owns w base e sz v R) : v.ownBlock ≠ some b := by
 intro hg
 obtain ⟨c, fz, e1⟩ := Lib.ownsRow_kind k.2 b hg
 obtain ⟨n, es, clock, hb, _⟩ := h
 rw [e1] at hb
 cases hb
theorem NT.notOwn {w : World} {b base : Nat} {l : List Lnk} {e : TypeId} {sz : Nat} {v : Value} {R : List (List Value)} (h : NT w b l) (k : Owns w base e sz v R) : v.ownBlock ≠ some b := by
 intro hg
 obtain ⟨c, fz, e1⟩ := Lib.ownsRow_kind k.2 b hg
 obtain ⟨n, es, clock, hb, _⟩ := h
 rw [e1] at hb
 cases hb
theorem tell_on {w w' : World} {p : Nat} {d : Dsk} (h : Tellable w p d) (hb : Below w.heap.size w w') : Tellable w' p d := by
 obtain ⟨bi, bd, gs, u, vw, h1, h2, h3, h4, h5⟩ := h.ex
 exact ⟨⟨bi, bd, gs, u, vw, h1.on hb h1.lt, h2.on hb h2.lt, h3.on hb h3.lt, h4.on hb h4.lt, (h5.on hb).mono hb.size⟩, h.rise, h.sorted, h.ok, h.n1, h.n2, h.n3, h.nx, h.mx⟩
def movedD (d : Dsk) (m : Mov) : Dsk × Int := if 20 ≤ d.movs.length then (d, 4) else (⟨d.room, d.next, d.nods, d.dir, d.movs ++ [m]⟩, 0)
theorem movedD_full {d : Dsk} {m : Mov} (h : 20 ≤ d.movs.length) : movedD d m = (d, 4) := by unfold movedD; rw [if_pos h]
theorem movedD_room {d : Dsk} {m : Mov} (h : ¬ 20 ≤ d.movs.length) : movedD d m = (⟨d.room, d.next, d.nods, d.dir, d.movs ++ [m]⟩, 0) := by unfold movedD; rw [if_neg h]
theorem slice_len {w : World} {base : Nat} {A : Option Addr} {m c : Nat} {l : List Mov} (h : Owns w base 51 4 (.slice A m c) (movR l)) : m = l.length := by
 have := (h.lies.room).1
 rw [movR_length] at this
 exact this
set_option maxRecDepth 20000 in
set_option maxHeartbeats 4000000 in
theorem addMoveO (w : World) (base p : Nat) (d : Dsk) (bi bd bw : Nat) (gs : List Nat) (u : Value) (mk : Int) (mn mt : ByteArray) (mi : Int) (h : OpenD w base p d bi bd bw gs u) (hd : Whole d) (hw : wtD d ≤ 1048576) (hs1 : mn.size ≤ 1000) (hs2 : mt.size ≤ 1000) (hB : base ≤ w.heap.size) :
  Calls Tryz.prog 65 #[.pointer (some ⟨p, 0, none⟩), .agg #[.int .i64 mk, .string mn, .string mt, .int .i64 mi]] w fun e w' => e = .returned (.int .i64 (movedD d ⟨mk, mn, mt, mi⟩).2) ∧ ((20 ≤ d.movs.length ∧ Tellable w' p d) ∨ (¬ 20 ≤ d.movs.length ∧ ∃ u', Blk w' p #[.int .i64 d.room, .int .i64 d.next, .map (some bi), .map (some bd), u', .map (some bw)] 86 ∧ IT w' bi (prs d.nods gs) ∧ Held w' d.nods gs ∧ NT w' bd d.dir ∧ Owns w' base 51 4 u' (movR (d.movs ++ [⟨mk, mn, mt, mi⟩])))) ∧ Below base w w' := by
 have HT : Hid (Tellable w p d) := h.tell hd hw
 obtain ⟨uA, um, uc, rfl⟩ := h.mv.shape
 obtain rfl := slice_len h.mv
 have HO : Hid (OpenD w base p d bi bd bw gs (.slice uA d.movs.length uc)) := h
 have HB : Hid (base ≤ w.heap.size) := hB
 have HS1 : Hid (mn.size ≤ 1000) := hs1
 have HS2 : Hid (mt.size ≤ 1000) := hs2
 have hR := (sizeOk_iff d).1 hd.size
 have HM : Hid (d.movs.length ≤ 20) := hR.m
 have HL : Hid ((now d).length ≤ 1000) := by
  have h1 := names_len d.dir d.movs
  have := hR.l
  have := hR.m
  unfold Hid now
  omega
 have HNO : Hid (NamesOk (now d)) := (now_linked hd).ok
 have HR : Hid ((20 ≤ d.movs.length → movedD d ⟨mk, mn, mt, mi⟩ = (d, 4)) ∧ (¬ 20 ≤ d.movs.length → movedD d ⟨mk, mn, mt, mi⟩ = (⟨d.room, d.next, d.nods, d.dir, d.movs ++ [⟨mk, mn, mt, mi⟩]⟩, 0))) := ⟨movedD_full, movedD_room⟩
 clear h hd hw hB hs1 hs2 hR
 generalize hUM : d.movs.length = um at *
 have q1 : (um : Int) ≤ 20 := by have := HM.out; omega
 have PY0 : Hid (Blk (w.alloc (.cells #[.int .i64 mk, .string mn, .string mt, .int .i64 mi] 51)) p #[.int .i64 d.room, .int .i64 d.next, .map (some bi), .map (some bd), .slice uA um uc, .map (some bw)] 86) := HO.out.blk.alloc _
 have x4 := PY0.out.cell 4 _ rfl
 by_cases hfull : 20 ≤ um
 ·have t1 : decide ((20 : Int) ≤ (um : Int)) = true := decide_eq_true (by omega)
  have HRR := HR.out.1 hfull
  have HFL : Hid (20 ≤ um) := hfull
  clear hfull HR
  go_enter Tryz.func65, Tryz.ntmps65
  go_wp2_with fail
  go_ret
  have hb : Below w.heap.size w (w.alloc (.cells #[.int .i64 mk, .string mn, .string mt, .int .i64 mi] 51)) := (Below.refl _ w).alloc (Nat.le_refl _) _
  exact ⟨by rw [HRR]; rfl, .inl ⟨HFL.out, tell_on HT.out hb⟩, hb.mono HB.out⟩
 ·have t1 : decide ((20 : Int) ≤ (um : Int)) = false := decide_eq_false (by omega)
  have HRR : Hid (movedD d ⟨mk, mn, mt, mi⟩ = _) := HR.out.2 hfull
  have HFL : Hid (¬ 20 ≤ um) := hfull
  clear hfull HR
  go_enter Tryz.func65, Tryz.ntmps65
  go_wp2_with fail
  clear x4
  have hbY : Below w.heap.size w (w.alloc (.cells #[.int .i64 mk, .string mn, .string mt, .int .i64 mi] 51)) := (Below.refl _ w).alloc (Nat.le_refl _) _
  have zY := Blk.new w #[.int .i64 mk, .string mn, .string mt, .int .i64 mi] 51
  have szY : (w.alloc (.cells #[.int .i64 mk, .string mn, .string mt, .int .i64 mi] 51)).heap.size = w.heap.size + 1 := by simp
  generalize w.alloc (.cells #[.int .i64 mk, .string mn, .string mt, .int .i64 mi] 51) = Y at *
  have OY : Hid (OpenD Y base p d bi bd bw gs (.slice uA um uc)) := HO.out.on hbY
  have ZY : Hid (Blk Y w.heap.size #[.int .i64 mk, .string mn, .string mt, .int .i64 mi] 51) := zY
  have BY : Hid (Below w.heap.size w Y) := hbY
  have ZNE : Hid (∀ g, (Value.slice uA um uc).ownBlock = some g → g ≠ w.heap.size) := fun g hg => by
   have := (HO.out.mv.lt g hg).2
   omega
  have PZN : Hid (w.heap.size ≠ p ∧ w.heap.size ≠ bw) := by
   have h1 := HO.out.blk.lt
   have h2 := HO.out.nw.lt
   exact ⟨by omega, by omega⟩
  have hszY : Hid (w.heap.size ≤ Y.heap.size) := hbY.size
  clear hbY zY szY
  generalize hpz : w.heap.size = pz at *
  have HB2 : Hid (base ≤ pz) := HB.out
  have S0 : Hid (Y.drew.cell? ⟨p, 4, none⟩ = some (.slice uA um uc) ∧ Y.drew.cell? ⟨pz, 0, none⟩ = some (.int .i64 mk) ∧ Y.drew.cell? ⟨pz, 1, none⟩ = some (.string mn) ∧ Y.drew.cell? ⟨pz, 2, none⟩ = some (.string mt) ∧ Y.drew.cell? ⟨pz, 3, none⟩ = some (.int .i64 mi)) := ⟨OY.out.blk.cell 4 _ rfl, ZY.out.cell 0 _ rfl, ZY.out.cell 1 _ rfl, ZY.out.cell 2 _ rfl, ZY.out.cell 3 _ rfl⟩
  have OYd : Owns Y.drew base 51 4 (.slice uA um uc) (movR d.movs) := OY.out.mv.kept fun _ _ _ => rfl
  have Z5 : base ≤ Y.drew.heap.size := Nat.le_trans HB.out hszY.out
  obtain ⟨nA, nm, nc, w5, r5, hO5, hb5, hk5, _⟩ := run_append_row (P := Tryz.prog) Y.drew 26 26 51 (.agg #[.int .i64 0, .string ⟨#[]⟩, .string ⟨#[]⟩, .int .i64 0]) 4 48 Tryz.underlying26 Tryz.infoMov rfl (by omega) base (.slice uA um uc) (movR d.movs) OYd [.int .i64 mk, .string mn, .string mt, .int .i64 mi] rfl (by intro y hy; simp at hy; rcases hy with rfl | rfl | rfl | rfl <;> rfl) (by rw [movR_length]; have := HM.out; omega) (by omega) Z5
  have hk : ∀ g, g < Y.heap.size → (Value.slice uA um uc).ownBlock ≠ some g → w5.heap[g]? = Y.heap[g]? := hk5
  have P5 : Hid (Blk w5 p #[.int .i64 d.room, .int .i64 d.next, .map (some bi), .map (some bd), .slice uA um uc, .map (some bw)] 86) := by
   unfold Hid Blk
   rw [hk p OY.out.blk.lt (OY.out.mv.notBlk OY.out.blk (by decide))]
   exact OY.out.blk
  have K5 : Hid (Blk w5 pz #[.int .i64 mk, .string mn, .string mt, .int .i64 mi] 51) := by
   unfold Hid Blk
   rw [hk pz ZY.out.lt (fun e => ZNE.out pz e rfl)]
   exact ZY.out
  have I5 : Hid (IT w5 bi (prs d.nods gs)) := OY.out.it.kept (hk bi OY.out.it.lt (OY.out.it.notOwn OY.out.mv))
  have N5 : Hid (NT w5 bd d.dir) := OY.out.nd.kept (hk bd OY.out.nd.lt (OY.out.nd.notOwn OY.out.mv))
  have W5 : Hid (NT w5 bw (now d)) := OY.out.nw.kept (hk bw OY.out.nw.lt (OY.out.nw.notOwn OY.out.mv))
  have H5 : Hid (Held w5 d.nods gs) := OY.out.held.kept fun g hg => hk g (OY.out.held.lt g hg) (by
   obtain ⟨j, hj, rfl⟩ := List.getElem_of_mem hg
   have h1 := OY.out.held.blk j (by rw [← OY.out.held.len]; exact hj)
   rw [List.getD_eq_getElem?_getD, List.getElem?_eq_getElem hj] at h1
   exact OY.out.mv.notBlk h1 (by decide))
  have O5 : Hid (Owns w5 base 51 4 (.slice nA nm nc) (movR d.movs ++ [[.int .i64 mk, .string mn, .string mt, .int .i64 mi]])) := hO5
  have B5 : Hid (Below base Y w5) := (Below.refl base Y).drew.trans hb5
  have y4 := P5.out.cell 4 _ rfl
  have z4 := P5.out.free 4
  clear hO5 hb5 hk5 hk OYd Z5
  refine wp_region_until (fun w' => w'.cell? ⟨p, 4, none⟩ = some (.slice uA um uc) ∧ w'.cell? ⟨pz, 0, none⟩ = some (.int .i64 mk) ∧ w'.cell? ⟨pz, 1, none⟩ = some (.string mn) ∧ w'.cell? ⟨pz, 2, none⟩ = some (.string mt) ∧ w'.cell? ⟨pz, 3, none⟩ = some (.int .i64 mi)) (fun i => i == 7 || i == 10) 11 (by rfl) (by kernel_rfl) ?_
  refine until_pure 0 (v := ?va0) (by rfl) (by kernel_rfl) (by exact fun _ _ _ h => h) (by rfl) ?hya0 ?ra0
  case hya0 =>
   intro w
   go_simp
   try with_reducible rfl
  try simp only [Act.put, zQ1, zQ2, zQ3]
  refine until_take 1 (v := ?va1) (by rfl) (by kernel_rfl) (by exact fun _ _ _ h => h) (by rfl) ?hya1 S0.out ?ra1
  case hya1 =>
   intro w hSw
   try dsimp only at hSw
   go_simp
   try with_reducible rfl
  try simp only [Act.put, zQ1, zQ2, zQ3]
  refine until_take 2 (v := ?va2) (by rfl) (by kernel_rfl) (by exact fun _ _ _ h => h) (by rfl) ?hya2 S0.out ?ra2
  case hya2 =>
   intro w hSw
   try dsimp only at hSw
   go_simp
   try with_reducible rfl
  try simp only [Act.put, zQ1, zQ2, zQ3]
  refine until_take 3 (v := ?va3) (by rfl) (by kernel_rfl) (by exact fun _ _ _ h => h) (by rfl) ?hya3 S0.out ?ra3
  case hya3 =>
   intro w hSw
   try dsimp only at hSw
   go_simp
   try with_reducible rfl
  try simp only [Act.put, zQ1, zQ2, zQ3]
  refine until_take 4 (v := ?va4) (by rfl) (by kernel_rfl) (by exact fun _ _ _ h => h) (by rfl) ?hya4 S0.out ?ra4
  case hya4 =>
   intro w hSw
   try dsimp only at hSw
   go_simp
   try with_reducible rfl
  try simp only [Act.put, zQ1, zQ2, zQ3]
  refine until_take 5 (v := ?va5) (by rfl) (by kernel_rfl) (by exact fun _ _ _ h => h) (by rfl) ?hya5 S0.out ?ra5
  case hya5 =>
   intro w hSw
   try dsimp only at hSw
   go_simp
   try with_reducible rfl
  try simp only [Act.put, zQ1, zQ2, zQ3]
  refine uNe 6 (fun K hK => ?_)
  go_simp
  refine hK.out _ _ (fun _ _ => ⟨(Blk.alloc (w := Y.drew) OY.out.blk _).cell 4 _ rfl, (Blk.alloc (w := Y.drew) ZY.out _).cell 0 _ rfl, (Blk.alloc (w := Y.drew) ZY.out _).cell 1 _ rfl, (Blk.alloc (w := Y.drew) ZY.out _).cell 2 _ rfl, (Blk.alloc (w := Y.drew) ZY.out _).cell 3 _ rfl⟩) ?_
  clear hK K
  try simp only [Act.put, zQ1, zQ2, zQ3]
  refine uNe 7 (fun K hK => ?_)
  refine step_append_run (by rfl) (.tmp 15) (.tmp 17) 26 (by rfl) _ _ _ _ (by rfl) (by rfl) r5 ?_
  refine hK.out _ _ (fun h => by cases h) ?_
  clear hK K
  try simp only [Act.put, zQ1, zQ2, zQ3]
  refine until_pure 8 (v := ?vb8) (by rfl) (by kernel_rfl) (by exact fun _ _ _ h => h) (by rfl) ?hyb8 ?rb8
  case hyb8 =>
   intro w
   go_simp
   try with_reducible rfl
  try simp only [Act.put, zQ1, zQ2, zQ3]
  refine until_pure 9 (v := ?vb9) (by rfl) (by kernel_rfl) (by exact fun _ _ _ h => h) (by rfl) ?hyb9 ?rb9
  case hyb9 =>
   intro w
   go_simp
   try with_reducible rfl
  try simp only [Act.put, zQ1, zQ2, zQ3]
  refine uNe 10 (fun K hK => ?_)
  go_simp
  refine hK.out _ _ (fun h => by cases h) ?_
  clear hK K
  refine until_done (by kernel_rfl) ?_ _
  go_wp2_with fail
  have P6 : Hid (Blk (w5.setCell ⟨p, 4, none⟩ (.slice nA nm nc)) p #[.int .i64 d.room, .int .i64 d.next, .map (some bi), .map (some bd), .slice nA nm nc, .map (some bw)] 86) := P5.out.set 4 _
  have K6 : Hid (Blk (w5.setCell ⟨p, 4, none⟩ (.slice nA nm nc)) pz #[.int .i64 mk, .string mn, .string mt, .int .i64 mi] 51) := K5.out.other PZN.out.1 _ _
  have hkeep : ∀ g, g ≠ p → (w5.setCell ⟨p, 4, none⟩ (.slice nA nm nc)).heap[g]? = w5.heap[g]? := fun g hg => Below.heap_setCell _ ⟨p, 4, none⟩ _ _ hg
  have I6 : Hid (IT (w5.setCell ⟨p, 4, none⟩ (.slice nA nm nc)) bi (prs d.nods gs)) := I5.out.kept (hkeep bi HO.out.pi.symm)
  have N6 : Hid (NT (w5.setCell ⟨p, 4, none⟩ (.slice nA nm nc)) bd d.dir) := N5.out.kept (hkeep bd HO.out.pd.symm)
  have W6 : Hid (NT (w5.setCell ⟨p, 4, none⟩ (.slice nA nm nc)) bw (now d)) := W5.out.kept (hkeep bw HO.out.pw.symm)
  have H6 : Hid (Held (w5.setCell ⟨p, 4, none⟩ (.slice nA nm nc)) d.nods gs) := H5.out.kept fun g hg => hkeep g (HO.out.gl g hg).2.1
  have O6 : Hid (Owns (w5.setCell ⟨p, 4, none⟩ (.slice nA nm nc)) base 51 4 (.slice nA nm nc) (movR d.movs ++ [[.int .i64 mk, .string mn, .string mt, .int .i64 mi]])) := O5.out.other (O5.out.notBlk P5.out (by decide)) _ _
  have B6 : Hid (Below base Y (w5.setCell ⟨p, 4, none⟩ (.slice nA nm nc))) := B5.out.setCell (p := ⟨p, 4, none⟩) HO.out.lo.1 _
  clear hkeep y4 z4 S0 r5 P5 K5 I5 N5 W5 H5 O5 B5
  generalize w5.setCell ⟨p, 4, none⟩ (.slice nA nm nc) = w6 at *
  have S0 : Hid (w6.drew.cell? ⟨p, 5, none⟩ = some (.map (some bw)) ∧ w6.drew.cell? ⟨pz, 0, none⟩ = some (.int .i64 mk) ∧ w6.drew.cell? ⟨pz, 1, none⟩ = some (.string mn) ∧ w6.drew.cell? ⟨pz, 2, none⟩ = some (.string mt) ∧ w6.drew.cell? ⟨pz, 3, none⟩ = some (.int .i64 mi)) := ⟨P6.out.cell 5 _ rfl, K6.out.cell 0 _ rfl, K6.out.cell 1 _ rfl, K6.out.cell 2 _ rfl, K6.out.cell 3 _ rfl⟩
  have cA := applyI (now d) bw ⟨mk, mn, mt, mi⟩ w6.drew (W6.out.kept rfl) HL.out HNO.out (by have := HS1.out; unfold maxLen; simp only; omega) (by have := HS2.out; unfold maxLen; simp only; omega)
  unfold movV at cA
  simp only at cA
  generalize (apply (now d) ⟨mk, mn, mt, mi⟩).isSome = ok at *
  refine wp_region_until (fun w' => w'.cell? ⟨p, 5, none⟩ = some (.map (some bw)) ∧ w'.cell? ⟨pz, 0, none⟩ = some (.int .i64 mk) ∧ w'.cell? ⟨pz, 1, none⟩ = some (.string mn) ∧ w'.cell? ⟨pz, 2, none⟩ = some (.string mt) ∧ w'.cell? ⟨pz, 3, none⟩ = some (.int .i64 mi)) (fun i => i == 5) 6 (by rfl) (by kernel_rfl) ?_
  refine until_take 0 (v := ?vd0) (by rfl) (by kernel_rfl) (by exact fun _ _ _ h => h) (by rfl) ?hyd0 S0.out ?rd0
  case hyd0 =>
   intro w hSw
   try dsimp only at hSw
   go_simp
   try with_reducible rfl
  try simp only [Act.put, zQ1, zQ2, zQ3]
  refine until_take 1 (v := ?vd1) (by rfl) (by kernel_rfl) (by exact fun _ _ _ h => h) (by rfl) ?hyd1 S0.out ?rd1
  case hyd1 =>
   intro w hSw
   try dsimp only at hSw
   go_simp
   try with_reducible rfl
  try simp only [Act.put, zQ1, zQ2, zQ3]
  refine until_take 2 (v := ?vd2) (by rfl) (by kernel_rfl) (by exact fun _ _ _ h => h) (by rfl) ?hyd2 S0.out ?rd2
  case hyd2 =>
   intro w hSw
   try dsimp only at hSw
   go_simp
   try with_reducible rfl
  try simp only [Act.put, zQ1, zQ2, zQ3]
  refine until_take 3 (v := ?vd3) (by rfl) (by kernel_rfl) (by exact fun _ _ _ h => h) (by rfl) ?hyd3 S0.out ?rd3
  case hyd3 =>
   intro w hSw
   try dsimp only at hSw
   go_simp
   try with_reducible rfl
  try simp only [Act.put, zQ1, zQ2, zQ3]
  refine until_take 4 (v := ?vd4) (by rfl) (by kernel_rfl) (by exact fun _ _ _ h => h) (by rfl) ?hyd4 S0.out ?rd4
  case hyd4 =>
   intro w hSw
   try dsimp only at hSw
   go_simp
   try with_reducible rfl
  try simp only [Act.put, zQ1, zQ2, zQ3]
  refine uNe 5 (fun K hK => ?_)
  go_simp
  refine cA.mono ?_
  rintro e w7 ⟨rfl, _, hB7⟩
  have P7 : Hid (Blk w7 p #[.int .i64 d.room, .int .i64 d.next, .map (some bi), .map (some bd), .slice nA nm nc, .map (some bw)] 86) := hB7.blk (w := w6.drew) P6.out HO.out.pw
  have I7 : Hid (IT w7 bi (prs d.nods gs)) := IT.but (w := w6.drew) (I6.out.kept rfl) hB7 HO.out.iw
  have N7 : Hid (NT w7 bd d.dir) := NT.kept (w := w6.drew) (N6.out.kept rfl) (hB7.block bd N6.out.lt HO.out.dw)
  have H7 : Hid (Held w7 d.nods gs) := Held.but (w := w6.drew) (H6.out.kept fun _ _ => rfl) hB7 (fun g hg => (HO.out.gl g hg).2.2.2.2)
  have O7 : Hid (Owns w7 base 51 4 (.slice nA nm nc) (movR d.movs ++ [[.int .i64 mk, .string mn, .string mt, .int .i64 mi]])) := O6.out.kept fun g hg ho => hB7.block g hg (fun e => by subst e; exact W6.out.notOwn O6.out ho)
  have B7 : Hid (Below base Y w7) := (B6.out.drew).trans (hB7.below base (Nat.le_trans HB.out (Nat.le_trans hszY.out B6.out.size)) fun i hi e => by have := HO.out.lo.2.2.2; omega)
  clear cA hB7 S0 P6 K6 I6 N6 W6 H6 O6 B6
  go_wp2_with fail
  refine hK.out _ _ (fun h => by cases h) ?_
  clear hK K
  refine until_done (by kernel_rfl) ?_ _
  go_wp2_with fail
  go_ret
  have e1 : movR (d.movs ++ [⟨mk, mn, mt, mi⟩]) = movR d.movs ++ [[.int .i64 mk, .string mn, .string mt, .int .i64 mi]] := by unfold movR; rw [List.map_append]; rfl
  refine ⟨by rw [HRR.out]; rfl, .inr ⟨HFL.out, _, P7.out, I7.out, H7.out, N7.out, ?_⟩, ?_⟩
  ·rw [e1]
   exact O7.out
  ·exact (BY.out.mono HB2.out).trans B7.out
end Go.Proofs.YtgjilgecklhglaaGreat
namespace Go.Proofs.YtgjilgecklhglaaGreat
open Go.ChangeShapes Go.WideShapes Go.ChangeAt Go.RowKit Go.PlainAid
set_option linter.unusedVariables false
def makeC (d : Dsk) (name : ByteArray) : Int := if nameOk name = false then 1 else if find d name ≠ none then 3 else if 10 ≤ d.nods.length ∨ 20 ≤ d.movs.length ∨ 1000000 ≤ d.next then 4 else 0
def makeD (d : Dsk) (name : ByteArray) : Dsk := if makeC d name = 0 then ⟨d.room, d.next + 1, d.nods ++ [⟨d.next, ⟨#[]⟩, 0⟩], d.dir, d.movs ++ [⟨1, name, ⟨#[]⟩, d.next⟩]⟩ else d
theorem makeC_bad {d : Dsk} {name : ByteArray} (h : nameOk name = false) : makeC d name = 1 := by unfold makeC; rw [if_pos h]
theorem makeC_there {d : Dsk} {name : ByteArray} {j : Nat} (h : nameOk name = true) (hf : find d name = some j) : makeC d name = 3 := by unfold makeC; rw [if_neg (by rw [h]; simp), if_pos (by rw [hf]; simp)]
theorem makeC_full {d : Dsk} {name : ByteArray} (h : nameOk name = true) (hf : find d name = none) (hx : 10 ≤ d.nods.length ∨ 20 ≤ d.movs.length ∨ 1000000 ≤ d.next) : makeC d name = 4 := by unfold makeC; rw [if_neg (by rw [h]; simp), if_neg (by rw [hf]; simp), if_pos hx]
theorem makeC_ok {d : Dsk} {name : ByteArray} (h : nameOk name = true) (hf : find d name = none) (hx : ¬ (10 ≤ d.nods.length ∨ 20 ≤ d.movs.length ∨ 1000000 ≤ d.next)) : makeC d name = 0 := by unfold makeC; rw [if_neg (by rw [h]; simp), if_neg (by rw [hf]; simp), if_neg hx]
theorem makeD_no {d : Dsk} {name : ByteArray} (h : makeC d name ≠ 0) : makeD d name = d := by unfold makeD; rw [if_neg h]
theorem makeD_ok {d : Dsk} {name : ByteArray} (h : makeC d name = 0) : makeD d name = ⟨d.room, d.next + 1, d.nods ++ [⟨d.next, ⟨#[]⟩, 0⟩], d.dir, d.movs ++ [⟨1, name, ⟨#[]⟩, d.next⟩]⟩ := by unfold makeD; rw [if_pos h]
theorem nod_below {d : Dsk} (hd : Whole d) : ∀ x ∈ d.nods, x.id < d.next := fun x hx => by
 obtain ⟨k, hk, rfl⟩ := List.getElem_of_mem hx
 have hg := hd.nod k hk
 unfold nodGood at hg
 simp only [Bool.and_eq_true, decide_eq_true_eq] at hg
 rw [getD_at d.nods k hk]
 have h1 := hg.1.1.1
 omega
set_option maxRecDepth 20000 in
set_option maxHeartbeats 4000000 in
theorem makeFileV (w : World) (base p : Nat) (d : Dsk) (bi bd bw : Nat) (gs : List Nat) (u : Value) (name : ByteArray) (h : OpenD w base p d bi bd bw gs u) (hd : Whole d) (hw : wtD d ≤ 1048576) (hs : name.size ≤ maxLen) (hB : base ≤ w.heap.size) :
  Calls Tryz.prog 42 #[.pointer (some ⟨p, 0, none⟩), .string name] w fun e w' => e = .returned (.int .i64 (makeC d name)) ∧ Tellable w' p (makeD d name) ∧ Below base w w' := by
 have cF := findI w base p d bi bd bw gs u name h hd hs
 have hR := (sizeOk_iff d).1 hd.size
 have HO : Hid (OpenD w base p d bi bd bw gs u) := h
 have HD : Hid (Whole d) := hd
 have HB : Hid (base ≤ w.heap.size) := hB
 have HT : Hid (Tellable w p d) := h.tell hd hw
 have cM := fun (hn : nameOk name = true) => addMoveO w base p d bi bd bw gs u 1 name ⟨#[]⟩ d.next h hd hw (by have := name_size hn; omega) (by show (0 : Nat) ≤ 1000; omega) hB
 have hlen := fun ty => h.it.len ty
 rw [prs_length h.held.len] at hlen
 have x1 := h.blk.cell 1 _ rfl
 have x2 := h.blk.cell 2 _ rfl
 have HX : Hid (1 ≤ d.next ∧ d.next ≤ 1000000 ∧ d.nods.length ≤ 10) := ⟨hR.x0, hR.x1, hR.n⟩
 have q1 : (d.nods.length : Int) ≤ 10 := by have := hR.n; omega
 have q2 : d.next ≤ 1000000 := hR.x1
 have q3 : 1 ≤ d.next := hR.x0
 clear h hd hs hB hR hw
 go_enter Tryz.func42, Tryz.ntmps42
 go_wp2_with fail
 refine cF.mono ?_
 rintro e w1 ⟨rfl, hF⟩
 clear cF
 rcases hF with ⟨hn, rfl⟩ | ⟨hn, hf, rfl⟩ | ⟨hn, j, hf, hj, rfl⟩
 ·have hc : makeC d name = 1 := makeC_bad hn
  have HR : Hid (makeC d name = 1 ∧ makeD d name = d) := ⟨hc, makeD_no (by rw [hc]; omega)⟩
  clear hn cM hc
  go_wp2_with fail
  go_ret
  exact ⟨by rw [HR.out.1]; rfl, by rw [HR.out.2]; exact HT.out, Below.refl _ _⟩
 ·by_cases hx : 10 ≤ d.nods.length
  ·have hc : makeC d name = 4 := makeC_full hn hf (.inl hx)
   have HR : Hid (makeC d name = 4 ∧ makeD d name = d) := ⟨hc, makeD_no (by rw [hc]; omega)⟩
   have t1 : decide ((10 : Int) ≤ (d.nods.length : Int)) = true := decide_eq_true (by omega)
   clear hn hf cM hc hx
   generalize d.nods.length = nl at *
   go_wp2_with fail
   go_ret
   exact ⟨by rw [HR.out.1]; rfl, by rw [HR.out.2]; exact HT.out, Below.refl _ _⟩
  ·have t1 : decide ((10 : Int) ≤ (d.nods.length : Int)) = false := decide_eq_false (by omega)
   by_cases hy : 1000000 ≤ d.next
   ·have hc : makeC d name = 4 := makeC_full hn hf (.inr (.inr hy))
    have HR : Hid (makeC d name = 4 ∧ makeD d name = d) := ⟨hc, makeD_no (by rw [hc]; omega)⟩
    have t2 : decide ((1000000 : Int) ≤ d.next) = true := decide_eq_true hy
    clear hn hf cM hc hx hy
    generalize d.nods.length = nl at *
    go_wp2_with fail
    go_ret
    exact ⟨by rw [HR.out.1]; rfl, by rw [HR.out.2]; exact HT.out, Below.refl _ _⟩
   ·have t2 : decide ((1000000 : Int) ≤ d.next) = false := decide_eq_false hy
    have HCF : Hid (20 ≤ d.movs.length → makeC d name = 4 ∧ makeD d name = d) := fun hm => by
     have hc : makeC d name = 4 := makeC_full hn hf (.inr (.inl hm))
     exact ⟨hc, makeD_no (by rw [hc]; omega)⟩
    have HCO : Hid (¬ 20 ≤ d.movs.length → makeC d name = 0 ∧ makeD d name = ⟨d.room, d.next + 1, d.nods ++ [⟨d.next, ⟨#[]⟩, 0⟩], d.dir, d.movs ++ [⟨1, name, ⟨#[]⟩, d.next⟩]⟩) := fun hm => by
     have hc : makeC d name = 0 := makeC_ok hn hf (by omega)
     exact ⟨hc, makeD_ok hc⟩
    have cM := cM hn
    have HNM : Hid (name.size ≤ 1000) := by have := name_size hn; unfold Hid; omega
    have HNL : Hid (d.nods.length < 10) := by unfold Hid; omega
    have HNX : Hid (d.next < 1000000) := by unfold Hid; omega
    have hmc : ∀ e : Int, (20 ≤ d.movs.length → (movedD d ⟨1, name, ⟨#[]⟩, d.next⟩).2 = 4) ∧ (¬ 20 ≤ d.movs.length → (movedD d ⟨1, name, ⟨#[]⟩, d.next⟩).2 = 0) := fun _ => ⟨fun h => by rw [movedD_full h], fun h => by rw [movedD_room h]⟩
    have HMC := hmc 0
    clear hn hf hx hy hmc
    generalize hnl : d.nods.length = nl at *
    generalize hmc2 : (movedD d ⟨1, name, ⟨#[]⟩, d.next⟩).2 = mc at *
    go_wp2_with fail
    refine cM.mono ?_
    rintro e w2 ⟨rfl, hD, hb2⟩
    have B2 : Hid (Below base w w2) := hb2
    clear cM hb2 x1 x2 hlen
    rcases hD with ⟨hfull, hT2⟩ | ⟨hroom, u', hk2, hI2, hH2, hN2, hO2⟩
    ·have HR : Hid (makeC d name = 4 ∧ makeD d name = d) := HCF.out hfull
     have HT2 : Hid (Tellable w2 p d) := hT2
     have e4 := HMC.1 hfull
     subst e4
     clear hfull hT2
     go_wp2_with fail
     go_ret
     exact ⟨by rw [HR.out.1]; rfl, by rw [HR.out.2]; exact HT2.out, B2.out⟩
    ·have HR : Hid (makeC d name = 0 ∧ makeD d name = ⟨d.room, d.next + 1, d.nods ++ [⟨d.next, ⟨#[]⟩, 0⟩], d.dir, d.movs ++ [⟨1, name, ⟨#[]⟩, d.next⟩]⟩) := HCO.out hroom
     have e0 := HMC.2 hroom
     subst e0
     have HML : Hid (d.movs.length < 20) := by unfold Hid; omega
     have K2 : Hid (Blk w2 p #[.int .i64 d.room, .int .i64 d.next, .map (some bi), .map (some bd), u', .map (some bw)] 86) := hk2
     have I2 : Hid (IT w2 bi (prs d.nods gs)) := hI2
     have H2 : Hid (Held w2 d.nods gs) := hH2
     have N2 : Hid (NT w2 bd d.dir) := hN2
     have O2 : Hid (Owns w2 base 51 4 u' (movR (d.movs ++ [⟨1, name, ⟨#[]⟩, d.next⟩]))) := hO2
     have PL : Hid (p < w2.heap.size) := hk2.lt
     have IL : Hid (bi < w2.heap.size) := hI2.lt
     have hBA : Below w2.heap.size w2 (w2.alloc (.cells #[.int .i64 d.next, .string ⟨#[]⟩, .int .i64 0] 47)).drew := ((Below.refl _ w2).alloc (Nat.le_refl _) _).drew
     have kN : Blk (w2.alloc (.cells #[.int .i64 d.next, .string ⟨#[]⟩, .int .i64 0] 47)).drew w2.heap.size #[.int .i64 d.next, .string ⟨#[]⟩, .int .i64 0] 47 := Blk.new w2 _ _
     have iN : IT (w2.alloc (.cells #[.int .i64 d.next, .string ⟨#[]⟩, .int .i64 0] 47)).drew bi (prs d.nods gs) := hI2.on hBA hI2.lt
     have HTT : ∀ q ∈ prs d.nods gs, q.1 < d.next := fun q hq => by
      obtain ⟨x, hx, e⟩ := prs_mem hq
      have := nod_below HD.out x hx
      omega
     obtain ⟨w3, r3, hI3, hB3, hS3⟩ := iN.put d.next w2.heap.size ⟨by omega, by omega⟩ (by rw [prs_length hH2.len]; unfold maxLen; have := HNL.out; omega) HTT
     have hgs : ∀ g ∈ gs, g ≠ bi := fun g hg => (HO.out.gl g hg).2.2.1
     have hnb : w2.heap.size ≠ bi := by have := IL.out; omega
     have I3 : Hid (IT w3 bi (prs (d.nods ++ [⟨d.next, ⟨#[]⟩, 0⟩]) (gs ++ [w2.heap.size]))) := by unfold Hid; rw [prs_snoc hH2.len]; exact hI3
     have H3 : Hid (Held w3 (d.nods ++ [⟨d.next, ⟨#[]⟩, 0⟩]) (gs ++ [w2.heap.size])) := ((hH2.on hBA hH2.lt).snoc (x := ⟨d.next, ⟨#[]⟩, 0⟩) kN).but hB3 (fun g hg e => by
      rcases List.mem_append.1 hg with hg | hg
      ·exact hgs g hg e
      ·rw [List.mem_singleton] at hg
       omega)
     have K3 : Hid (Blk w3 p #[.int .i64 d.room, .int .i64 d.next, .map (some bi), .map (some bd), u', .map (some bw)] 86) := hB3.blk (hk2.on hBA hk2.lt) HO.out.pi
     have N3 : Hid (NT w3 bd d.dir) := (hN2.on hBA hN2.lt).kept (hB3.block bd (by have := hN2.lt; simp; omega) HO.out.id.symm)
     have O3 : Hid (Owns w3 base 51 4 u' (movR (d.movs ++ [⟨1, name, ⟨#[]⟩, d.next⟩]))) := (hO2.on hBA).kept fun g hg ho => hB3.block g hg (fun e => by subst e; exact iN.notOwn (hO2.on hBA) ho)
     have B3 : Hid (Below base w w3) := (B2.out.trans (hBA.mono (Nat.le_trans HB.out B2.out.size))).trans (hB3.below base (by have := B2.out.size; have := HB.out; simp; omega) fun i hi e => by have := HO.out.lo.2.1; omega)
     have S1 : Hid ((w2.alloc (.cells #[.int .i64 d.next, .string ⟨#[]⟩, .int .i64 0] 47)).drew.cell? ⟨p, 1, none⟩ = some (.int .i64 d.next) ∧ (w2.alloc (.cells #[.int .i64 d.next, .string ⟨#[]⟩, .int .i64 0] 47)).drew.cell? ⟨p, 2, none⟩ = some (.map (some bi))) := ⟨(hk2.on hBA hk2.lt).cell 1 _ rfl, (hk2.on hBA hk2.lt).cell 2 _ rfl⟩
     have S2 : Hid (w3.cell? ⟨p, 1, none⟩ = some (.int .i64 d.next) ∧ w3.cell? ⟨p, 2, none⟩ = some (.map (some bi))) := ⟨K3.out.cell 1 _ rfl, K3.out.cell 2 _ rfl⟩
     have S0 : Hid (w2.drew.cell? ⟨p, 1, none⟩ = some (.int .i64 d.next) ∧ w2.drew.cell? ⟨p, 2, none⟩ = some (.map (some bi))) := ⟨hk2.cell 1 _ rfl, hk2.cell 2 _ rfl⟩
     clear hk2 hI2 hH2 hN2 hO2 hBA kN iN HTT hI3 hB3 hS3 hgs hnb hroom HCF HCO HMC
     go_wp2_with fail
     go_region_held3 (fun w' => w'.cell? ⟨p, 1, none⟩ = some (.int .i64 d.next) ∧ w'.cell? ⟨p, 2, none⟩ = some (.map (some bi))) (first | exact S0.out | exact S1.out | exact S2.out) (fail)
     have y1 := K3.out.cell 1 _ rfl
     have y2 := K3.out.free 1
     have z1 : wrap64 (d.next + 1) = d.next + 1 := by unfold wrap64; omega
     go_wp2_with fail
     go_ret
     have hkeep : ∀ g, g ≠ p → (w3.setCell ⟨p, 1, none⟩ (.int .i64 (d.next + 1))).heap[g]? = w3.heap[g]? := fun g hg => Below.heap_setCell _ ⟨p, 1, none⟩ _ _ hg
     refine ⟨by rw [HR.out.1]; rfl, ?_, B3.out.setCell (p := ⟨p, 1, none⟩) HO.out.lo.1 _⟩
     rw [HR.out.2]
     have hlast := nod_below HD.out
     refine ⟨⟨bi, bd, gs ++ [w2.heap.size], u', _, K3.out.set 1 _, I3.out.kept (hkeep bi HO.out.pi.symm), H3.out.kept fun g hg => hkeep g ?_, N3.out.kept (hkeep bd HO.out.pd.symm), ?_⟩, ?_, HT.out.sorted, HT.out.ok, ?_, HT.out.n2, ?_, ?_, ?_⟩
     ·rcases List.mem_append.1 hg with hg | hg
      ·exact (HO.out.gl g hg).2.1
      ·rw [List.mem_singleton] at hg
       have := PL.out
       omega
     ·have hO4 := O3.out.other (O3.out.notBlk K3.out (by decide)) 1 (.int .i64 (d.next + 1))
      exact hO4.lies
     ·show Rising (d.nods ++ [⟨d.next, ⟨#[]⟩, 0⟩])
      unfold Rising
      rw [List.pairwise_append]
      refine ⟨HT.out.rise, List.pairwise_singleton _ _, fun a ha b hb => ?_⟩
      rw [List.mem_singleton] at hb
      subst hb
      exact hlast a ha
     ·show (d.nods ++ [_]).length ≤ 1000
      rw [List.length_append, List.length_singleton]
      have := HNL.out
      omega
     ·show (d.movs ++ [_]).length ≤ 1000
      rw [List.length_append, List.length_singleton]
      have := HML.out
      omega
     ·intro x hx
      have hx' : x ∈ d.nods ++ [⟨d.next, ⟨#[]⟩, 0⟩] := hx
      rcases List.mem_append.1 hx' with h1 | h1
      ·exact HT.out.nx x h1
      ·obtain rfl := List.mem_singleton.1 h1
       exact ⟨⟨by show _ ≤ d.next; omega, by show d.next ≤ _; omega⟩, by show (0 : Nat) ≤ _; omega⟩
     ·intro x hx
      have hx' : x ∈ d.movs ++ [⟨1, name, ⟨#[]⟩, d.next⟩] := hx
      rcases List.mem_append.1 hx' with h1 | h1
      ·exact HT.out.mx x h1
      ·obtain rfl := List.mem_singleton.1 h1
       have := HNM.out
       exact ⟨by show name.size ≤ _; omega, by show (0 : Nat) ≤ _; omega⟩
 ·have hc : makeC d name = 3 := makeC_there hn hf
  have HR : Hid (makeC d name = 3 ∧ makeD d name = d) := ⟨hc, makeD_no (by rw [hc]; omega)⟩
  generalize gs.getD j 0 = gj at *
  clear hn hf hj cM hc
  go_wp2_with fail
  go_ret
  exact ⟨by rw [HR.out.1]; rfl, by rw [HR.out.2]; exact HT.out, Below.refl _ _⟩
def makeR (d : Dsk) (name : ByteArray) : Dsk × Int := if diskOk d = true then (makeD d name, makeC d name) else (zeroD, 1)
theorem makeR_yes {d : Dsk} {name : ByteArray} (h : diskOk d = true) : makeR d name = (makeD d name, makeC d name) := by unfold makeR; rw [if_pos h]
theorem makeR_no {d : Dsk} {name : ByteArray} (h : diskOk d = false) : makeR d name = (zeroD, 1) := by unfold makeR; rw [if_neg (by rw [h]; simp)]
end Go.Proofs.YtgjilgecklhglaaGreat
namespace Go.Proofs.YtgjilgecklhglaaGreat
open Go.ChangeShapes Go.WideShapes Go.ChangeAt Go.RowKit Go.PlainAid
set_option linter.unusedVariables false
theorem getD_set_eq {α : Type} (l : List α) (j : Nat) (y z : α) (hj : j < l.length) : (l.set j y).getD j z = y := by
 rw [List.getD_eq_getElem?_getD, List.getElem?_set_self hj]
 rfl
theorem getD_set_off {α : Type} (l : List α) (i j : Nat) (y z : α) (h : i ≠ j) : (l.set j y).getD i z = l.getD i z := by
 rw [List.getD_eq_getElem?_getD, List.getD_eq_getElem?_getD, List.getElem?_set_ne (Ne.symm h)]
theorem ids_set (ns : List Nod) (j : Nat) (y : Nod) (hj : j < ns.length) (hy : y.id = (ns.getD j default).id) : (ns.set j y).map (·.id) = ns.map (·.id) := by
 rw [List.map_set, hy, ← getD_at ns j hj]
 have : ns[j].id = (ns.map (·.id))[j]'(by rw [List.length_map]; exact hj) := by rw [List.getElem_map]
 rw [this, List.set_getElem_self]
theorem rise_ne {gs : List Nat} (h : gs.Pairwise (· < ·)) {i j : Nat} (hi : i < gs.length) (hj : j < gs.length) (hne : i ≠ j) : gs.getD i 0 ≠ gs.getD j 0 := by
 rw [List.getD_eq_getElem?_getD, List.getElem?_eq_getElem hi, List.getD_eq_getElem?_getD, List.getElem?_eq_getElem hj]
 show gs[i] ≠ gs[j]
 rcases Nat.lt_or_gt_of_ne hne with h1 | h1
 ·have := List.pairwise_iff_getElem.1 h i j hi hj h1
  omega
 ·have := List.pairwise_iff_getElem.1 h j i hj hi h1
  omega
theorem gs_mem {gs : List Nat} {j : Nat} (hj : j < gs.length) : gs.getD j 0 ∈ gs := by
 rw [List.getD_eq_getElem?_getD, List.getElem?_eq_getElem hj]
 exact List.getElem_mem hj
theorem OpenD.put {w w' : World} {base p : Nat} {d : Dsk} {bi bd bw : Nat} {gs : List Nat} {u : Value} (h : OpenD w base p d bi bd bw gs u) (hd : Whole d) (hw : wtD d ≤ 1048576) (j : Nat) (hj : j < d.nods.length) (y : Nod) (hy : y.id = (d.nods.getD j default).id) (hs : y.data.size ≤ 281474976710656)
  (hb : But (fun i => i = gs.getD j 0) w w') (hk : Blk w' (gs.getD j 0) #[.int .i64 y.id, .string y.data, .int .i64 y.sure] 47) : Tellable w' p ⟨d.room, d.next, d.nods.set j y, d.dir, d.movs⟩ := by
 have hT := h.tell hd hw
 have hjg : j < gs.length := by rw [h.held.len]; exact hj
 have hm := h.gl _ (gs_mem hjg)
 have hids := ids_set d.nods j y hj hy
 refine ⟨⟨bi, bd, gs, u, _, hb.blk h.blk (fun e => hm.2.1 e.symm), ?_, ⟨?_, fun i hi => ?_⟩, h.nd.kept (hb.block bd h.nd.lt (fun e => hm.2.2.2.1 e.symm)), ?_⟩, ?_, hT.sorted, hT.ok, ?_, hT.n2, hT.n3, fun x hx => ?_, hT.mx⟩
 ·show IT w' bi (prs (d.nods.set j y) gs)
  unfold prs
  rw [hids]
  exact h.it.but hb (fun e => hm.2.2.1 e.symm)
 ·show gs.length = (d.nods.set j y).length
  rw [List.length_set]
  exact h.held.len
 ·have hi' : i < (d.nods.set j y).length := hi
  rw [List.length_set] at hi'
  show Blk w' (gs.getD i 0) #[.int .i64 ((d.nods.set j y).getD i default).id, .string ((d.nods.set j y).getD i default).data, .int .i64 ((d.nods.set j y).getD i default).sure] 47
  by_cases e : i = j
  ·subst e
   rw [getD_set_eq _ _ _ _ hj]
   exact hk
  ·rw [getD_set_off _ _ _ _ _ e]
   exact hb.blk (h.held.blk i hi') (rise_ne h.rise (by rw [h.held.len]; exact hi') hjg e)
 ·have hn := h.mv.notBlk (h.held.blk j hj) (by decide)
  exact (h.mv.kept fun g hg ho => hb.block g hg (fun e => by subst e; exact hn ho)).lies
 ·show Rising (d.nods.set j y)
  have h1 : (d.nods.map (·.id)).Pairwise (· < ·) := List.pairwise_map.2 hT.rise
  rw [← hids] at h1
  exact List.pairwise_map.1 h1
 ·show (d.nods.set j y).length ≤ 1000
  rw [List.length_set]
  exact hT.n1
 ·rcases List.mem_or_eq_of_mem_set hx with hx | rfl
  ·exact hT.nx x hx
  ·exact ⟨by rw [hy]; exact (hT.nx _ (getD_mem d.nods j hj)).1, hs⟩
def syncD (d : Dsk) (name : ByteArray) : Dsk :=
 if nameOk name = false then d else match find d name with
  | none => d
  | some j => ⟨d.room, d.next, d.nods.set j ⟨(d.nods.getD j default).id, (d.nods.getD j default).data, ((d.nods.getD j default).data.size : Int)⟩, d.dir, d.movs⟩
theorem syncD_bad {d : Dsk} {name : ByteArray} (h : nameOk name = false) : syncD d name = d := by unfold syncD; rw [if_pos h]
theorem syncD_none {d : Dsk} {name : ByteArray} (h : find d name = none) : syncD d name = d := by
 unfold syncD
 by_cases hn : nameOk name = false
 ·rw [if_pos hn]
 ·rw [if_neg hn, h]
theorem syncD_some {d : Dsk} {name : ByteArray} {j : Nat} (hn : nameOk name = true) (h : find d name = some j) : syncD d name = ⟨d.room, d.next, d.nods.set j ⟨(d.nods.getD j default).id, (d.nods.getD j default).data, ((d.nods.getD j default).data.size : Int)⟩, d.dir, d.movs⟩ := by
 unfold syncD
 rw [if_neg (by rw [hn]; simp), h]
theorem named_bad {d : Dsk} {name : ByteArray} (h : nameOk name = false) : named d name = 1 := by unfold named; rw [if_pos h]
theorem named_none {d : Dsk} {name : ByteArray} (hn : nameOk name = true) (h : find d name = none) : named d name = 2 := by unfold named; rw [if_neg (by rw [hn]; simp), if_pos h]
theorem named_some {d : Dsk} {name : ByteArray} {j : Nat} (hn : nameOk name = true) (h : find d name = some j) : named d name = 0 := by unfold named; rw [if_neg (by rw [hn]; simp), if_neg (by rw [h]; simp)]
set_option maxHeartbeats 1000000 in
theorem syncFileV (w : World) (base p : Nat) (d : Dsk) (bi bd bw : Nat) (gs : List Nat) (u : Value) (name : ByteArray) (h : OpenD w base p d bi bd bw gs u) (hd : Whole d) (hw : wtD d ≤ 1048576) (hs : name.size ≤ maxLen) (hB : base ≤ w.heap.size) :
  Calls Tryz.prog 89 #[.pointer (some ⟨p, 0, none⟩), .string name] w fun e w' => e = .returned (.int .i64 (named d name)) ∧ Tellable w' p (syncD d name) ∧ Below base w w' := by
 have cF := findI w base p d bi bd bw gs u name h hd hs
 have HO : Hid (OpenD w base p d bi bd bw gs u) := h
 have HD : Hid (Whole d) := hd
 have HW : Hid (wtD d ≤ 1048576) := hw
 have HB : Hid (base ≤ w.heap.size) := hB
 clear h hd hw hs hB
 go_enter Tryz.func89, Tryz.ntmps89
 go_wp2_with fail
 refine cF.mono ?_
 rintro e w1 ⟨rfl, hF⟩
 clear cF
 rcases hF with ⟨hn, rfl⟩ | ⟨hn, hf, rfl⟩ | ⟨hn, j, hf, hj, rfl⟩
 ·have HR : Hid (named d name = 1 ∧ syncD d name = d) := ⟨named_bad hn, syncD_bad hn⟩
  clear hn
  go_wp2_with fail
  go_ret
  exact ⟨by rw [HR.out.1]; rfl, by rw [HR.out.2]; exact HO.out.tell HD.out HW.out, Below.refl _ _⟩
 ·have HR : Hid (named d name = 2 ∧ syncD d name = d) := ⟨named_none hn hf, syncD_none hf⟩
  clear hn hf
  go_wp2_with fail
  go_ret
  exact ⟨by rw [HR.out.1]; rfl, by rw [HR.out.2]; exact HO.out.tell HD.out HW.out, Below.refl _ _⟩
 ·have HR : Hid (named d name = 0 ∧ syncD d name = _) := ⟨named_some hn hf, syncD_some hn hf⟩
  have HJ : Hid (j < d.nods.length) := hj
  have BK : Hid (Blk w (gs.getD j 0) #[.int .i64 (d.nods.getD j default).id, .string (d.nods.getD j default).data, .int .i64 (d.nods.getD j default).sure] 47) := HO.out.held.blk j hj
  have hds := (HO.out.tell HD.out HW.out).nx _ (getD_mem d.nods j hj)
  have HDS : Hid ((d.nods.getD j default).data.size ≤ 281474976710656) := hds.2
  have qd : ((d.nods.getD j default).data.size : Int) ≤ 281474976710656 := by have := hds.2; omega
  have x1 := BK.out.cell 1 _ rfl
  have x2 := BK.out.cell 2 _ rfl
  have z2 := BK.out.free 2
  clear hn hf hj hds
  generalize hgj : gs.getD j 0 = gj at *
  generalize hxd : (d.nods.getD j default).data = xd at *
  generalize hxi : (d.nods.getD j default).id = xi at *
  generalize hxs : (d.nods.getD j default).sure = xs at *
  go_wp2_with fail
  go_ret
  have hjg : j < gs.length := by rw [HO.out.held.len]; exact HJ.out
  have hm := HO.out.gl _ (gs_mem hjg)
  rw [hgj] at hm
  refine ⟨by rw [HR.out.1]; rfl, ?_, (Below.refl _ w).setCell hm.1 _⟩
  rw [HR.out.2]
  exact HO.out.put HD.out HW.out j HJ.out ⟨xi, xd, (xd.size : Int)⟩ hxi.symm HDS.out (by rw [hgj]; exact (But.refl (fun i => i = gj) w).setCell (p := ⟨gj, 2, none⟩) (fun _ => rfl) _) (by rw [hgj]; exact BK.out.set 2 _)
end Go.Proofs.YtgjilgecklhglaaGreat
namespace Go.Proofs.YtgjilgecklhglaaGreat
open Go.ChangeShapes Go.WideShapes Go.ChangeAt Go.RowKit Go.PlainAid
set_option linter.unusedVariables false
set_option maxRecDepth 20000 in
set_option maxHeartbeats 4000000 in
theorem okHead (d : Dsk) (v : Value) (w : World) (B : Nat) (hv : DiskV w B v d) (l1 : d.nods.length ≤ 1048576) (l2 : d.dir.length ≤ 1048576) (l3 : d.movs.length ≤ 1048576) (hs : bytesOf d.nods ≤ 4194304) (hB : B ≤ w.heap.size) (hR : ¬ Right d) :
  Calls Tryz.prog 19 #[v] w fun e w' => e = .returned (.bool (diskOk d)) ∧ Below w.heap.size w w' := by
 have HY : Hid (diskOk d = false) := diskOk_size (sizeOk_no hR)
 have HV : Hid (DiskV w B v d) := hv
 have HR : Hid (¬ Right d) := hR
 have HB : Hid (B ≤ w.heap.size) := hB
 obtain ⟨v1, v2, v3, rfl, h1, h2, h3⟩ := hv
 obtain ⟨A1, c1, rfl, _⟩ := nod_look h1
 obtain ⟨A2, c2, rfl, _⟩ := lnk_look h2
 obtain ⟨A3, c3, rfl, _⟩ := mov_look h3
 have cR := fun wx => inB d.room 0 1048576 wx
 have cX := fun wx => inB d.next 1 1000000 wx
 have cB := fun wx hx hb => bytesV d (.agg #[.int .i64 d.room, .int .i64 d.next, .slice A1 d.nods.length c1, .slice A2 d.dir.length c2, .slice A3 d.movs.length c3]) wx B hx (by omega) hs hb
 have q1 : (d.nods.length : Int) ≤ 1048576 := by omega
 have q2 : (d.dir.length : Int) ≤ 1048576 := by omega
 have q3 : (d.movs.length : Int) ≤ 1048576 := by omega
 have q0 : (bytesOf d.nods : Int) ≤ 4194304 := by omega
 rename_i z1 z2 z3
 clear h1 h2 h3 hB hR l1 l2 l3 hs z1 z2 z3
 rw [HY.out]
 have Rr : Hid (¬ (0 ≤ d.room ∧ d.room ≤ 1048576) → (decide (0 ≤ d.room) && decide (d.room ≤ 1048576)) = false) := fun h => by
  by_cases h1 : 0 ≤ d.room
  ·rw [decide_eq_false (fun h2 => h ⟨h1, h2⟩), Bool.and_false]
  ·rw [decide_eq_false h1]; rfl
 have Rx : Hid (¬ (1 ≤ d.next ∧ d.next ≤ 1000000) → (decide (1 ≤ d.next) && decide (d.next ≤ 1000000)) = false) := fun h => by
  by_cases h1 : 1 ≤ d.next
  ·rw [decide_eq_false (fun h2 => h ⟨h1, h2⟩), Bool.and_false]
  ·rw [decide_eq_false h1]; rfl
 by_cases r : 0 ≤ d.room ∧ d.room ≤ 1048576
 ·rw [decide_eq_true r.1, decide_eq_true r.2] at cR
  by_cases x : 1 ≤ d.next ∧ d.next ≤ 1000000
  ·rw [decide_eq_true x.1, decide_eq_true x.2] at cX
   by_cases n1 : (10 : Int) < (d.nods.length : Int)
   ·clear cB
    go_enter Tryz.func19, Tryz.ntmps19
    go_wp2_with (first
     | (go_at_call_of 29 (Value.int .i64 d.room); refine (cR _).mono ?_; rintro e w1 ⟨rfl, rfl⟩)
     | (go_at_call_of 29 (Value.int .i64 d.next); refine (cX _).mono ?_; rintro e w1 ⟨rfl, rfl⟩))
    go_ret
    exact ⟨rfl, (Below.refl _ _).alloc (Nat.le_refl _) _⟩
   ·have n1' : decide ((10 : Int) < (d.nods.length : Int)) = false := decide_eq_false n1
    by_cases n2 : (20 : Int) < (d.movs.length : Int)
    ·clear cB
     go_enter Tryz.func19, Tryz.ntmps19
     go_wp2_with (first
      | (go_at_call_of 29 (Value.int .i64 d.room); refine (cR _).mono ?_; rintro e w1 ⟨rfl, rfl⟩)
      | (go_at_call_of 29 (Value.int .i64 d.next); refine (cX _).mono ?_; rintro e w1 ⟨rfl, rfl⟩))
     go_ret
     exact ⟨rfl, (Below.refl _ _).alloc (Nat.le_refl _) _⟩
    ·have n2' : decide ((20 : Int) < (d.movs.length : Int)) = false := decide_eq_false n2
     by_cases n3 : (10 : Int) < (d.dir.length : Int)
     ·clear cB
      go_enter Tryz.func19, Tryz.ntmps19
      go_wp2_with (first
       | (go_at_call_of 29 (Value.int .i64 d.room); refine (cR _).mono ?_; rintro e w1 ⟨rfl, rfl⟩)
       | (go_at_call_of 29 (Value.int .i64 d.next); refine (cX _).mono ?_; rintro e w1 ⟨rfl, rfl⟩))
      go_ret
      exact ⟨rfl, (Below.refl _ _).alloc (Nat.le_refl _) _⟩
     ·have n3' : decide ((10 : Int) < (d.dir.length : Int)) = false := decide_eq_false n3
      have n4 : d.room < (bytesOf d.nods : Int) := by
       rcases Int.lt_or_le d.room (bytesOf d.nods : Int) with h | h
       ·exact h
       ·exact absurd ⟨r.1, r.2, x.1, x.2, by omega, by omega, by omega, h⟩ HR.out
      go_enter Tryz.func19, Tryz.ntmps19
      go_wp2_with (first
       | (go_at_call_of 29 (Value.int .i64 d.room); refine (cR _).mono ?_; rintro e w1 ⟨rfl, rfl⟩)
       | (go_at_call_of 29 (Value.int .i64 d.next); refine (cX _).mono ?_; rintro e w1 ⟨rfl, rfl⟩))
      have hb0 : Below w.heap.size w (w.alloc (.cells #[.int .i64 d.room, .int .i64 d.next, .slice A1 d.nods.length c1, .slice A2 d.dir.length c2, .slice A3 d.movs.length c3] 28)) := (Below.refl _ _).alloc (Nat.le_refl _) _
      have kA := Blk.new w #[.int .i64 d.room, .int .i64 d.next, .slice A1 d.nods.length c1, .slice A2 d.dir.length c2, .slice A3 d.movs.length c3] 28
      generalize w.alloc (.cells #[.int .i64 d.room, .int .i64 d.next, .slice A1 d.nods.length c1, .slice A2 d.dir.length c2, .slice A3 d.movs.length c3] 28) = W at *
      have B0 : Hid (Below w.heap.size w W) := hb0
      have K0 : Hid (Blk W w.heap.size #[.int .i64 d.room, .int .i64 d.next, .slice A1 d.nods.length c1, .slice A2 d.dir.length c2, .slice A3 d.movs.length c3] 28) := kA
      have S0 : Hid (W.drew.cell? ⟨w.heap.size, 0, none⟩ = some (.int .i64 d.room) ∧ W.drew.cell? ⟨w.heap.size, 1, none⟩ = some (.int .i64 d.next) ∧ W.drew.cell? ⟨w.heap.size, 2, none⟩ = some (.slice A1 d.nods.length c1) ∧ W.drew.cell? ⟨w.heap.size, 3, none⟩ = some (.slice A2 d.dir.length c2) ∧ W.drew.cell? ⟨w.heap.size, 4, none⟩ = some (.slice A3 d.movs.length c3)) := ⟨kA.cell 0 _ rfl, kA.cell 1 _ rfl, kA.cell 2 _ rfl, kA.cell 3 _ rfl, kA.cell 4 _ rfl⟩
      have BD : Below w.heap.size w W.drew := hb0.trans ((below_drewN' W 1).mono hb0.size)
      have HW : Hid (w.heap.size < W.heap.size) := kA.lt
      have HZ : Hid (w.heap.size ≤ W.heap.size) := hb0.size
      have cI := cB W.drew (HV.out.on (BD.mono HB.out)) (Nat.le_trans HB.out BD.size)
      clear hb0 kA BD cB cR cX
      go_region_held3 (fun w' => w'.cell? ⟨w.heap.size, 0, none⟩ = some (.int .i64 d.room) ∧ w'.cell? ⟨w.heap.size, 1, none⟩ = some (.int .i64 d.next) ∧ w'.cell? ⟨w.heap.size, 2, none⟩ = some (.slice A1 d.nods.length c1) ∧ w'.cell? ⟨w.heap.size, 3, none⟩ = some (.slice A2 d.dir.length c2) ∧ w'.cell? ⟨w.heap.size, 4, none⟩ = some (.slice A3 d.movs.length c3)) (first | exact S2.out | exact S0.out)
       ((go_at_call 53; refine cI.mono ?_; rintro e w3 ⟨rfl, hb⟩; have S2 : Hid (w3.cell? ⟨w.heap.size, 0, none⟩ = some (.int .i64 d.room) ∧ w3.cell? ⟨w.heap.size, 1, none⟩ = some (.int .i64 d.next) ∧ w3.cell? ⟨w.heap.size, 2, none⟩ = some (.slice A1 d.nods.length c1) ∧ w3.cell? ⟨w.heap.size, 3, none⟩ = some (.slice A2 d.dir.length c2) ∧ w3.cell? ⟨w.heap.size, 4, none⟩ = some (.slice A3 d.movs.length c3)) := ⟨(hb.cell (p := ⟨w.heap.size, 0, none⟩) HW.out).trans S0.out.1, (hb.cell (p := ⟨w.heap.size, 1, none⟩) HW.out).trans S0.out.2.1, (hb.cell (p := ⟨w.heap.size, 2, none⟩) HW.out).trans S0.out.2.2.1, (hb.cell (p := ⟨w.heap.size, 3, none⟩) HW.out).trans S0.out.2.2.2.1, (hb.cell (p := ⟨w.heap.size, 4, none⟩) HW.out).trans S0.out.2.2.2.2⟩))
      all_goals go_wp2_with fail
      all_goals go_ret
      all_goals exact ⟨rfl, B0.out.trans (((below_drewN' W 1).mono HZ.out).trans (hb.mono HZ.out))⟩
  ·rw [Rx.out x] at cX
   clear cB
   go_enter Tryz.func19, Tryz.ntmps19
   go_wp2_with (first
    | (go_at_call_of 29 (Value.int .i64 d.room); refine (cR _).mono ?_; rintro e w1 ⟨rfl, rfl⟩)
    | (go_at_call_of 29 (Value.int .i64 d.next); refine (cX _).mono ?_; rintro e w1 ⟨rfl, rfl⟩))
   go_ret
   exact ⟨rfl, (Below.refl _ _).alloc (Nat.le_refl _) _⟩
 ·rw [Rr.out r] at cR
  clear cB cX
  go_enter Tryz.func19, Tryz.ntmps19
  go_wp2_with (go_at_call_of 29 (Value.int .i64 d.room); refine (cR _).mono ?_; rintro e w1 ⟨rfl, rfl⟩)
  go_ret
  exact ⟨rfl, (Below.refl _ _).alloc (Nat.le_refl _) _⟩
end Go.Proofs.YtgjilgecklhglaaGreat
