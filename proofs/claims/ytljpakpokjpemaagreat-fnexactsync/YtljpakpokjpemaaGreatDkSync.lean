/-
  The contract of spec.Sync.
-/
import Derived.Test.YtljpakpokjpemaaGreatRows
import Derived.Test.YtljpakpokjpemaaGreatImSync
import Derived.Test.YtljpakpokjpemaaGreatDkOkD
import Derived.Test.YtljpakpokjpemaaGreatDkCopy
namespace Go.Proofs.YtljpakpokjpemaaGreat
open Go.ChangeShapes Go.WideShapes Go.ChangeAt Go.RowKit Go.PlainAid
set_option linter.unusedVariables false

theorem nodR_set (ns : List Nod) (j : Nat) (y : Nod) : nodR (ns.set j y) = (nodR ns).set j (nodC y) := by
  unfold nodR
  rw [List.map_set]
theorem Owns.nodAt {w : World} {base g cap : Nat} {ns : List Nod} {j : Nat} (h : Owns w base 57 3 (.slice (some ⟨g, 0, none⟩) ns.length cap) (nodR ns)) (hj : j < ns.length) : Owns w base 57 3 (.slice (some ⟨g, 0, none⟩) ns.length cap) ((nodR ns).set j (nodC (ns.getD j default))) := by
  rw [← nodR_set, ← getD_at ns j hj, List.set_getElem_self]
  exact h
theorem Owns.pokeSure {w : World} {base g cap : Nat} {ns : List Nod} {j : Nat} (h : Owns w base 57 3 (.slice (some ⟨g, 0, none⟩) ns.length cap) (nodR ns)) (hj : j < ns.length) (s : Int) : Owns (w.setCell ⟨g, j * 3 + 2, none⟩ (.int .i64 s)) base 57 3 (.slice (some ⟨g, 0, none⟩) ns.length cap) (nodR (ns.set j ⟨(ns.getD j default).id, (ns.getD j default).data, s⟩)) := by
  rw [nodR_set]
  exact (h.nodAt hj).pokeAt (nodR_length ns) hj 2 (by omega) (.int .i64 s)
theorem own_at {w : World} {base : Nat} {A : Option Addr} {m cap : Nat} {ns : List Nod} (h : Owns w base 57 3 (.slice A m cap) (nodR ns)) (hj : 0 < ns.length) : m = ns.length ∧ ∃ g, A = some ⟨g, 0, none⟩ ∧ base ≤ g := by
  rcases h.2.2 with ⟨e, h0⟩ | ⟨g, c, cur, e, hg, _⟩
  · rw [nodR_length] at h0
    omega
  · cases e
    rw [nodR_length]
    exact ⟨rfl, g, rfl, hg⟩
theorem find_lt {d : Dsk} {name : ByteArray} {k : Nat} (h : find d name = some k) : k < d.nods.length := by
  unfold find at h
  rcases e : linkAt (now d) name with _ | i
  · rw [e] at h; cases h
  · rw [e] at h; exact (nodAt_at h).1

theorem syncD_len (d : Dsk) (name : ByteArray) : (syncD d name).nods.length = d.nods.length ∧ (syncD d name).dir = d.dir ∧ (syncD d name).movs = d.movs := by
  unfold syncD
  split
  · exact ⟨rfl, rfl, rfl⟩
  · split
    · exact ⟨rfl, rfl, rfl⟩
    · exact ⟨List.length_set, rfl, rfl⟩
theorem syncR_len (d : Dsk) (name : ByteArray) (hf : Fits d) : (syncR d name).1.nods.length ≤ 1000 ∧ (syncR d name).1.dir.length ≤ 1000 ∧ (syncR d name).1.movs.length ≤ 1000 := by
  cases h : diskOk d with
  | false =>
    rw [syncR_no h]
    exact ⟨by show 0 ≤ 1000; omega, by show 0 ≤ 1000; omega, by show 0 ≤ 1000; omega⟩
  | true =>
    rw [syncR_yes h]
    have hR := (sizeOk_iff d).1 ((whole_iff d).1 h).size
    have h1 := syncD_len d name
    show (syncD d name).nods.length ≤ 1000 ∧ (syncD d name).dir.length ≤ 1000 ∧ (syncD d name).movs.length ≤ 1000
    rw [h1.1, h1.2.1, h1.2.2]
    have := hR.l
    have := hR.m
    have := hR.n
    exact ⟨by omega, by omega, by omega⟩

set_option maxRecDepth 20000 in
set_option maxHeartbeats 4000000 in
theorem specSyncV (d : Dsk) (v : Value) (name : ByteArray) (w : World) (B : Nat) (hv : DiskV w B v d) (hf : Fits d) (hw : wtD d ≤ 1048576) (hB : B ≤ w.heap.size) (hs : name.size ≤ maxLen) :
    Calls Tryz.prog 19 #[v, .string name] w fun e w' => ∃ x, e = .returned (.tuple #[x, .int .i64 (syncR d name).2]) ∧ DiskO w' w.heap.size x (syncR d name).1 ∧ Below w.heap.size w w' := by
  have HV : Hid (DiskV w B v d) := hv
  have HF : Hid (Fits d) := hf
  have HB : Hid (B ≤ w.heap.size) := hB
  have HW : Hid (wtD d ≤ 1048576) := hw
  have HS : Hid (name.size ≤ maxLen) := hs
  obtain ⟨v1, v2, v3, rfl, h1, h2, h3⟩ := hv
  clear h1 h2 h3 hf hB hw hs
  go_enter Tryz.func19, Tryz.ntmps19
  go_wp2_with fail
  have hb0 := below_alloc2' w (.cells #[.int .i64 d.room, .int .i64 d.next, v1, v2, v3] 32) (.cells #[.int .i64 0, .int .i64 0, .slice none 0 0, .slice none 0 0, .slice none 0 0] 32)
  have bA := (Blk.new w #[.int .i64 d.room, .int .i64 d.next, v1, v2, v3] 32).alloc (.cells #[.int .i64 0, .int .i64 0, .slice none 0 0, .slice none 0 0, .slice none 0 0] 32)
  have bR := Blk.new (w.alloc (.cells #[.int .i64 d.room, .int .i64 d.next, v1, v2, v3] 32)) #[.int .i64 0, .int .i64 0, .slice none 0 0, .slice none 0 0, .slice none 0 0] 32
  simp only [World.size_alloc] at bR
  generalize (w.alloc (.cells #[.int .i64 d.room, .int .i64 d.next, v1, v2, v3] 32)).alloc (.cells #[.int .i64 0, .int .i64 0, .slice none 0 0, .slice none 0 0, .slice none 0 0] 32) = W at *
  have B0 : Hid (Below w.heap.size w W) := hb0
  have K0 : Hid (Blk W w.heap.size #[.int .i64 d.room, .int .i64 d.next, v1, v2, v3] 32) := bA
  have R0 : Hid (Blk W (w.heap.size + 1) #[.int .i64 0, .int .i64 0, .slice none 0 0, .slice none 0 0, .slice none 0 0] 32) := bR
  clear hb0 bA bR
  refine (specOkV d _ W B (HV.out.on (B0.out.mono HB.out)) HF.out HW.out (Nat.le_trans HB.out B0.out.size)).mono ?_
  rintro e w1 ⟨rfl, hb1⟩
  have B1 : Hid (Below w.heap.size w w1) := B0.out.trans (hb1.mono B0.out.size)
  have K1 : Hid (Blk w1 w.heap.size #[.int .i64 d.room, .int .i64 d.next, v1, v2, v3] 32) := K0.out.on hb1 K0.out.lt
  have R1 : Hid (Blk w1 (w.heap.size + 1) #[.int .i64 0, .int .i64 0, .slice none 0 0, .slice none 0 0, .slice none 0 0] 32) := R0.out.on hb1 R0.out.lt
  clear hb1 K0 R0
  have hg : w.heap.size ≤ w.heap.size + 1 := by omega
  cases hok : diskOk d with
  | false =>
    have hRR : syncR d name = (zeroD, 1) := syncR_no hok
    clear hok
    have g0 := R1.out.cell 0 _ rfl
    have f0 := R1.out.free 0
    have g1 := R1.out.cell 1 _ rfl
    have f1 := R1.out.free 1
    have g2 := R1.out.cell 2 _ rfl
    have f2 := R1.out.free 2
    have g3 := R1.out.cell 3 _ rfl
    have f3 := R1.out.free 3
    have g4 := R1.out.cell 4 _ rfl
    have f4 := R1.out.free 4
    go_wp2_with fail
    have hB := B1.out
    have FB := (((((hB.setCell hg (.int .i64 0) (p := ⟨_, 0, none⟩)).setCell hg (.int .i64 0) (p := ⟨_, 1, none⟩)).setCell hg (.slice none 0 0) (p := ⟨_, 2, none⟩)).setCell hg (.slice none 0 0) (p := ⟨_, 3, none⟩)).setCell hg (.slice none 0 0) (p := ⟨_, 4, none⟩))
    have hF := (((((R1.out.set 0 (.int .i64 0)).set 1 (.int .i64 0)).set 2 (.slice none 0 0)).set 3 (.slice none 0 0)).set 4 (.slice none 0 0))
    clear g0 f0 g1 f1 g2 f2 g3 f3 g4 f4
    generalize (((((w1.setCell ⟨w.heap.size + 1, 0, none⟩ (.int .i64 0)).setCell ⟨w.heap.size + 1, 1, none⟩ (.int .i64 0)).setCell ⟨w.heap.size + 1, 2, none⟩ (.slice none 0 0)).setCell ⟨w.heap.size + 1, 3, none⟩ (.slice none 0 0)).setCell ⟨w.heap.size + 1, 4, none⟩ (.slice none 0 0)) = WF at *
    have hG : Blk WF (w.heap.size + 1) #[.int .i64 0, .int .i64 0, .slice none 0 0, .slice none 0 0, .slice none 0 0] 32 := hF
    have l0 := hG.cell 0 (.int .i64 0) rfl
    have l1 := hG.cell 1 (.int .i64 0) rfl
    have l2 := hG.cell 2 (.slice none 0 0) rfl
    have l3 := hG.cell 3 (.slice none 0 0) rfl
    have l4 := hG.cell 4 (.slice none 0 0) rfl
    exact bodyPost_ret (v := .tuple #[.agg #[.int .i64 0, .int .i64 0, .slice none 0 0, .slice none 0 0, .slice none 0 0], .int .i64 1]) (by simp [results, go_sem, l0, l1, l2, l3, l4]) rfl (by rw [hRR]; exact ⟨_, rfl, ⟨_, _, _, rfl, Owns.nil _ _ _ _, Owns.nil _ _ _ _, Owns.nil _ _ _ _⟩, FB⟩)
  | true =>
    have hR := (sizeOk_iff d).1 ((whole_iff d).1 hok).size
    have HSZ : Hid (d.dir.length + d.movs.length ≤ 1048575 ∧ d.nods.length ≤ 10 ∧ d.dir.length ≤ 1048576 ∧ d.movs.length ≤ 1048576) := by
      have := hR.l; have := hR.m; have := hR.n
      unfold Hid
      omega
    have HRR : Hid (syncR d name = (syncD d name, named d name)) := syncR_yes hok
    have cN := namedV d (.agg #[.int .i64 d.room, .int .i64 d.next, v1, v2, v3]) name w1 B (HV.out.on (B1.out.mono HB.out)) HF.out (by have := HS.out; unfold maxLen at this; omega) HSZ.out.1 (by have := HSZ.out; omega) (Nat.le_trans HB.out B1.out.size)
    have y0 := K1.out.cell 0 _ rfl
    have y1 := K1.out.cell 1 _ rfl
    have y2 := K1.out.cell 2 _ rfl
    have y3 := K1.out.cell 3 _ rfl
    have y4 := K1.out.cell 4 _ rfl
    clear hR hok
    go_wp2_with fail
    refine cN.mono ?_
    rintro e w2 ⟨rfl, hb2⟩
    have B2 : Hid (Below w.heap.size w w2) := B1.out.trans (hb2.mono B1.out.size)
    have K2 : Hid (Blk w2 w.heap.size #[.int .i64 d.room, .int .i64 d.next, v1, v2, v3] 32) := K1.out.on hb2 K1.out.lt
    have R2 : Hid (Blk w2 (w.heap.size + 1) #[.int .i64 0, .int .i64 0, .slice none 0 0, .slice none 0 0, .slice none 0 0] 32) := R1.out.on hb2 R1.out.lt
    clear cN hb2 y0 y1 y2 y3 y4 K1 R1
    have cC := copyV d (.agg #[.int .i64 d.room, .int .i64 d.next, v1, v2, v3]) w2 B (HV.out.on (B2.out.mono HB.out)) (by have := HSZ.out; omega) HSZ.out.2.2.1 HSZ.out.2.2.2 (Nat.le_trans HB.out B2.out.size)
    have y0 := K2.out.cell 0 _ rfl
    have y1 := K2.out.cell 1 _ rfl
    have y2 := K2.out.cell 2 _ rfl
    have y3 := K2.out.cell 3 _ rfl
    have y4 := K2.out.cell 4 _ rfl
    go_wp2_with fail
    refine cC.mono ?_
    rintro e w3 ⟨x, rfl, hO3, hb3⟩
    have B3 : Hid (Below w.heap.size w w3) := B2.out.trans (hb3.mono B2.out.size)
    have K3 : Hid (Blk w3 w.heap.size #[.int .i64 d.room, .int .i64 d.next, v1, v2, v3] 32) := K2.out.on hb3 K2.out.lt
    have R3 : Hid (Blk w3 (w.heap.size + 1) #[.int .i64 0, .int .i64 0, .slice none 0 0, .slice none 0 0, .slice none 0 0] 32) := R2.out.on hb3 R2.out.lt
    obtain ⟨x1, x2, x3, rfl, o1, o2, o3⟩ := hO3
    obtain ⟨A1, m1, k1, rfl⟩ := o1.shape
    obtain ⟨A2, m2, k2, rfl⟩ := o2.shape
    obtain ⟨A3, m3, k3, rfl⟩ := o3.shape
    have hz : w.heap.size + 1 < w2.heap.size := R2.out.lt
    have p1 := (((((o1.other (o1.below (show w.heap.size < w2.heap.size by omega)) 0 (.int .i64 d.room)).other (o1.below (show w.heap.size < w2.heap.size by omega)) 1 (.int .i64 d.next)).other (o1.below (show w.heap.size < w2.heap.size by omega)) 2 (.slice A1 m1 k1)).other (o1.below (show w.heap.size < w2.heap.size by omega)) 3 (.slice A2 m2 k2)).other (o1.below (show w.heap.size < w2.heap.size by omega)) 4 (.slice A3 m3 k3))
    have p2 := (((((o2.other (o2.below (show w.heap.size < w2.heap.size by omega)) 0 (.int .i64 d.room)).other (o2.below (show w.heap.size < w2.heap.size by omega)) 1 (.int .i64 d.next)).other (o2.below (show w.heap.size < w2.heap.size by omega)) 2 (.slice A1 m1 k1)).other (o2.below (show w.heap.size < w2.heap.size by omega)) 3 (.slice A2 m2 k2)).other (o2.below (show w.heap.size < w2.heap.size by omega)) 4 (.slice A3 m3 k3))
    have p3 := (((((o3.other (o3.below (show w.heap.size < w2.heap.size by omega)) 0 (.int .i64 d.room)).other (o3.below (show w.heap.size < w2.heap.size by omega)) 1 (.int .i64 d.next)).other (o3.below (show w.heap.size < w2.heap.size by omega)) 2 (.slice A1 m1 k1)).other (o3.below (show w.heap.size < w2.heap.size by omega)) 3 (.slice A2 m2 k2)).other (o3.below (show w.heap.size < w2.heap.size by omega)) 4 (.slice A3 m3 k3))
    have pB : Below w.heap.size w (((((w3.setCell ⟨w.heap.size, 0, none⟩ (.int .i64 d.room)).setCell ⟨w.heap.size, 1, none⟩ (.int .i64 d.next)).setCell ⟨w.heap.size, 2, none⟩ (.slice A1 m1 k1)).setCell ⟨w.heap.size, 3, none⟩ (.slice A2 m2 k2)).setCell ⟨w.heap.size, 4, none⟩ (.slice A3 m3 k3)) := (((((B3.out.setCell (Nat.le_refl _) (.int .i64 d.room) (p := ⟨_, 0, none⟩)).setCell (Nat.le_refl _) (.int .i64 d.next) (p := ⟨_, 1, none⟩)).setCell (Nat.le_refl _) (.slice A1 m1 k1) (p := ⟨_, 2, none⟩)).setCell (Nat.le_refl _) (.slice A2 m2 k2) (p := ⟨_, 3, none⟩)).setCell (Nat.le_refl _) (.slice A3 m3 k3) (p := ⟨_, 4, none⟩))
    have pK := (((((K3.out.set 0 (.int .i64 d.room)).set 1 (.int .i64 d.next)).set 2 (.slice A1 m1 k1)).set 3 (.slice A2 m2 k2)).set 4 (.slice A3 m3 k3))
    have pR := (((((R3.out.other (show w.heap.size + 1 ≠ w.heap.size by omega) 0 (.int .i64 d.room)).other (show w.heap.size + 1 ≠ w.heap.size by omega) 1 (.int .i64 d.next)).other (show w.heap.size + 1 ≠ w.heap.size by omega) 2 (.slice A1 m1 k1)).other (show w.heap.size + 1 ≠ w.heap.size by omega) 3 (.slice A2 m2 k2)).other (show w.heap.size + 1 ≠ w.heap.size by omega) 4 (.slice A3 m3 k3))
    clear cC hb3 y0 y1 y2 y3 y4 K2 R2 o1 o2 o3 R3
    have e0 := K3.out.cell 0 _ rfl
    have e1 := K3.out.cell 1 _ rfl
    have e2 := K3.out.cell 2 _ rfl
    have e3 := K3.out.cell 3 _ rfl
    have e4 := K3.out.cell 4 _ rfl
    have t0 := K3.out.free 0
    have t1 := K3.out.free 1
    have t2 := K3.out.free 2
    have t3 := K3.out.free 3
    have t4 := K3.out.free 4
    have hcode : (nameOk name = false ∧ named d name = 1 ∧ syncD d name = d) ∨ (nameOk name = true ∧ find d name = none ∧ named d name = 2 ∧ syncD d name = d) ∨ (nameOk name = true ∧ ∃ j, find d name = some j ∧ j < d.nods.length ∧ named d name = 0 ∧ syncD d name = ⟨d.room, d.next, d.nods.set j ⟨(d.nods.getD j default).id, (d.nods.getD j default).data, ((d.nods.getD j default).data.size : Int)⟩, d.dir, d.movs⟩) := by
      cases hn : nameOk name with
      | false => exact .inl ⟨rfl, named_bad hn, syncD_bad hn⟩
      | true =>
        rcases hfd : find d name with _ | j
        · exact .inr (.inl ⟨rfl, rfl, named_none hn hfd, syncD_none hfd⟩)
        · exact .inr (.inr ⟨rfl, j, rfl, find_lt hfd, named_some hn hfd, syncD_some hn hfd⟩)
    rcases hcode with ⟨hn, hc, hD⟩ | ⟨hn, hfd, hc, hD⟩ | ⟨hn, j, hfd, hj, hc, hD⟩
    · have hRR : syncR d name = (d, 1) := by rw [HRR.out, hc, hD]
      rw [hc]
      have HP1 : Hid (Owns (((((w3.setCell ⟨w.heap.size, 0, none⟩ (.int .i64 d.room)).setCell ⟨w.heap.size, 1, none⟩ (.int .i64 d.next)).setCell ⟨w.heap.size, 2, none⟩ (.slice A1 m1 k1)).setCell ⟨w.heap.size, 3, none⟩ (.slice A2 m2 k2)).setCell ⟨w.heap.size, 4, none⟩ (.slice A3 m3 k3)) w2.heap.size 57 3 (.slice A1 m1 k1) (nodR d.nods)) := p1
      have HP2 : Hid (Owns (((((w3.setCell ⟨w.heap.size, 0, none⟩ (.int .i64 d.room)).setCell ⟨w.heap.size, 1, none⟩ (.int .i64 d.next)).setCell ⟨w.heap.size, 2, none⟩ (.slice A1 m1 k1)).setCell ⟨w.heap.size, 3, none⟩ (.slice A2 m2 k2)).setCell ⟨w.heap.size, 4, none⟩ (.slice A3 m3 k3)) w2.heap.size 99 2 (.slice A2 m2 k2) (lnkR d.dir)) := p2
      have HP3 : Hid (Owns (((((w3.setCell ⟨w.heap.size, 0, none⟩ (.int .i64 d.room)).setCell ⟨w.heap.size, 1, none⟩ (.int .i64 d.next)).setCell ⟨w.heap.size, 2, none⟩ (.slice A1 m1 k1)).setCell ⟨w.heap.size, 3, none⟩ (.slice A2 m2 k2)).setCell ⟨w.heap.size, 4, none⟩ (.slice A3 m3 k3)) w2.heap.size 59 4 (.slice A3 m3 k3) (movR d.movs)) := p3
      have HPB : Hid (Below w.heap.size w (((((w3.setCell ⟨w.heap.size, 0, none⟩ (.int .i64 d.room)).setCell ⟨w.heap.size, 1, none⟩ (.int .i64 d.next)).setCell ⟨w.heap.size, 2, none⟩ (.slice A1 m1 k1)).setCell ⟨w.heap.size, 3, none⟩ (.slice A2 m2 k2)).setCell ⟨w.heap.size, 4, none⟩ (.slice A3 m3 k3))) := pB
      have HPK : Hid (Blk (((((w3.setCell ⟨w.heap.size, 0, none⟩ (.int .i64 d.room)).setCell ⟨w.heap.size, 1, none⟩ (.int .i64 d.next)).setCell ⟨w.heap.size, 2, none⟩ (.slice A1 m1 k1)).setCell ⟨w.heap.size, 3, none⟩ (.slice A2 m2 k2)).setCell ⟨w.heap.size, 4, none⟩ (.slice A3 m3 k3)) w.heap.size #[.int .i64 d.room, .int .i64 d.next, .slice A1 m1 k1, .slice A2 m2 k2, .slice A3 m3 k3] 32) := pK
      have HPR : Hid (Blk (((((w3.setCell ⟨w.heap.size, 0, none⟩ (.int .i64 d.room)).setCell ⟨w.heap.size, 1, none⟩ (.int .i64 d.next)).setCell ⟨w.heap.size, 2, none⟩ (.slice A1 m1 k1)).setCell ⟨w.heap.size, 3, none⟩ (.slice A2 m2 k2)).setCell ⟨w.heap.size, 4, none⟩ (.slice A3 m3 k3)) (w.heap.size + 1) #[.int .i64 0, .int .i64 0, .slice none 0 0, .slice none 0 0, .slice none 0 0] 32) := pR
      clear p1 p2 p3 pB pK pR hc hD hn 
      have r0 := HPK.out.cell 0 _ rfl
      have r1 := HPK.out.cell 1 _ rfl
      have r2 := HPK.out.cell 2 _ rfl
      have r3 := HPK.out.cell 3 _ rfl
      have r4 := HPK.out.cell 4 _ rfl
      have g0 := HPR.out.cell 0 _ rfl
      have f0 := HPR.out.free 0
      have g1 := HPR.out.cell 1 _ rfl
      have f1 := HPR.out.free 1
      have g2 := HPR.out.cell 2 _ rfl
      have f2 := HPR.out.free 2
      have g3 := HPR.out.cell 3 _ rfl
      have f3 := HPR.out.free 3
      have g4 := HPR.out.cell 4 _ rfl
      have f4 := HPR.out.free 4
      go_wp2_with fail
      have hB := HPB.out
      have hm : w.heap.size ≤ w2.heap.size := B2.out.size
      clear r0 r1 r2 r3 r4 e0 e1 e2 e3 e4 t0 t1 t2 t3 t4
      have FB := (((((hB.setCell hg (.int .i64 d.room) (p := ⟨_, 0, none⟩)).setCell hg (.int .i64 d.next) (p := ⟨_, 1, none⟩)).setCell hg (.slice A1 m1 k1) (p := ⟨_, 2, none⟩)).setCell hg (.slice A2 m2 k2) (p := ⟨_, 3, none⟩)).setCell hg (.slice A3 m3 k3) (p := ⟨_, 4, none⟩))
      have hF := (((((HPR.out.set 0 (.int .i64 d.room)).set 1 (.int .i64 d.next)).set 2 (.slice A1 m1 k1)).set 3 (.slice A2 m2 k2)).set 4 (.slice A3 m3 k3))
      have mm0 := HP1.out.notBlk HPR.out (by decide)
      have F0 := (((((HP1.out.other mm0 0 (.int .i64 d.room)).other mm0 1 (.int .i64 d.next)).other mm0 2 (.slice A1 m1 k1)).other mm0 3 (.slice A2 m2 k2)).other mm0 4 (.slice A3 m3 k3))
      have mm1 := HP2.out.notBlk HPR.out (by decide)
      have F1 := (((((HP2.out.other mm1 0 (.int .i64 d.room)).other mm1 1 (.int .i64 d.next)).other mm1 2 (.slice A1 m1 k1)).other mm1 3 (.slice A2 m2 k2)).other mm1 4 (.slice A3 m3 k3))
      have mm2 := HP3.out.notBlk HPR.out (by decide)
      have F2 := (((((HP3.out.other mm2 0 (.int .i64 d.room)).other mm2 1 (.int .i64 d.next)).other mm2 2 (.slice A1 m1 k1)).other mm2 3 (.slice A2 m2 k2)).other mm2 4 (.slice A3 m3 k3))
      clear g0 f0 g1 f1 g2 f2 g3 f3 g4 f4
      generalize ((((((((((w3.setCell ⟨w.heap.size, 0, none⟩ (.int .i64 d.room)).setCell ⟨w.heap.size, 1, none⟩ (.int .i64 d.next)).setCell ⟨w.heap.size, 2, none⟩ (.slice A1 m1 k1)).setCell ⟨w.heap.size, 3, none⟩ (.slice A2 m2 k2)).setCell ⟨w.heap.size, 4, none⟩ (.slice A3 m3 k3)).setCell ⟨w.heap.size + 1, 0, none⟩ (.int .i64 d.room)).setCell ⟨w.heap.size + 1, 1, none⟩ (.int .i64 d.next)).setCell ⟨w.heap.size + 1, 2, none⟩ (.slice A1 m1 k1)).setCell ⟨w.heap.size + 1, 3, none⟩ (.slice A2 m2 k2)).setCell ⟨w.heap.size + 1, 4, none⟩ (.slice A3 m3 k3)) = WF at *
      have hG : Blk WF (w.heap.size + 1) #[.int .i64 d.room, .int .i64 d.next, .slice A1 m1 k1, .slice A2 m2 k2, .slice A3 m3 k3] 32 := hF
      have l0 := hG.cell 0 (.int .i64 d.room) rfl
      have l1 := hG.cell 1 (.int .i64 d.next) rfl
      have l2 := hG.cell 2 (.slice A1 m1 k1) rfl
      have l3 := hG.cell 3 (.slice A2 m2 k2) rfl
      have l4 := hG.cell 4 (.slice A3 m3 k3) rfl
      exact bodyPost_ret (v := .tuple #[.agg #[.int .i64 d.room, .int .i64 d.next, .slice A1 m1 k1, .slice A2 m2 k2, .slice A3 m3 k3], .int .i64 1]) (by simp [results, go_sem, l0, l1, l2, l3, l4]) rfl (by rw [hRR]; exact ⟨_, rfl, ⟨_, _, _, rfl, F0.mono hm, F1.mono hm, F2.mono hm⟩, FB⟩)
    · have hRR : syncR d name = (d, 2) := by rw [HRR.out, hc, hD]
      rw [hc]
      have HP1 : Hid (Owns (((((w3.setCell ⟨w.heap.size, 0, none⟩ (.int .i64 d.room)).setCell ⟨w.heap.size, 1, none⟩ (.int .i64 d.next)).setCell ⟨w.heap.size, 2, none⟩ (.slice A1 m1 k1)).setCell ⟨w.heap.size, 3, none⟩ (.slice A2 m2 k2)).setCell ⟨w.heap.size, 4, none⟩ (.slice A3 m3 k3)) w2.heap.size 57 3 (.slice A1 m1 k1) (nodR d.nods)) := p1
      have HP2 : Hid (Owns (((((w3.setCell ⟨w.heap.size, 0, none⟩ (.int .i64 d.room)).setCell ⟨w.heap.size, 1, none⟩ (.int .i64 d.next)).setCell ⟨w.heap.size, 2, none⟩ (.slice A1 m1 k1)).setCell ⟨w.heap.size, 3, none⟩ (.slice A2 m2 k2)).setCell ⟨w.heap.size, 4, none⟩ (.slice A3 m3 k3)) w2.heap.size 99 2 (.slice A2 m2 k2) (lnkR d.dir)) := p2
      have HP3 : Hid (Owns (((((w3.setCell ⟨w.heap.size, 0, none⟩ (.int .i64 d.room)).setCell ⟨w.heap.size, 1, none⟩ (.int .i64 d.next)).setCell ⟨w.heap.size, 2, none⟩ (.slice A1 m1 k1)).setCell ⟨w.heap.size, 3, none⟩ (.slice A2 m2 k2)).setCell ⟨w.heap.size, 4, none⟩ (.slice A3 m3 k3)) w2.heap.size 59 4 (.slice A3 m3 k3) (movR d.movs)) := p3
      have HPB : Hid (Below w.heap.size w (((((w3.setCell ⟨w.heap.size, 0, none⟩ (.int .i64 d.room)).setCell ⟨w.heap.size, 1, none⟩ (.int .i64 d.next)).setCell ⟨w.heap.size, 2, none⟩ (.slice A1 m1 k1)).setCell ⟨w.heap.size, 3, none⟩ (.slice A2 m2 k2)).setCell ⟨w.heap.size, 4, none⟩ (.slice A3 m3 k3))) := pB
      have HPK : Hid (Blk (((((w3.setCell ⟨w.heap.size, 0, none⟩ (.int .i64 d.room)).setCell ⟨w.heap.size, 1, none⟩ (.int .i64 d.next)).setCell ⟨w.heap.size, 2, none⟩ (.slice A1 m1 k1)).setCell ⟨w.heap.size, 3, none⟩ (.slice A2 m2 k2)).setCell ⟨w.heap.size, 4, none⟩ (.slice A3 m3 k3)) w.heap.size #[.int .i64 d.room, .int .i64 d.next, .slice A1 m1 k1, .slice A2 m2 k2, .slice A3 m3 k3] 32) := pK
      have HPR : Hid (Blk (((((w3.setCell ⟨w.heap.size, 0, none⟩ (.int .i64 d.room)).setCell ⟨w.heap.size, 1, none⟩ (.int .i64 d.next)).setCell ⟨w.heap.size, 2, none⟩ (.slice A1 m1 k1)).setCell ⟨w.heap.size, 3, none⟩ (.slice A2 m2 k2)).setCell ⟨w.heap.size, 4, none⟩ (.slice A3 m3 k3)) (w.heap.size + 1) #[.int .i64 0, .int .i64 0, .slice none 0 0, .slice none 0 0, .slice none 0 0] 32) := pR
      clear p1 p2 p3 pB pK pR hc hD hn hfd
      have r0 := HPK.out.cell 0 _ rfl
      have r1 := HPK.out.cell 1 _ rfl
      have r2 := HPK.out.cell 2 _ rfl
      have r3 := HPK.out.cell 3 _ rfl
      have r4 := HPK.out.cell 4 _ rfl
      have g0 := HPR.out.cell 0 _ rfl
      have f0 := HPR.out.free 0
      have g1 := HPR.out.cell 1 _ rfl
      have f1 := HPR.out.free 1
      have g2 := HPR.out.cell 2 _ rfl
      have f2 := HPR.out.free 2
      have g3 := HPR.out.cell 3 _ rfl
      have f3 := HPR.out.free 3
      have g4 := HPR.out.cell 4 _ rfl
      have f4 := HPR.out.free 4
      go_wp2_with fail
      have hB := HPB.out
      have hm : w.heap.size ≤ w2.heap.size := B2.out.size
      clear r0 r1 r2 r3 r4 e0 e1 e2 e3 e4 t0 t1 t2 t3 t4
      have FB := (((((hB.setCell hg (.int .i64 d.room) (p := ⟨_, 0, none⟩)).setCell hg (.int .i64 d.next) (p := ⟨_, 1, none⟩)).setCell hg (.slice A1 m1 k1) (p := ⟨_, 2, none⟩)).setCell hg (.slice A2 m2 k2) (p := ⟨_, 3, none⟩)).setCell hg (.slice A3 m3 k3) (p := ⟨_, 4, none⟩))
      have hF := (((((HPR.out.set 0 (.int .i64 d.room)).set 1 (.int .i64 d.next)).set 2 (.slice A1 m1 k1)).set 3 (.slice A2 m2 k2)).set 4 (.slice A3 m3 k3))
      have mm0 := HP1.out.notBlk HPR.out (by decide)
      have F0 := (((((HP1.out.other mm0 0 (.int .i64 d.room)).other mm0 1 (.int .i64 d.next)).other mm0 2 (.slice A1 m1 k1)).other mm0 3 (.slice A2 m2 k2)).other mm0 4 (.slice A3 m3 k3))
      have mm1 := HP2.out.notBlk HPR.out (by decide)
      have F1 := (((((HP2.out.other mm1 0 (.int .i64 d.room)).other mm1 1 (.int .i64 d.next)).other mm1 2 (.slice A1 m1 k1)).other mm1 3 (.slice A2 m2 k2)).other mm1 4 (.slice A3 m3 k3))
      have mm2 := HP3.out.notBlk HPR.out (by decide)
      have F2 := (((((HP3.out.other mm2 0 (.int .i64 d.room)).other mm2 1 (.int .i64 d.next)).other mm2 2 (.slice A1 m1 k1)).other mm2 3 (.slice A2 m2 k2)).other mm2 4 (.slice A3 m3 k3))
      clear g0 f0 g1 f1 g2 f2 g3 f3 g4 f4
      generalize ((((((((((w3.setCell ⟨w.heap.size, 0, none⟩ (.int .i64 d.room)).setCell ⟨w.heap.size, 1, none⟩ (.int .i64 d.next)).setCell ⟨w.heap.size, 2, none⟩ (.slice A1 m1 k1)).setCell ⟨w.heap.size, 3, none⟩ (.slice A2 m2 k2)).setCell ⟨w.heap.size, 4, none⟩ (.slice A3 m3 k3)).setCell ⟨w.heap.size + 1, 0, none⟩ (.int .i64 d.room)).setCell ⟨w.heap.size + 1, 1, none⟩ (.int .i64 d.next)).setCell ⟨w.heap.size + 1, 2, none⟩ (.slice A1 m1 k1)).setCell ⟨w.heap.size + 1, 3, none⟩ (.slice A2 m2 k2)).setCell ⟨w.heap.size + 1, 4, none⟩ (.slice A3 m3 k3)) = WF at *
      have hG : Blk WF (w.heap.size + 1) #[.int .i64 d.room, .int .i64 d.next, .slice A1 m1 k1, .slice A2 m2 k2, .slice A3 m3 k3] 32 := hF
      have l0 := hG.cell 0 (.int .i64 d.room) rfl
      have l1 := hG.cell 1 (.int .i64 d.next) rfl
      have l2 := hG.cell 2 (.slice A1 m1 k1) rfl
      have l3 := hG.cell 3 (.slice A2 m2 k2) rfl
      have l4 := hG.cell 4 (.slice A3 m3 k3) rfl
      exact bodyPost_ret (v := .tuple #[.agg #[.int .i64 d.room, .int .i64 d.next, .slice A1 m1 k1, .slice A2 m2 k2, .slice A3 m3 k3], .int .i64 2]) (by simp [results, go_sem, l0, l1, l2, l3, l4]) rfl (by rw [hRR]; exact ⟨_, rfl, ⟨_, _, _, rfl, F0.mono hm, F1.mono hm, F2.mono hm⟩, FB⟩)
    · have hRR : syncR d name = (⟨d.room, d.next, d.nods.set j ⟨(d.nods.getD j default).id, (d.nods.getD j default).data, ((d.nods.getD j default).data.size : Int)⟩, d.dir, d.movs⟩, 0) := by rw [HRR.out, hc, hD]
      rw [hc]
      have HJ : Hid (j < d.nods.length) := hj
      have HFD : Hid (find d name = some j) := hfd
      have HP1 : Hid (Owns (((((w3.setCell ⟨w.heap.size, 0, none⟩ (.int .i64 d.room)).setCell ⟨w.heap.size, 1, none⟩ (.int .i64 d.next)).setCell ⟨w.heap.size, 2, none⟩ (.slice A1 m1 k1)).setCell ⟨w.heap.size, 3, none⟩ (.slice A2 m2 k2)).setCell ⟨w.heap.size, 4, none⟩ (.slice A3 m3 k3)) w2.heap.size 57 3 (.slice A1 m1 k1) (nodR d.nods)) := p1
      have HP2 : Hid (Owns (((((w3.setCell ⟨w.heap.size, 0, none⟩ (.int .i64 d.room)).setCell ⟨w.heap.size, 1, none⟩ (.int .i64 d.next)).setCell ⟨w.heap.size, 2, none⟩ (.slice A1 m1 k1)).setCell ⟨w.heap.size, 3, none⟩ (.slice A2 m2 k2)).setCell ⟨w.heap.size, 4, none⟩ (.slice A3 m3 k3)) w2.heap.size 99 2 (.slice A2 m2 k2) (lnkR d.dir)) := p2
      have HP3 : Hid (Owns (((((w3.setCell ⟨w.heap.size, 0, none⟩ (.int .i64 d.room)).setCell ⟨w.heap.size, 1, none⟩ (.int .i64 d.next)).setCell ⟨w.heap.size, 2, none⟩ (.slice A1 m1 k1)).setCell ⟨w.heap.size, 3, none⟩ (.slice A2 m2 k2)).setCell ⟨w.heap.size, 4, none⟩ (.slice A3 m3 k3)) w2.heap.size 59 4 (.slice A3 m3 k3) (movR d.movs)) := p3
      have HPB : Hid (Below w.heap.size w (((((w3.setCell ⟨w.heap.size, 0, none⟩ (.int .i64 d.room)).setCell ⟨w.heap.size, 1, none⟩ (.int .i64 d.next)).setCell ⟨w.heap.size, 2, none⟩ (.slice A1 m1 k1)).setCell ⟨w.heap.size, 3, none⟩ (.slice A2 m2 k2)).setCell ⟨w.heap.size, 4, none⟩ (.slice A3 m3 k3))) := pB
      have HPK : Hid (Blk (((((w3.setCell ⟨w.heap.size, 0, none⟩ (.int .i64 d.room)).setCell ⟨w.heap.size, 1, none⟩ (.int .i64 d.next)).setCell ⟨w.heap.size, 2, none⟩ (.slice A1 m1 k1)).setCell ⟨w.heap.size, 3, none⟩ (.slice A2 m2 k2)).setCell ⟨w.heap.size, 4, none⟩ (.slice A3 m3 k3)) w.heap.size #[.int .i64 d.room, .int .i64 d.next, .slice A1 m1 k1, .slice A2 m2 k2, .slice A3 m3 k3] 32) := pK
      have HPR : Hid (Blk (((((w3.setCell ⟨w.heap.size, 0, none⟩ (.int .i64 d.room)).setCell ⟨w.heap.size, 1, none⟩ (.int .i64 d.next)).setCell ⟨w.heap.size, 2, none⟩ (.slice A1 m1 k1)).setCell ⟨w.heap.size, 3, none⟩ (.slice A2 m2 k2)).setCell ⟨w.heap.size, 4, none⟩ (.slice A3 m3 k3)) (w.heap.size + 1) #[.int .i64 0, .int .i64 0, .slice none 0 0, .slice none 0 0, .slice none 0 0] 32) := pR
      clear p1 p2 p3 pB pK pR hc hD hn hfd hj
      go_wp2_with fail
      clear e0 e1 e2 e3 e4 t0 t1 t2 t3 t4
      generalize (((((w3.setCell ⟨w.heap.size, 0, none⟩ (.int .i64 d.room)).setCell ⟨w.heap.size, 1, none⟩ (.int .i64 d.next)).setCell ⟨w.heap.size, 2, none⟩ (.slice A1 m1 k1)).setCell ⟨w.heap.size, 3, none⟩ (.slice A2 m2 k2)).setCell ⟨w.heap.size, 4, none⟩ (.slice A3 m3 k3)) = Y at *
      have hDV : DiskV Y Y.heap.size (.agg #[.int .i64 d.room, .int .i64 d.next, .slice A1 m1 k1, .slice A2 m2 k2, .slice A3 m3 k3]) d := ⟨_, _, _, rfl, HP1.out.lies, HP2.out.lies, HP3.out.lies⟩
      refine (findV d (.agg #[.int .i64 d.room, .int .i64 d.next, .slice A1 m1 k1, .slice A2 m2 k2, .slice A3 m3 k3]) name Y Y.heap.size hDV HF.out HSZ.out.1 (by have := HSZ.out; omega) (Nat.le_refl _)).mono ?_
      rintro e w5 ⟨rfl, hb5⟩
      rw [HFD.out]
      have ei : idxV (some j) = (j : Int) := rfl
      rw [ei]
      obtain ⟨rfl, g, rfl, hgl⟩ := own_at HP1.out (by have := HJ.out; omega)
      have Q1 : Hid (Owns w5 w2.heap.size 57 3 (.slice (some ⟨g, 0, none⟩) d.nods.length k1) (nodR d.nods)) := HP1.out.on hb5
      have Q2 : Hid (Owns w5 w2.heap.size 99 2 (.slice A2 m2 k2) (lnkR d.dir)) := HP2.out.on hb5
      have Q3 : Hid (Owns w5 w2.heap.size 59 4 (.slice A3 m3 k3) (movR d.movs)) := HP3.out.on hb5
      have QB : Hid (Below w.heap.size w w5) := HPB.out.trans (hb5.mono HPB.out.size)
      have QK : Hid (Blk w5 w.heap.size #[.int .i64 d.room, .int .i64 d.next, .slice (some ⟨g, 0, none⟩) d.nods.length k1, .slice A2 m2 k2, .slice A3 m3 k3] 32) := HPK.out.on hb5 HPK.out.lt
      have QR : Hid (Blk w5 (w.heap.size + 1) #[.int .i64 0, .int .i64 0, .slice none 0 0, .slice none 0 0, .slice none 0 0] 32) := HPR.out.on hb5 HPR.out.lt
      have HG : Hid (w2.heap.size ≤ g) := hgl
      have q1 : (d.nods.length : Int) ≤ 10 := by have := HSZ.out; omega
      have q4 : (j : Int) < (d.nods.length : Int) := by have := HJ.out; omega
      have q5 : (0 : Int) ≤ (j : Int) := by omega
      have hds := wt_data _ (getD_mem d.nods j HJ.out)
      have qd : ((d.nods.getD j default).data.size : Int) ≤ 1048576 := by
        have := HW.out
        unfold wtD at this
        omega
      have cD : w5.cell? ⟨g, j * 3 + 1, none⟩ = some (.string (d.nods.getD j default).data) := (by obtain ⟨A, cp, e, hl⟩ := nod_look Q1.out.lies; obtain ⟨g2, off, e2, _, _, h1, _⟩ := hl j HJ.out; cases e; cases e2; simpa using h1)
      have cS : w5.cell? ⟨g, j * 3 + 2, none⟩ = some (.int .i64 (d.nods.getD j default).sure) := (by obtain ⟨A, cp, e, hl⟩ := nod_look Q1.out.lies; obtain ⟨g2, off, e2, _, _, _, h2⟩ := hl j HJ.out; cases e; cases e2; simpa using h2)
      have fS := (Q1.out.nodAt HJ.out).free2 (nodR_length _) (j * 3 + 2)
      have PK := Q1.out.pokeSure HJ.out ((d.nods.getD j default).data.size : Int)
      have P1 : Hid (Owns (w5.setCell ⟨g, j * 3 + 2, none⟩ (.int .i64 ((d.nods.getD j default).data.size : Int))) w2.heap.size 57 3 (.slice (some ⟨g, 0, none⟩) d.nods.length k1) (nodR (d.nods.set j ⟨(d.nods.getD j default).id, (d.nods.getD j default).data, ((d.nods.getD j default).data.size : Int)⟩))) := PK
      have x2 := QK.out.cell 2 _ rfl
      clear HP1 HP2 HP3 HPB HPK HPR hb5 hDV hgl PK hds
      generalize hxd : (d.nods.getD j default).data = xd at *
      generalize hxs : (d.nods.getD j default).sure = xs at *
      generalize hNN : d.nods.length = N at *
      go_wp2_with fail
      have S0 : Hid (w5.drew.cell? ⟨w.heap.size, 2, none⟩ = some (.slice (some ⟨g, 0, none⟩) N k1) ∧ w5.drew.cell? ⟨g, j * 3 + 1, none⟩ = some (.string xd)) := ⟨x2, cD⟩
      refine wp_region_until (fun w' => w'.cell? ⟨w.heap.size, 2, none⟩ = some (.slice (some ⟨g, 0, none⟩) N k1) ∧ w'.cell? ⟨g, j * 3 + 1, none⟩ = some (.string xd)) (fun i => i == 12) 13 (by rfl) (by kernel_rfl) ?_
      refine until_take 0 (v := ?vk0) (by rfl) (by kernel_rfl) (by exact fun _ _ _ h => h) (by rfl) ?hyk0 S0.out ?rk0
      case hyk0 =>
        intro w hSw
        try dsimp only at hSw
        go_simp
        try with_reducible rfl
      try simp only [Act.put, List.setIfInBounds_toArray, List.set_cons_zero, List.set_cons_succ]
      refine until_take 1 (v := ?vk1) (by rfl) (by kernel_rfl) (by exact fun _ _ _ h => h) (by rfl) ?hyk1 S0.out ?rk1
      case hyk1 =>
        intro w hSw
        try dsimp only at hSw
        go_simp
        try with_reducible rfl
      try simp only [Act.put, List.setIfInBounds_toArray, List.set_cons_zero, List.set_cons_succ]
      refine until_take 2 (v := ?vk2) (by rfl) (by kernel_rfl) (by exact fun _ _ _ h => h) (by rfl) ?hyk2 S0.out ?rk2
      case hyk2 =>
        intro w hSw
        try dsimp only at hSw
        go_simp
        try with_reducible rfl
      try simp only [Act.put, List.setIfInBounds_toArray, List.set_cons_zero, List.set_cons_succ]
      refine until_take 3 (v := ?vk3) (by rfl) (by kernel_rfl) (by exact fun _ _ _ h => h) (by rfl) ?hyk3 S0.out ?rk3
      case hyk3 =>
        intro w hSw
        try dsimp only at hSw
        go_simp
        try with_reducible rfl
      try simp only [Act.put, List.setIfInBounds_toArray, List.set_cons_zero, List.set_cons_succ]
      refine until_take 4 (v := ?vk4) (by rfl) (by kernel_rfl) (by exact fun _ _ _ h => h) (by rfl) ?hyk4 S0.out ?rk4
      case hyk4 =>
        intro w hSw
        try dsimp only at hSw
        go_simp
        try with_reducible rfl
      try simp only [Act.put, List.setIfInBounds_toArray, List.set_cons_zero, List.set_cons_succ]
      refine until_take 5 (v := ?vk5) (by rfl) (by kernel_rfl) (by exact fun _ _ _ h => h) (by rfl) ?hyk5 S0.out ?rk5
      case hyk5 =>
        intro w hSw
        try dsimp only at hSw
        go_simp
        try with_reducible rfl
      try simp only [Act.put, List.setIfInBounds_toArray, List.set_cons_zero, List.set_cons_succ]
      refine until_take 6 (v := ?vk6) (by rfl) (by kernel_rfl) (by exact fun _ _ _ h => h) (by rfl) ?hyk6 S0.out ?rk6
      case hyk6 =>
        intro w hSw
        try dsimp only at hSw
        go_simp
        try with_reducible rfl
      try simp only [Act.put, List.setIfInBounds_toArray, List.set_cons_zero, List.set_cons_succ]
      refine until_take 7 (v := ?vk7) (by rfl) (by kernel_rfl) (by exact fun _ _ _ h => h) (by rfl) ?hyk7 S0.out ?rk7
      case hyk7 =>
        intro w hSw
        try dsimp only at hSw
        go_simp
        try with_reducible rfl
      try simp only [Act.put, List.setIfInBounds_toArray, List.set_cons_zero, List.set_cons_succ]
      refine until_take 8 (v := ?vk8) (by rfl) (by kernel_rfl) (by exact fun _ _ _ h => h) (by rfl) ?hyk8 S0.out ?rk8
      case hyk8 =>
        intro w hSw
        try dsimp only at hSw
        go_simp
        try with_reducible rfl
      try simp only [Act.put, List.setIfInBounds_toArray, List.set_cons_zero, List.set_cons_succ]
      refine until_take 9 (v := ?vk9) (by rfl) (by kernel_rfl) (by exact fun _ _ _ h => h) (by rfl) ?hyk9 S0.out ?rk9
      case hyk9 =>
        intro w hSw
        try dsimp only at hSw
        go_simp
        try with_reducible rfl
      try simp only [Act.put, List.setIfInBounds_toArray, List.set_cons_zero, List.set_cons_succ]
      refine until_take 10 (v := ?vk10) (by rfl) (by kernel_rfl) (by exact fun _ _ _ h => h) (by rfl) ?hyk10 S0.out ?rk10
      case hyk10 =>
        intro w hSw
        try dsimp only at hSw
        go_simp
        try with_reducible rfl
      try simp only [Act.put, List.setIfInBounds_toArray, List.set_cons_zero, List.set_cons_succ]
      refine until_take 11 (v := ?vk11) (by rfl) (by kernel_rfl) (by exact fun _ _ _ h => h) (by rfl) ?hyk11 S0.out ?rk11
      case hyk11 =>
        intro w hSw
        try dsimp only at hSw
        go_simp
        try with_reducible rfl
      try simp only [Act.put, List.setIfInBounds_toArray, List.set_cons_zero, List.set_cons_succ]
      refine until_one 12 (by rfl) (by kernel_rfl) (fun K hK => ?_)
      go_simp
      refine hK.out _ _ (fun h => by cases h) ?_
      clear hK K
      refine until_done (by kernel_rfl) ?_ _
      have hgw : w.heap.size + 1 < g := Nat.lt_of_lt_of_le hz HG.out
      have zK : Blk (w5.setCell ⟨g, j * 3 + 2, none⟩ (.int .i64 (xd.size : Int))).drew w.heap.size #[.int .i64 d.room, .int .i64 d.next, .slice (some ⟨g, 0, none⟩) N k1, .slice A2 m2 k2, .slice A3 m3 k3] 32 := QK.out.other (by omega) _ _
      have zR : Blk (w5.setCell ⟨g, j * 3 + 2, none⟩ (.int .i64 (xd.size : Int))).drew (w.heap.size + 1) #[.int .i64 0, .int .i64 0, .slice none 0 0, .slice none 0 0, .slice none 0 0] 32 := QR.out.other (by omega) _ _
      have z1 := P1.out.kept (w' := (w5.setCell ⟨g, j * 3 + 2, none⟩ (.int .i64 (xd.size : Int))).drew) fun _ _ _ => rfl
      have z2 := (Q2.out.other (Q1.out.apart Q2.out (by decide) g rfl) (j * 3 + 2) (.int .i64 (xd.size : Int))).kept (w' := (w5.setCell ⟨g, j * 3 + 2, none⟩ (.int .i64 (xd.size : Int))).drew) fun _ _ _ => rfl
      have z3 := (Q3.out.other (Q1.out.apart Q3.out (by decide) g rfl) (j * 3 + 2) (.int .i64 (xd.size : Int))).kept (w' := (w5.setCell ⟨g, j * 3 + 2, none⟩ (.int .i64 (xd.size : Int))).drew) fun _ _ _ => rfl
      have zB : Below w.heap.size w (w5.setCell ⟨g, j * 3 + 2, none⟩ (.int .i64 (xd.size : Int))).drew := (QB.out.setCell (p := ⟨g, j * 3 + 2, none⟩) (show w.heap.size ≤ g by omega) _).drew
      clear cD cS fS x2 S0 Q1 Q2 Q3 QB QK QR P1
      generalize (w5.setCell ⟨g, j * 3 + 2, none⟩ (.int .i64 (xd.size : Int))).drew = Z at *
      have ZK : Hid (Blk Z w.heap.size #[.int .i64 d.room, .int .i64 d.next, .slice (some ⟨g, 0, none⟩) N k1, .slice A2 m2 k2, .slice A3 m3 k3] 32) := zK
      have ZR : Hid (Blk Z (w.heap.size + 1) #[.int .i64 0, .int .i64 0, .slice none 0 0, .slice none 0 0, .slice none 0 0] 32) := zR
      have Z1 : Hid (Owns Z w2.heap.size 57 3 (.slice (some ⟨g, 0, none⟩) N k1) _) := z1
      have Z2 : Hid (Owns Z w2.heap.size 99 2 (.slice A2 m2 k2) (lnkR d.dir)) := z2
      have Z3 : Hid (Owns Z w2.heap.size 59 4 (.slice A3 m3 k3) (movR d.movs)) := z3
      have ZB : Hid (Below w.heap.size w Z) := zB
      have hm : w.heap.size ≤ w2.heap.size := B2.out.size
      clear zK zR z1 z2 z3 zB
      have r0 := ZK.out.cell 0 _ rfl
      have r1 := ZK.out.cell 1 _ rfl
      have r2 := ZK.out.cell 2 _ rfl
      have r3 := ZK.out.cell 3 _ rfl
      have r4 := ZK.out.cell 4 _ rfl
      have g0 := ZR.out.cell 0 _ rfl
      have f0 := ZR.out.free 0
      have g1 := ZR.out.cell 1 _ rfl
      have f1 := ZR.out.free 1
      have g2 := ZR.out.cell 2 _ rfl
      have f2 := ZR.out.free 2
      have g3 := ZR.out.cell 3 _ rfl
      have f3 := ZR.out.free 3
      have g4 := ZR.out.cell 4 _ rfl
      have f4 := ZR.out.free 4
      go_wp2_with fail
      have hB := ZB.out
      clear r0 r1 r2 r3 r4
      have FB := (((((hB.setCell hg (.int .i64 d.room) (p := ⟨_, 0, none⟩)).setCell hg (.int .i64 d.next) (p := ⟨_, 1, none⟩)).setCell hg (.slice (some ⟨g, 0, none⟩) N k1) (p := ⟨_, 2, none⟩)).setCell hg (.slice A2 m2 k2) (p := ⟨_, 3, none⟩)).setCell hg (.slice A3 m3 k3) (p := ⟨_, 4, none⟩))
      have hF := (((((ZR.out.set 0 (.int .i64 d.room)).set 1 (.int .i64 d.next)).set 2 (.slice (some ⟨g, 0, none⟩) N k1)).set 3 (.slice A2 m2 k2)).set 4 (.slice A3 m3 k3))
      have mm0 := Z1.out.notBlk ZR.out (by decide)
      have F0 := (((((Z1.out.other mm0 0 (.int .i64 d.room)).other mm0 1 (.int .i64 d.next)).other mm0 2 (.slice (some ⟨g, 0, none⟩) N k1)).other mm0 3 (.slice A2 m2 k2)).other mm0 4 (.slice A3 m3 k3))
      have mm1 := Z2.out.notBlk ZR.out (by decide)
      have F1 := (((((Z2.out.other mm1 0 (.int .i64 d.room)).other mm1 1 (.int .i64 d.next)).other mm1 2 (.slice (some ⟨g, 0, none⟩) N k1)).other mm1 3 (.slice A2 m2 k2)).other mm1 4 (.slice A3 m3 k3))
      have mm2 := Z3.out.notBlk ZR.out (by decide)
      have F2 := (((((Z3.out.other mm2 0 (.int .i64 d.room)).other mm2 1 (.int .i64 d.next)).other mm2 2 (.slice (some ⟨g, 0, none⟩) N k1)).other mm2 3 (.slice A2 m2 k2)).other mm2 4 (.slice A3 m3 k3))
      clear g0 f0 g1 f1 g2 f2 g3 f3 g4 f4
      generalize (((((Z.setCell ⟨w.heap.size + 1, 0, none⟩ (.int .i64 d.room)).setCell ⟨w.heap.size + 1, 1, none⟩ (.int .i64 d.next)).setCell ⟨w.heap.size + 1, 2, none⟩ (.slice (some ⟨g, 0, none⟩) N k1)).setCell ⟨w.heap.size + 1, 3, none⟩ (.slice A2 m2 k2)).setCell ⟨w.heap.size + 1, 4, none⟩ (.slice A3 m3 k3)) = WF at *
      have hG : Blk WF (w.heap.size + 1) #[.int .i64 d.room, .int .i64 d.next, .slice (some ⟨g, 0, none⟩) N k1, .slice A2 m2 k2, .slice A3 m3 k3] 32 := hF
      have l0 := hG.cell 0 (.int .i64 d.room) rfl
      have l1 := hG.cell 1 (.int .i64 d.next) rfl
      have l2 := hG.cell 2 (.slice (some ⟨g, 0, none⟩) N k1) rfl
      have l3 := hG.cell 3 (.slice A2 m2 k2) rfl
      have l4 := hG.cell 4 (.slice A3 m3 k3) rfl
      exact bodyPost_ret (v := .tuple #[.agg #[.int .i64 d.room, .int .i64 d.next, .slice (some ⟨g, 0, none⟩) N k1, .slice A2 m2 k2, .slice A3 m3 k3], .int .i64 0]) (by simp [results, go_sem, l0, l1, l2, l3, l4]) rfl (by rw [hRR]; exact ⟨_, rfl, ⟨_, _, _, rfl, F0.mono hm, F1.mono hm, F2.mono hm⟩, FB⟩)
end Go.Proofs.YtljpakpokjpemaaGreat
