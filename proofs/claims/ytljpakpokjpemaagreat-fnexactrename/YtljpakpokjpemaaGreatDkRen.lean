/-
  The contracts of impl.Rename and spec.Rename.
-/
import Derived.Test.YtljpakpokjpemaaGreatRows
import Derived.Test.YtljpakpokjpemaaGreatDkMoved
namespace Go.Proofs.YtljpakpokjpemaaGreat
open Go.ChangeShapes Go.WideShapes Go.ChangeAt Go.RowKit Go.PlainAid
set_option linter.unusedVariables false

/-- The code of a Rename ahead of the moves' count. -/
def renC (d : Dsk) (src dest : ByteArray) : Int := if nameOk dest = false ∨ src = dest then 1 else named d src
theorem renC_bad {d : Dsk} {src dest : ByteArray} (h : nameOk dest = false ∨ src = dest) : renC d src dest = 1 := by unfold renC; rw [if_pos h]
theorem renC_ok {d : Dsk} {src dest : ByteArray} (h : ¬ (nameOk dest = false ∨ src = dest)) : renC d src dest = named d src := by unfold renC; rw [if_neg h]

set_option maxHeartbeats 1000000 in
theorem renameFileV (w : World) (base p : Nat) (d : Dsk) (bi bd bw : Nat) (gs : List Nat) (u : Value) (src dest : ByteArray) (h : OpenD w base p d bi bd bw gs u) (hd : Whole d) (hw : wtD d ≤ 1048576) (hs : src.size ≤ maxLen) (hs' : dest.size ≤ maxLen) (hB : base ≤ w.heap.size) :
    Calls Tryz.prog 62 #[.pointer (some ⟨p, 0, none⟩), .string src, .string dest] w fun e w' => e = .returned (.int .i64 (movedC d ⟨2, src, dest, 0⟩ (renC d src dest)).2) ∧ Tellable w' p (movedC d ⟨2, src, dest, 0⟩ (renC d src dest)).1 ∧ Below base w w' := by
  have cF := findI w base p d bi bd bw gs u src h hd hs
  have cI := isNameV dest w (by unfold maxLen at hs'; omega)
  have HT : Hid (Tellable w p d) := h.tell hd hw
  have cM := fun (hn : nameOk src = true) (hn' : nameOk dest = true) => addMoveV w base p d bi bd bw gs u 2 src dest 0 h hd hw (by have := name_size hn; omega) (by have := name_size hn'; omega) hB
  have heq := toList_beq src dest
  clear h hd hw hs hs' hB
  cases hno : nameOk dest with
  | false =>
    rw [hno] at cI
    have HR : Hid (movedC d ⟨2, src, dest, 0⟩ (renC d src dest) = (d, 1)) := by unfold Hid; rw [renC_bad (.inl hno), movedC_no (by omega)]
    clear cM cF hno heq
    go_enter Tryz.func62, Tryz.ntmps62
    go_wp2_with fail
    refine cI.mono ?_
    rintro e w1 ⟨rfl, rfl⟩
    go_wp2_with fail
    go_ret
    exact ⟨by rw [HR.out]; rfl, by rw [HR.out]; exact HT.out, Below.refl _ _⟩
  | true =>
    rw [hno] at cI
    by_cases hst : src = dest
    · have HR : Hid (movedC d ⟨2, src, dest, 0⟩ (renC d src dest) = (d, 1)) := by unfold Hid; rw [renC_bad (.inr hst), movedC_no (by omega)]
      rw [decide_eq_true hst] at heq
      clear cM cF hno hst
      go_enter Tryz.func62, Tryz.ntmps62
      go_wp2_with fail
      refine cI.mono ?_
      rintro e w1 ⟨rfl, rfl⟩
      go_wp2_with fail
      go_ret
      exact ⟨by rw [HR.out]; rfl, by rw [HR.out]; exact HT.out, Below.refl _ _⟩
    · rw [decide_eq_false hst] at heq
      have HRC : Hid (renC d src dest = named d src) := renC_ok (by rintro (h1 | h1); rw [hno] at h1; cases h1; exact hst h1)
      have cM := fun hn => cM hn hno
      clear hno hst
      go_enter Tryz.func62, Tryz.ntmps62
      go_wp2_with fail
      refine cI.mono ?_
      rintro e w1 ⟨rfl, rfl⟩
      go_wp2_with fail
      refine cF.mono ?_
      rintro e w1 ⟨rfl, hF⟩
      clear cF cI
      rcases hF with ⟨hn, rfl⟩ | ⟨hn, hf, rfl⟩ | ⟨hn, j, hf, hj, rfl⟩
      · have HR : Hid (movedC d ⟨2, src, dest, 0⟩ (renC d src dest) = (d, 1)) := by unfold Hid; rw [HRC.out, named_bad hn, movedC_no (by omega)]
        clear hn cM
        go_wp2_with fail
        go_ret
        exact ⟨by rw [HR.out]; rfl, by rw [HR.out]; exact HT.out, Below.refl _ _⟩
      · have HR : Hid (movedC d ⟨2, src, dest, 0⟩ (renC d src dest) = (d, 2)) := by unfold Hid; rw [HRC.out, named_none hn hf, movedC_no (by omega)]
        clear hn hf cM
        go_wp2_with fail
        go_ret
        exact ⟨by rw [HR.out]; rfl, by rw [HR.out]; exact HT.out, Below.refl _ _⟩
      · have HR : Hid (movedC d ⟨2, src, dest, 0⟩ (renC d src dest) = movedD d ⟨2, src, dest, 0⟩) := by unfold Hid; rw [HRC.out, named_some hn hf, movedC_yes]
        have cM := cM hn
        clear hn hf hj
        generalize movedD d ⟨2, src, dest, 0⟩ = RR at *
        go_wp2_with fail
        refine cM.mono ?_
        rintro e w2 ⟨rfl, hT, hb⟩
        have HT2 : Hid (Tellable w2 p RR.1) := hT
        clear hT cM
        go_wp2_with fail
        go_ret
        exact ⟨by rw [HR.out]; rfl, by rw [HR.out]; exact HT2.out, hb⟩


/-- What Rename answers. -/
def renameR (d : Dsk) (src : ByteArray) (dest : ByteArray) : Dsk × Int := if diskOk d = true then ((movedC d ⟨2, src, dest, 0⟩ (renC d src dest)).1, (movedC d ⟨2, src, dest, 0⟩ (renC d src dest)).2) else (zeroD, 1)
theorem renameR_yes {d : Dsk} {src dest : ByteArray} (h : diskOk d = true) : renameR d src dest = ((movedC d ⟨2, src, dest, 0⟩ (renC d src dest)).1, (movedC d ⟨2, src, dest, 0⟩ (renC d src dest)).2) := by unfold renameR; rw [if_pos h]
theorem renameR_no {d : Dsk} {src dest : ByteArray} (h : diskOk d = false) : renameR d src dest = (zeroD, 1) := by unfold renameR; rw [if_neg (by rw [h]; simp)]

set_option maxHeartbeats 1000000 in
theorem rename1V (w : World) (base p : Nat) (d : Dsk) (bi bd bw : Nat) (gs : List Nat) (u : Value) (src : ByteArray) (dest : ByteArray) (b0 b1 : Nat) (h : OpenD w base p d bi bd bw gs u) (hd : Whole d) (hw : wtD d ≤ 1048576) (hs0 : src.size ≤ maxLen) (hs1 : dest.size ≤ maxLen) (hB : base ≤ w.heap.size) (hc0 : w.cell? ⟨b0, 0, none⟩ = some (.string src)) (hc1 : w.cell? ⟨b1, 0, none⟩ = some (.string dest)) :
    Calls Tryz.prog 61 #[.pointer (some ⟨p, 0, none⟩), .pointer (some ⟨b0, 0, none⟩), .pointer (some ⟨b1, 0, none⟩)] w fun e w' => e = .returned (.int .i64 ((movedC d ⟨2, src, dest, 0⟩ (renC d src dest)).2)) ∧ Tellable w' p ((movedC d ⟨2, src, dest, 0⟩ (renC d src dest)).1) ∧ Below base w w' := by
  have cF := renameFileV w base p d bi bd bw gs u src dest h hd hw hs0 hs1 hB
  clear h hd hw hB hs0 hs1
  go_enter Tryz.func61, Tryz.ntmps61
  go_wp2_with fail
  refine cF.mono ?_
  rintro e w1 ⟨rfl, hT, hb⟩
  have HT : Hid (Tellable w1 p ((movedC d ⟨2, src, dest, 0⟩ (renC d src dest)).1)) := hT
  clear hT
  go_wp2_with fail
  go_ret
  exact ⟨rfl, HT.out, hb⟩

set_option maxRecDepth 20000 in
set_option maxHeartbeats 2000000 in
theorem implRenameV (d : Dsk) (v : Value) (src : ByteArray) (dest : ByteArray) (w : World) (B : Nat) (hv : DiskV w B v d) (hf : Fits d) (hi : IntsOk d) (hw : wtD d ≤ 1048576) (hB : B ≤ w.heap.size) (hs0 : src.size ≤ maxLen) (hs1 : dest.size ≤ maxLen) :
    Calls Tryz.prog 22 #[v, .string src, .string dest] w fun e w' => ∃ x, e = .returned (.tuple #[x, .int .i64 (renameR d src dest).2]) ∧ DiskO w' w.heap.size x (renameR d src dest).1 ∧ Below w.heap.size w w' := by
  have HV : Hid (DiskV w B v d) := hv
  have HB : Hid (B ≤ w.heap.size) := hB
  have HF : Hid (Fits d) := hf
  have HI : Hid (IntsOk d) := hi
  have HW : Hid (wtD d ≤ 1048576) := hw
  have HS0 : Hid (src.size ≤ maxLen) := hs0
  have HS1 : Hid (dest.size ≤ maxLen) := hs1
  obtain ⟨v1, v2, v3, rfl, h1, h2, h3⟩ := hv
  clear h1 h2 h3 hB hf hi hw hs0 hs1
  go_enter Tryz.func22, Tryz.ntmps22
  go_wp2_with fail
  have hsz : ((((w.alloc (.cells #[.int .i64 d.room, .int .i64 d.next, v1, v2, v3] 32)).alloc (.cells #[.string src] 9)).alloc (.cells #[.string dest] 9)).alloc (.cells #[.int .i64 0, .int .i64 0, .slice none 0 0, .slice none 0 0, .slice none 0 0] 32)).heap.size = w.heap.size + 1 + 1 + 1 + 1 := by simp
  have hb0 : Below w.heap.size w (((w.alloc (.cells #[.int .i64 d.room, .int .i64 d.next, v1, v2, v3] 32)).alloc (.cells #[.string src] 9)).alloc (.cells #[.string dest] 9)) := ((((Below.refl _ w).alloc (Nat.le_refl _) _).alloc (by simp only [World.size_alloc]; omega) _).alloc (by simp only [World.size_alloc]; omega) _)
  have bR := Blk.new (((w.alloc (.cells #[.int .i64 d.room, .int .i64 d.next, v1, v2, v3] 32)).alloc (.cells #[.string src] 9)).alloc (.cells #[.string dest] 9)) #[.int .i64 0, .int .i64 0, .slice none 0 0, .slice none 0 0, .slice none 0 0] 32
  have bn0 := Blk.new (w.alloc (.cells #[.int .i64 d.room, .int .i64 d.next, v1, v2, v3] 32)) #[.string src] 9
  have bn1 := Blk.new ((w.alloc (.cells #[.int .i64 d.room, .int .i64 d.next, v1, v2, v3] 32)).alloc (.cells #[.string src] 9)) #[.string dest] 9
  simp only [World.size_alloc] at bR bn0 bn1
  have cn0 := ((bn0.alloc (.cells #[.string dest] 9)).alloc (.cells #[.int .i64 0, .int .i64 0, .slice none 0 0, .slice none 0 0, .slice none 0 0] 32))
  have cn1 := (bn1.alloc (.cells #[.int .i64 0, .int .i64 0, .slice none 0 0, .slice none 0 0, .slice none 0 0] 32))
  have hb1 := hb0.alloc (by simp only [World.size_alloc]; omega) (.cells #[.int .i64 0, .int .i64 0, .slice none 0 0, .slice none 0 0, .slice none 0 0] 32)
  clear hb0 bn0 bn1
  generalize (((w.alloc (.cells #[.int .i64 d.room, .int .i64 d.next, v1, v2, v3] 32)).alloc (.cells #[.string src] 9)).alloc (.cells #[.string dest] 9)).alloc (.cells #[.int .i64 0, .int .i64 0, .slice none 0 0, .slice none 0 0, .slice none 0 0] 32) = W at *
  have B0 : Hid (Below w.heap.size w W) := hb1
  have R0 : Hid (Blk W (w.heap.size + 1 + 1 + 1) #[.int .i64 0, .int .i64 0, .slice none 0 0, .slice none 0 0, .slice none 0 0] 32) := bR
  have N0 : Hid (Blk W (w.heap.size + 1) #[.string src] 9) := cn0
  have N1 : Hid (Blk W (w.heap.size + 1 + 1) #[.string dest] 9) := cn1
  have SZ : Hid (W.heap.size = w.heap.size + 1 + 1 + 1 + 1) := hsz
  clear hb1 bR hsz cn0 cn1
  have cC := changedV d (.agg #[.int .i64 d.room, .int .i64 d.next, v1, v2, v3]) W B (HV.out.on (B0.out.mono HB.out)) HF.out HI.out HW.out (Nat.le_trans HB.out B0.out.size) 61 #[.pointer (some ⟨w.heap.size + 1, 0, none⟩), .pointer (some ⟨w.heap.size + 1 + 1, 0, none⟩)] ((movedC d ⟨2, src, dest, 0⟩ (renC d src dest)).1) ((movedC d ⟨2, src, dest, 0⟩ (renC d src dest)).2) (enters_of Tryz.func61 (by kernel_rfl) rfl)
    (fun w1 base p bi bd bw gs u hd hb hl hl2 hO => rename1V w1 base p d bi bd bw gs u src dest (w.heap.size + 1) (w.heap.size + 1 + 1) hO hd HW.out HS0.out HS1.out hl2 ((N0.out.on hb N0.out.lt).cell 0 _ rfl) ((N1.out.on hb N1.out.lt).cell 0 _ rfl))
  have hmf : ∀ (fn : Fn) (first cap : Array Value) (w : World), (Instr.makeFunc fn first cap).run Tryz.prog w = .ok (.func fn first cap) w := fun _ _ _ _ => rfl
  try go_wp2_with fail
  refine cC.mono ?_
  rintro e w3 ⟨x, y, rfl, hx, hb3⟩
  have B3 : Hid (Below w.heap.size w w3) := B0.out.trans (hb3.mono B0.out.size)
  have R3 : Hid (Blk w3 (w.heap.size + 1 + 1 + 1) #[.int .i64 0, .int .i64 0, .slice none 0 0, .slice none 0 0, .slice none 0 0] 32) := R0.out.on hb3 R0.out.lt
  have HX : Hid (y = (renameR d src dest).2 ∧ DiskO w3 w.heap.size x (renameR d src dest).1) := by
    rcases hx with ⟨hk, rfl, ho⟩ | ⟨hk, rfl, ho⟩
    · rw [renameR_yes hk]
      exact ⟨rfl, ho.mono B0.out.size⟩
    · rw [renameR_no hk]
      exact ⟨rfl, ho.mono B0.out.size⟩
  clear cC hx hb3
  generalize hRR : renameR d src dest = RR at HX
  obtain ⟨rfl, hO3⟩ := HX.out
  obtain ⟨x1, x2, x3, rfl, o1, o2, o3⟩ := hO3
  obtain ⟨A1, m1, k1, rfl⟩ := o1.shape
  obtain ⟨A2, m2, k2, rfl⟩ := o2.shape
  obtain ⟨A3, m3, k3, rfl⟩ := o3.shape
  have O1 : Hid (Owns w3 w.heap.size 57 3 (.slice A1 m1 k1) (nodR RR.1.nods)) := o1
  have O2 : Hid (Owns w3 w.heap.size 99 2 (.slice A2 m2 k2) (lnkR RR.1.dir)) := o2
  have O3 : Hid (Owns w3 w.heap.size 59 4 (.slice A3 m3 k3) (movR RR.1.movs)) := o3
  clear HX o1 o2 o3
  have g0 := R3.out.cell 0 _ rfl
  have f0 := R3.out.free 0
  have g1 := R3.out.cell 1 _ rfl
  have f1 := R3.out.free 1
  have g2 := R3.out.cell 2 _ rfl
  have f2 := R3.out.free 2
  have g3 := R3.out.cell 3 _ rfl
  have f3 := R3.out.free 3
  have g4 := R3.out.cell 4 _ rfl
  have f4 := R3.out.free 4
  go_wp2_with fail
  have hg : w.heap.size ≤ w.heap.size + 1 + 1 + 1 := by omega
  have hB := B3.out
  have FB := (((((hB.setCell hg (.int .i64 RR.1.room) (p := ⟨_, 0, none⟩)).setCell hg (.int .i64 RR.1.next) (p := ⟨_, 1, none⟩)).setCell hg (.slice A1 m1 k1) (p := ⟨_, 2, none⟩)).setCell hg (.slice A2 m2 k2) (p := ⟨_, 3, none⟩)).setCell hg (.slice A3 m3 k3) (p := ⟨_, 4, none⟩))
  have hF := (((((R3.out.set 0 (.int .i64 RR.1.room)).set 1 (.int .i64 RR.1.next)).set 2 (.slice A1 m1 k1)).set 3 (.slice A2 m2 k2)).set 4 (.slice A3 m3 k3))
  have mm0 := O1.out.notBlk R3.out (by decide)
  have F0 := (((((O1.out.other mm0 0 (.int .i64 RR.1.room)).other mm0 1 (.int .i64 RR.1.next)).other mm0 2 (.slice A1 m1 k1)).other mm0 3 (.slice A2 m2 k2)).other mm0 4 (.slice A3 m3 k3))
  have mm1 := O2.out.notBlk R3.out (by decide)
  have F1 := (((((O2.out.other mm1 0 (.int .i64 RR.1.room)).other mm1 1 (.int .i64 RR.1.next)).other mm1 2 (.slice A1 m1 k1)).other mm1 3 (.slice A2 m2 k2)).other mm1 4 (.slice A3 m3 k3))
  have mm2 := O3.out.notBlk R3.out (by decide)
  have F2 := (((((O3.out.other mm2 0 (.int .i64 RR.1.room)).other mm2 1 (.int .i64 RR.1.next)).other mm2 2 (.slice A1 m1 k1)).other mm2 3 (.slice A2 m2 k2)).other mm2 4 (.slice A3 m3 k3))
  clear g0 f0 g1 f1 g2 f2 g3 f3 g4 f4
  generalize (((((w3.setCell ⟨w.heap.size + 1 + 1 + 1, 0, none⟩ (.int .i64 RR.1.room)).setCell ⟨w.heap.size + 1 + 1 + 1, 1, none⟩ (.int .i64 RR.1.next)).setCell ⟨w.heap.size + 1 + 1 + 1, 2, none⟩ (.slice A1 m1 k1)).setCell ⟨w.heap.size + 1 + 1 + 1, 3, none⟩ (.slice A2 m2 k2)).setCell ⟨w.heap.size + 1 + 1 + 1, 4, none⟩ (.slice A3 m3 k3)) = WF at *
  have hG : Blk WF (w.heap.size + 1 + 1 + 1) #[.int .i64 RR.1.room, .int .i64 RR.1.next, .slice A1 m1 k1, .slice A2 m2 k2, .slice A3 m3 k3] 32 := hF
  have l0 := hG.cell 0 (.int .i64 RR.1.room) rfl
  have l1 := hG.cell 1 (.int .i64 RR.1.next) rfl
  have l2 := hG.cell 2 (.slice A1 m1 k1) rfl
  have l3 := hG.cell 3 (.slice A2 m2 k2) rfl
  have l4 := hG.cell 4 (.slice A3 m3 k3) rfl
  exact bodyPost_ret (v := .tuple #[.agg #[.int .i64 RR.1.room, .int .i64 RR.1.next, .slice A1 m1 k1, .slice A2 m2 k2, .slice A3 m3 k3], .int .i64 RR.2]) (by simp [results, go_sem, l0, l1, l2, l3, l4]) rfl (by rw [hRR]; exact ⟨_, rfl, ⟨_, _, _, rfl, F0, F1, F2⟩, FB⟩)
theorem movedD_len (d : Dsk) (m : Mov) : (movedD d m).1.nods = d.nods ∧ (movedD d m).1.dir = d.dir ∧ (movedD d m).1.movs.length ≤ d.movs.length + 1 := by
  unfold movedD
  split
  · exact ⟨rfl, rfl, Nat.le_succ _⟩
  · refine ⟨rfl, rfl, ?_⟩
    show (d.movs ++ [m]).length ≤ _
    rw [List.length_append]
    exact Nat.le_refl _
theorem movedC_len (d : Dsk) (m : Mov) (c : Int) : (movedC d m c).1.nods = d.nods ∧ (movedC d m c).1.dir = d.dir ∧ (movedC d m c).1.movs.length ≤ d.movs.length + 1 := by
  unfold movedC
  split
  · exact movedD_len d m
  · exact ⟨rfl, rfl, Nat.le_succ _⟩
theorem renameR_len (d : Dsk) (src dest : ByteArray) (hf : Fits d) : (renameR d src dest).1.nods.length ≤ 1000 ∧ (renameR d src dest).1.dir.length ≤ 1000 ∧ (renameR d src dest).1.movs.length ≤ 1000 := by
  cases h : diskOk d with
  | false =>
    rw [renameR_no h]
    exact ⟨by show 0 ≤ 1000; omega, by show 0 ≤ 1000; omega, by show 0 ≤ 1000; omega⟩
  | true =>
    rw [renameR_yes h]
    have hR := (sizeOk_iff d).1 ((whole_iff d).1 h).size
    have h1 := movedC_len d ⟨2, src, dest, 0⟩ (renC d src dest)
    have := hR.l
    have := hR.m
    have := hR.n
    refine ⟨?_, ?_, ?_⟩
    · show (movedC d ⟨2, src, dest, 0⟩ (renC d src dest)).1.nods.length ≤ 1000
      rw [h1.1]
      omega
    · show (movedC d ⟨2, src, dest, 0⟩ (renC d src dest)).1.dir.length ≤ 1000
      rw [h1.2.1]
      omega
    · show (movedC d ⟨2, src, dest, 0⟩ (renC d src dest)).1.movs.length ≤ 1000
      have := h1.2.2
      omega

set_option maxRecDepth 20000 in
set_option maxHeartbeats 4000000 in
theorem specRenameV (d : Dsk) (v : Value) (src dest : ByteArray) (w : World) (B : Nat) (hv : DiskV w B v d) (hf : Fits d) (hw : wtD d ≤ 1048576) (hB : B ≤ w.heap.size) (hs : src.size ≤ maxLen) (hs' : dest.size ≤ maxLen) :
    Calls Tryz.prog 21 #[v, .string src, .string dest] w fun e w' => ∃ x, e = .returned (.tuple #[x, .int .i64 (renameR d src dest).2]) ∧ DiskO w' w.heap.size x (renameR d src dest).1 ∧ Below w.heap.size w w' := by
  have HV : Hid (DiskV w B v d) := hv
  have HF : Hid (Fits d) := hf
  have HB : Hid (B ≤ w.heap.size) := hB
  have HW : Hid (wtD d ≤ 1048576) := hw
  have HS : Hid (src.size ≤ maxLen) := hs
  have HS' : Hid (dest.size ≤ maxLen) := hs'
  have heq := toList_beq src dest
  obtain ⟨v1, v2, v3, rfl, h1, h2, h3⟩ := hv
  clear h1 h2 h3 hf hB hw hs hs'
  go_enter Tryz.func21, Tryz.ntmps21
  go_wp2_with fail
  have hb0 := below_alloc2' w (.cells #[.int .i64 d.room, .int .i64 d.next, v1, v2, v3] 32) (.cells #[.int .i64 0, .int .i64 0, .slice none 0 0, .slice none 0 0, .slice none 0 0] 32)
  have bA := (Blk.new w #[.int .i64 d.room, .int .i64 d.next, v1, v2, v3] 32).alloc (.cells #[.int .i64 0, .int .i64 0, .slice none 0 0, .slice none 0 0, .slice none 0 0] 32)
  have bR := Blk.new (w.alloc (.cells #[.int .i64 d.room, .int .i64 d.next, v1, v2, v3] 32)) #[.int .i64 0, .int .i64 0, .slice none 0 0, .slice none 0 0, .slice none 0 0] 32
  simp only [World.size_alloc] at bR
  generalize (w.alloc (.cells #[.int .i64 d.room, .int .i64 d.next, v1, v2, v3] 32)).alloc (.cells #[.int .i64 0, .int .i64 0, .slice none 0 0, .slice none 0 0, .slice none 0 0] 32) = W at *
  have B0 : Hid (Below w.heap.size w W) := hb0
  have K0 : Hid (Blk W w.heap.size #[.int .i64 d.room, .int .i64 d.next, v1, v2, v3] 32) := bA
  have R0 : Hid (Blk W (w.heap.size + 1) #[.int .i64 0, .int .i64 0, .slice none 0 0, .slice none 0 0, .slice none 0 0] 32) := bR
  clear hb0 bA bR
  refine (specOkV d _ W B (HV.out.on (B0.out.mono HB.out)) HF.out HW.out (Nat.le_trans HB.out B0.out.size)).mono ?_
  rintro e w1 ⟨rfl, hb1⟩
  have B1 : Hid (Below w.heap.size w w1) := B0.out.trans (hb1.mono B0.out.size)
  have K1 : Hid (Blk w1 w.heap.size #[.int .i64 d.room, .int .i64 d.next, v1, v2, v3] 32) := K0.out.on hb1 K0.out.lt
  have R1 : Hid (Blk w1 (w.heap.size + 1) #[.int .i64 0, .int .i64 0, .slice none 0 0, .slice none 0 0, .slice none 0 0] 32) := R0.out.on hb1 R0.out.lt
  clear hb1 K0 R0
  have hg : w.heap.size ≤ w.heap.size + 1 := by omega
  cases hok : diskOk d with
  | false =>
    have hRR : renameR d src dest = (zeroD, 1) := renameR_no hok
    clear hok heq
    have g0 := R1.out.cell 0 _ rfl
    have f0 := R1.out.free 0
    have g1 := R1.out.cell 1 _ rfl
    have f1 := R1.out.free 1
    have g2 := R1.out.cell 2 _ rfl
    have f2 := R1.out.free 2
    have g3 := R1.out.cell 3 _ rfl
    have f3 := R1.out.free 3
    have g4 := R1.out.cell 4 _ rfl
    have f4 := R1.out.free 4
    go_wp2_with fail
    have hB := B1.out
    have FB := (((((hB.setCell hg (.int .i64 0) (p := ⟨_, 0, none⟩)).setCell hg (.int .i64 0) (p := ⟨_, 1, none⟩)).setCell hg (.slice none 0 0) (p := ⟨_, 2, none⟩)).setCell hg (.slice none 0 0) (p := ⟨_, 3, none⟩)).setCell hg (.slice none 0 0) (p := ⟨_, 4, none⟩))
    have hF := (((((R1.out.set 0 (.int .i64 0)).set 1 (.int .i64 0)).set 2 (.slice none 0 0)).set 3 (.slice none 0 0)).set 4 (.slice none 0 0))
    clear g0 f0 g1 f1 g2 f2 g3 f3 g4 f4
    generalize (((((w1.setCell ⟨w.heap.size + 1, 0, none⟩ (.int .i64 0)).setCell ⟨w.heap.size + 1, 1, none⟩ (.int .i64 0)).setCell ⟨w.heap.size + 1, 2, none⟩ (.slice none 0 0)).setCell ⟨w.heap.size + 1, 3, none⟩ (.slice none 0 0)).setCell ⟨w.heap.size + 1, 4, none⟩ (.slice none 0 0)) = WF at *
    have hG : Blk WF (w.heap.size + 1) #[.int .i64 0, .int .i64 0, .slice none 0 0, .slice none 0 0, .slice none 0 0] 32 := hF
    have l0 := hG.cell 0 (.int .i64 0) rfl
    have l1 := hG.cell 1 (.int .i64 0) rfl
    have l2 := hG.cell 2 (.slice none 0 0) rfl
    have l3 := hG.cell 3 (.slice none 0 0) rfl
    have l4 := hG.cell 4 (.slice none 0 0) rfl
    exact bodyPost_ret (v := .tuple #[.agg #[.int .i64 0, .int .i64 0, .slice none 0 0, .slice none 0 0, .slice none 0 0], .int .i64 1]) (by simp [results, go_sem, l0, l1, l2, l3, l4]) rfl (by rw [hRR]; exact ⟨_, rfl, ⟨_, _, _, rfl, Owns.nil _ _ _ _, Owns.nil _ _ _ _, Owns.nil _ _ _ _⟩, FB⟩)
  | true =>
    have hR := (sizeOk_iff d).1 ((whole_iff d).1 hok).size
    have HSZ : Hid (d.dir.length + d.movs.length ≤ 1048575 ∧ d.nods.length ≤ 10 ∧ d.dir.length ≤ 1048576 ∧ d.movs.length ≤ 1048576) := by
      have := hR.l; have := hR.m; have := hR.n
      unfold Hid
      omega
    have hRR : Hid (renameR d src dest = movedC d ⟨2, src, dest, 0⟩ (renC d src dest)) := renameR_yes hok
    have cN := namedV d (.agg #[.int .i64 d.room, .int .i64 d.next, v1, v2, v3]) src w1 B (HV.out.on (B1.out.mono HB.out)) HF.out (by have := HS.out; unfold maxLen at this; omega) HSZ.out.1 (by have := HSZ.out; omega) (Nat.le_trans HB.out B1.out.size)
    have cM := fun wx hx hb => movedV d (.agg #[.int .i64 d.room, .int .i64 d.next, v1, v2, v3]) 2 src dest 0 (renC d src dest) wx B hx (by have := HSZ.out; omega) HSZ.out.2.2.1 HSZ.out.2.2.2 hb
    have hRC : Hid ((nameOk dest = false ∨ src = dest → renC d src dest = 1) ∧ (¬ (nameOk dest = false ∨ src = dest) → renC d src dest = named d src)) := ⟨renC_bad, renC_ok⟩
    generalize movedC d ⟨2, src, dest, 0⟩ (renC d src dest) = RR at *
    generalize renC d src dest = rc at *
    generalize named d src = nc at *
    clear hR hok
    have y0 := K1.out.cell 0 _ rfl
    have y1 := K1.out.cell 1 _ rfl
    have y2 := K1.out.cell 2 _ rfl
    have y3 := K1.out.cell 3 _ rfl
    have y4 := K1.out.cell 4 _ rfl
    go_wp2_with fail
    refine cN.mono ?_
    rintro e w2 ⟨rfl, hb2⟩
    have B2 : Hid (Below w.heap.size w w2) := B1.out.trans (hb2.mono B1.out.size)
    have K2 : Hid (Blk w2 w.heap.size #[.int .i64 d.room, .int .i64 d.next, v1, v2, v3] 32) := K1.out.on hb2 K1.out.lt
    have R2 : Hid (Blk w2 (w.heap.size + 1) #[.int .i64 0, .int .i64 0, .slice none 0 0, .slice none 0 0, .slice none 0 0] 32) := R1.out.on hb2 R1.out.lt
    have cI := nameV dest w2 (by have := HS'.out; unfold maxLen at this; omega)
    clear cN hb2 y0 y1 y2 y3 y4 K1 R1
    go_wp2_with fail
    refine cI.mono ?_
    rintro e wq ⟨rfl, rfl⟩
    clear cI
    have y0 := K2.out.cell 0 _ rfl
    have y1 := K2.out.cell 1 _ rfl
    have y2 := K2.out.cell 2 _ rfl
    have y3 := K2.out.cell 3 _ rfl
    have y4 := K2.out.cell 4 _ rfl
    have cMM := cM w2 (HV.out.on (B2.out.mono HB.out)) (Nat.le_trans HB.out B2.out.size)
    clear cM
    cases hno : nameOk dest with
    | false =>
      have hrc := hRC.out.1 (.inl hno)
      subst hrc
      clear hno heq hRC
      go_wp2_with fail
      refine cMM.mono ?_
      rintro e w3 ⟨x, rfl, hO3, hb3⟩
      have B3 : Hid (Below w.heap.size w w3) := B2.out.trans (hb3.mono B2.out.size)
      have R3 : Hid (Blk w3 (w.heap.size + 1) #[.int .i64 0, .int .i64 0, .slice none 0 0, .slice none 0 0, .slice none 0 0] 32) := R2.out.on hb3 R2.out.lt
      obtain ⟨x1, x2, x3, rfl, o1, o2, o3⟩ := hO3
      obtain ⟨A1, m1, k1, rfl⟩ := o1.shape
      obtain ⟨A2, m2, k2, rfl⟩ := o2.shape
      obtain ⟨A3, m3, k3, rfl⟩ := o3.shape
      have O1 : Hid (Owns w3 w.heap.size 57 3 (.slice A1 m1 k1) (nodR RR.1.nods)) := o1.mono B2.out.size
      have O2 : Hid (Owns w3 w.heap.size 99 2 (.slice A2 m2 k2) (lnkR RR.1.dir)) := o2.mono B2.out.size
      have O3 : Hid (Owns w3 w.heap.size 59 4 (.slice A3 m3 k3) (movR RR.1.movs)) := o3.mono B2.out.size
      clear cMM hb3 o1 o2 o3 y0 y1 y2 y3 y4
      have g0 := R3.out.cell 0 _ rfl
      have f0 := R3.out.free 0
      have g1 := R3.out.cell 1 _ rfl
      have f1 := R3.out.free 1
      have g2 := R3.out.cell 2 _ rfl
      have f2 := R3.out.free 2
      have g3 := R3.out.cell 3 _ rfl
      have f3 := R3.out.free 3
      have g4 := R3.out.cell 4 _ rfl
      have f4 := R3.out.free 4
      go_wp2_with fail
      have hB := B3.out
      have FB := (((((hB.setCell hg (.int .i64 RR.1.room) (p := ⟨_, 0, none⟩)).setCell hg (.int .i64 RR.1.next) (p := ⟨_, 1, none⟩)).setCell hg (.slice A1 m1 k1) (p := ⟨_, 2, none⟩)).setCell hg (.slice A2 m2 k2) (p := ⟨_, 3, none⟩)).setCell hg (.slice A3 m3 k3) (p := ⟨_, 4, none⟩))
      have hF := (((((R3.out.set 0 (.int .i64 RR.1.room)).set 1 (.int .i64 RR.1.next)).set 2 (.slice A1 m1 k1)).set 3 (.slice A2 m2 k2)).set 4 (.slice A3 m3 k3))
      have mm0 := O1.out.notBlk R3.out (by decide)
      have F0 := (((((O1.out.other mm0 0 (.int .i64 RR.1.room)).other mm0 1 (.int .i64 RR.1.next)).other mm0 2 (.slice A1 m1 k1)).other mm0 3 (.slice A2 m2 k2)).other mm0 4 (.slice A3 m3 k3))
      have mm1 := O2.out.notBlk R3.out (by decide)
      have F1 := (((((O2.out.other mm1 0 (.int .i64 RR.1.room)).other mm1 1 (.int .i64 RR.1.next)).other mm1 2 (.slice A1 m1 k1)).other mm1 3 (.slice A2 m2 k2)).other mm1 4 (.slice A3 m3 k3))
      have mm2 := O3.out.notBlk R3.out (by decide)
      have F2 := (((((O3.out.other mm2 0 (.int .i64 RR.1.room)).other mm2 1 (.int .i64 RR.1.next)).other mm2 2 (.slice A1 m1 k1)).other mm2 3 (.slice A2 m2 k2)).other mm2 4 (.slice A3 m3 k3))
      clear g0 f0 g1 f1 g2 f2 g3 f3 g4 f4
      generalize (((((w3.setCell ⟨w.heap.size + 1, 0, none⟩ (.int .i64 RR.1.room)).setCell ⟨w.heap.size + 1, 1, none⟩ (.int .i64 RR.1.next)).setCell ⟨w.heap.size + 1, 2, none⟩ (.slice A1 m1 k1)).setCell ⟨w.heap.size + 1, 3, none⟩ (.slice A2 m2 k2)).setCell ⟨w.heap.size + 1, 4, none⟩ (.slice A3 m3 k3)) = WF at *
      have hG : Blk WF (w.heap.size + 1) #[.int .i64 RR.1.room, .int .i64 RR.1.next, .slice A1 m1 k1, .slice A2 m2 k2, .slice A3 m3 k3] 32 := hF
      have l0 := hG.cell 0 (.int .i64 RR.1.room) rfl
      have l1 := hG.cell 1 (.int .i64 RR.1.next) rfl
      have l2 := hG.cell 2 (.slice A1 m1 k1) rfl
      have l3 := hG.cell 3 (.slice A2 m2 k2) rfl
      have l4 := hG.cell 4 (.slice A3 m3 k3) rfl
      exact bodyPost_ret (v := .tuple #[.agg #[.int .i64 RR.1.room, .int .i64 RR.1.next, .slice A1 m1 k1, .slice A2 m2 k2, .slice A3 m3 k3], .int .i64 RR.2]) (by simp [results, go_sem, l0, l1, l2, l3, l4]) rfl (by rw [hRR.out]; exact ⟨_, rfl, ⟨_, _, _, rfl, F0, F1, F2⟩, FB⟩)
    | true =>
      by_cases hst : src = dest
      · have hrc := hRC.out.1 (.inr hst)
        subst hrc
        rw [decide_eq_true hst] at heq
        clear hno hst hRC
        go_wp2_with fail
        refine cMM.mono ?_
        rintro e w3 ⟨x, rfl, hO3, hb3⟩
        have B3 : Hid (Below w.heap.size w w3) := B2.out.trans (hb3.mono B2.out.size)
        have R3 : Hid (Blk w3 (w.heap.size + 1) #[.int .i64 0, .int .i64 0, .slice none 0 0, .slice none 0 0, .slice none 0 0] 32) := R2.out.on hb3 R2.out.lt
        obtain ⟨x1, x2, x3, rfl, o1, o2, o3⟩ := hO3
        obtain ⟨A1, m1, k1, rfl⟩ := o1.shape
        obtain ⟨A2, m2, k2, rfl⟩ := o2.shape
        obtain ⟨A3, m3, k3, rfl⟩ := o3.shape
        have O1 : Hid (Owns w3 w.heap.size 57 3 (.slice A1 m1 k1) (nodR RR.1.nods)) := o1.mono B2.out.size
        have O2 : Hid (Owns w3 w.heap.size 99 2 (.slice A2 m2 k2) (lnkR RR.1.dir)) := o2.mono B2.out.size
        have O3 : Hid (Owns w3 w.heap.size 59 4 (.slice A3 m3 k3) (movR RR.1.movs)) := o3.mono B2.out.size
        clear cMM hb3 o1 o2 o3 y0 y1 y2 y3 y4
        have g0 := R3.out.cell 0 _ rfl
        have f0 := R3.out.free 0
        have g1 := R3.out.cell 1 _ rfl
        have f1 := R3.out.free 1
        have g2 := R3.out.cell 2 _ rfl
        have f2 := R3.out.free 2
        have g3 := R3.out.cell 3 _ rfl
        have f3 := R3.out.free 3
        have g4 := R3.out.cell 4 _ rfl
        have f4 := R3.out.free 4
        go_wp2_with fail
        have hB := B3.out
        have FB := (((((hB.setCell hg (.int .i64 RR.1.room) (p := ⟨_, 0, none⟩)).setCell hg (.int .i64 RR.1.next) (p := ⟨_, 1, none⟩)).setCell hg (.slice A1 m1 k1) (p := ⟨_, 2, none⟩)).setCell hg (.slice A2 m2 k2) (p := ⟨_, 3, none⟩)).setCell hg (.slice A3 m3 k3) (p := ⟨_, 4, none⟩))
        have hF := (((((R3.out.set 0 (.int .i64 RR.1.room)).set 1 (.int .i64 RR.1.next)).set 2 (.slice A1 m1 k1)).set 3 (.slice A2 m2 k2)).set 4 (.slice A3 m3 k3))
        have mm0 := O1.out.notBlk R3.out (by decide)
        have F0 := (((((O1.out.other mm0 0 (.int .i64 RR.1.room)).other mm0 1 (.int .i64 RR.1.next)).other mm0 2 (.slice A1 m1 k1)).other mm0 3 (.slice A2 m2 k2)).other mm0 4 (.slice A3 m3 k3))
        have mm1 := O2.out.notBlk R3.out (by decide)
        have F1 := (((((O2.out.other mm1 0 (.int .i64 RR.1.room)).other mm1 1 (.int .i64 RR.1.next)).other mm1 2 (.slice A1 m1 k1)).other mm1 3 (.slice A2 m2 k2)).other mm1 4 (.slice A3 m3 k3))
        have mm2 := O3.out.notBlk R3.out (by decide)
        have F2 := (((((O3.out.other mm2 0 (.int .i64 RR.1.room)).other mm2 1 (.int .i64 RR.1.next)).other mm2 2 (.slice A1 m1 k1)).other mm2 3 (.slice A2 m2 k2)).other mm2 4 (.slice A3 m3 k3))
        clear g0 f0 g1 f1 g2 f2 g3 f3 g4 f4
        generalize (((((w3.setCell ⟨w.heap.size + 1, 0, none⟩ (.int .i64 RR.1.room)).setCell ⟨w.heap.size + 1, 1, none⟩ (.int .i64 RR.1.next)).setCell ⟨w.heap.size + 1, 2, none⟩ (.slice A1 m1 k1)).setCell ⟨w.heap.size + 1, 3, none⟩ (.slice A2 m2 k2)).setCell ⟨w.heap.size + 1, 4, none⟩ (.slice A3 m3 k3)) = WF at *
        have hG : Blk WF (w.heap.size + 1) #[.int .i64 RR.1.room, .int .i64 RR.1.next, .slice A1 m1 k1, .slice A2 m2 k2, .slice A3 m3 k3] 32 := hF
        have l0 := hG.cell 0 (.int .i64 RR.1.room) rfl
        have l1 := hG.cell 1 (.int .i64 RR.1.next) rfl
        have l2 := hG.cell 2 (.slice A1 m1 k1) rfl
        have l3 := hG.cell 3 (.slice A2 m2 k2) rfl
        have l4 := hG.cell 4 (.slice A3 m3 k3) rfl
        exact bodyPost_ret (v := .tuple #[.agg #[.int .i64 RR.1.room, .int .i64 RR.1.next, .slice A1 m1 k1, .slice A2 m2 k2, .slice A3 m3 k3], .int .i64 RR.2]) (by simp [results, go_sem, l0, l1, l2, l3, l4]) rfl (by rw [hRR.out]; exact ⟨_, rfl, ⟨_, _, _, rfl, F0, F1, F2⟩, FB⟩)
      · have hrc := hRC.out.2 (by rintro (h1 | h1); rw [hno] at h1; cases h1; exact hst h1)
        subst hrc
        rw [decide_eq_false hst] at heq
        clear hno hst hRC
        go_wp2_with fail
        refine cMM.mono ?_
        rintro e w3 ⟨x, rfl, hO3, hb3⟩
        have B3 : Hid (Below w.heap.size w w3) := B2.out.trans (hb3.mono B2.out.size)
        have R3 : Hid (Blk w3 (w.heap.size + 1) #[.int .i64 0, .int .i64 0, .slice none 0 0, .slice none 0 0, .slice none 0 0] 32) := R2.out.on hb3 R2.out.lt
        obtain ⟨x1, x2, x3, rfl, o1, o2, o3⟩ := hO3
        obtain ⟨A1, m1, k1, rfl⟩ := o1.shape
        obtain ⟨A2, m2, k2, rfl⟩ := o2.shape
        obtain ⟨A3, m3, k3, rfl⟩ := o3.shape
        have O1 : Hid (Owns w3 w.heap.size 57 3 (.slice A1 m1 k1) (nodR RR.1.nods)) := o1.mono B2.out.size
        have O2 : Hid (Owns w3 w.heap.size 99 2 (.slice A2 m2 k2) (lnkR RR.1.dir)) := o2.mono B2.out.size
        have O3 : Hid (Owns w3 w.heap.size 59 4 (.slice A3 m3 k3) (movR RR.1.movs)) := o3.mono B2.out.size
        clear cMM hb3 o1 o2 o3 y0 y1 y2 y3 y4
        have g0 := R3.out.cell 0 _ rfl
        have f0 := R3.out.free 0
        have g1 := R3.out.cell 1 _ rfl
        have f1 := R3.out.free 1
        have g2 := R3.out.cell 2 _ rfl
        have f2 := R3.out.free 2
        have g3 := R3.out.cell 3 _ rfl
        have f3 := R3.out.free 3
        have g4 := R3.out.cell 4 _ rfl
        have f4 := R3.out.free 4
        go_wp2_with fail
        have hB := B3.out
        have FB := (((((hB.setCell hg (.int .i64 RR.1.room) (p := ⟨_, 0, none⟩)).setCell hg (.int .i64 RR.1.next) (p := ⟨_, 1, none⟩)).setCell hg (.slice A1 m1 k1) (p := ⟨_, 2, none⟩)).setCell hg (.slice A2 m2 k2) (p := ⟨_, 3, none⟩)).setCell hg (.slice A3 m3 k3) (p := ⟨_, 4, none⟩))
        have hF := (((((R3.out.set 0 (.int .i64 RR.1.room)).set 1 (.int .i64 RR.1.next)).set 2 (.slice A1 m1 k1)).set 3 (.slice A2 m2 k2)).set 4 (.slice A3 m3 k3))
        have mm0 := O1.out.notBlk R3.out (by decide)
        have F0 := (((((O1.out.other mm0 0 (.int .i64 RR.1.room)).other mm0 1 (.int .i64 RR.1.next)).other mm0 2 (.slice A1 m1 k1)).other mm0 3 (.slice A2 m2 k2)).other mm0 4 (.slice A3 m3 k3))
        have mm1 := O2.out.notBlk R3.out (by decide)
        have F1 := (((((O2.out.other mm1 0 (.int .i64 RR.1.room)).other mm1 1 (.int .i64 RR.1.next)).other mm1 2 (.slice A1 m1 k1)).other mm1 3 (.slice A2 m2 k2)).other mm1 4 (.slice A3 m3 k3))
        have mm2 := O3.out.notBlk R3.out (by decide)
        have F2 := (((((O3.out.other mm2 0 (.int .i64 RR.1.room)).other mm2 1 (.int .i64 RR.1.next)).other mm2 2 (.slice A1 m1 k1)).other mm2 3 (.slice A2 m2 k2)).other mm2 4 (.slice A3 m3 k3))
        clear g0 f0 g1 f1 g2 f2 g3 f3 g4 f4
        generalize (((((w3.setCell ⟨w.heap.size + 1, 0, none⟩ (.int .i64 RR.1.room)).setCell ⟨w.heap.size + 1, 1, none⟩ (.int .i64 RR.1.next)).setCell ⟨w.heap.size + 1, 2, none⟩ (.slice A1 m1 k1)).setCell ⟨w.heap.size + 1, 3, none⟩ (.slice A2 m2 k2)).setCell ⟨w.heap.size + 1, 4, none⟩ (.slice A3 m3 k3)) = WF at *
        have hG : Blk WF (w.heap.size + 1) #[.int .i64 RR.1.room, .int .i64 RR.1.next, .slice A1 m1 k1, .slice A2 m2 k2, .slice A3 m3 k3] 32 := hF
        have l0 := hG.cell 0 (.int .i64 RR.1.room) rfl
        have l1 := hG.cell 1 (.int .i64 RR.1.next) rfl
        have l2 := hG.cell 2 (.slice A1 m1 k1) rfl
        have l3 := hG.cell 3 (.slice A2 m2 k2) rfl
        have l4 := hG.cell 4 (.slice A3 m3 k3) rfl
        exact bodyPost_ret (v := .tuple #[.agg #[.int .i64 RR.1.room, .int .i64 RR.1.next, .slice A1 m1 k1, .slice A2 m2 k2, .slice A3 m3 k3], .int .i64 RR.2]) (by simp [results, go_sem, l0, l1, l2, l3, l4]) rfl (by rw [hRR.out]; exact ⟨_, rfl, ⟨_, _, _, rfl, F0, F1, F2⟩, FB⟩)
end Go.Proofs.YtljpakpokjpemaaGreat
