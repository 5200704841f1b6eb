/-
  The contracts of (impl.openDisk).syncNames and impl.SyncDir.
-/
import Derived.Test.YtgogcdfceggeaaaGreatRows
import Derived.Test.YtgogcdfceggeaaaGreatImSettle
import Derived.Test.YtgogcdfceggeaaaGreatImChange
namespace Go.Proofs.YtgogcdfceggeaaaGreat
open Go.ChangeShapes Go.WideShapes Go.ChangeAt Go.RowKit Go.PlainAid
set_option linter.unusedVariables false

/-- A disk behind a SyncDir. -/
def syncDirD (d : Dsk) : Dsk := ⟨d.room, d.next, keptN (now d) d.nods, now d, []⟩
theorem held_tail {w : World} {x : Nod} {r : List Nod} {g : Nat} {s : List Nat} (h : Held w (x :: r) (g :: s)) : Blk w g #[.int .i64 x.id, .string x.data, .int .i64 x.sure] 69 ∧ Held w r s :=
  ⟨h.blk 0 (by simp), ⟨by have := h.len; simpa using this, fun j hj => h.blk (j + 1) (by simpa using hj)⟩⟩
theorem held_cons {w : World} {x : Nod} {r : List Nod} {g : Nat} {s : List Nat} (hg : Blk w g #[.int .i64 x.id, .string x.data, .int .i64 x.sure] 69) (h : Held w r s) : Held w (x :: r) (g :: s) :=
  ⟨by simp [h.len], fun j hj => by
    cases j with
    | zero => exact hg
    | succ j => exact h.blk j (by simpa using hj)⟩
theorem held_kept {w : World} (l : List Lnk) : ∀ (ns : List Nod) (gs : List Nat), Held w ns gs → Held w (keptN l ns) (keptG l ns gs)
  | [], [], h => h
  | [], _ :: _, h => by have := h.len; cases this
  | _ :: _, [], h => by have := h.len; cases this
  | x :: r, g :: s, h => by
    obtain ⟨h1, h2⟩ := held_tail h
    have ih := held_kept l r s h2
    have eg : keptG l (x :: r) (g :: s) = if linked l x.id = true then g :: keptG l r s else keptG l r s := by rw [keptG]
    have en : keptN l (x :: r) = if linked l x.id = true then x :: keptN l r else keptN l r := by unfold keptN; rw [List.filter_cons]
    rw [eg, en]
    split
    · exact held_cons h1 ih
    · exact ih

set_option maxHeartbeats 1000000 in
theorem syncNamesV (w : World) (base p : Nat) (d : Dsk) (bi bd bw : Nat) (gs : List Nat) (u : Value) (h : OpenD w base p d bi bd bw gs u) (hd : Whole d) (hw : wtD d ≤ 1048576) (hB : base ≤ w.heap.size) :
    Calls Tryz.prog 22 #[.pointer (some ⟨p, 0, none⟩)] w fun e w' => e = .returned (.int .i64 0) ∧ Tellable w' p (syncDirD d) ∧ Below base w w' := by
  have HT : Hid (Tellable w p d) := h.tell hd hw
  have hR := (sizeOk_iff d).1 hd.size
  have HLN : Hid ((now d).length ≤ 1000) := by
    have h1 := names_len d.dir d.movs
    have := hR.l
    have := hR.m
    unfold Hid now
    omega
  have HLK : Hid (Linked d (now d)) := now_linked hd
  have cS := settleV w base p d bi bd bw gs u bw (now d) h hd HT.out.rise HLK.out h.nw h.pw HLN.out hB
  have x5 := h.blk.cell 5 _ rfl
  clear h hd hw hB hR
  go_enter Tryz.func22, Tryz.ntmps22
  go_wp2_with fail
  refine cS.mono ?_
  rintro e w1 ⟨⟨r, rfl⟩, ⟨bl, bc, hK, hI, hH, hN⟩, hb⟩
  have HB : Hid (Below base w w1) := hb
  have HTT : Hid (Tellable w1 p (syncDirD d)) := by
    refine ⟨⟨bl, bw, keptG (now d) d.nods gs, .slice none 0 0, .map (some bc), hK, hI, held_kept (now d) d.nods gs hH, hN, ⟨none, 0, rfl, ⟨fun _ => rfl, Nat.le_refl _⟩, fun r hr => (by cases hr), .inl rfl⟩⟩, ?_, HLK.out.sorted, HLK.out.ok, ?_, HLN.out, ?_, ?_, ?_⟩
    · exact HT.out.rise.filter _
    · show (keptN (now d) d.nods).length ≤ 1000
      have h1 : (keptN (now d) d.nods).length ≤ d.nods.length := List.length_filter_le _ _
      have := HT.out.n1
      omega
    · show (0 : Nat) ≤ 1000
      omega
    · intro x hx
      exact HT.out.nx x (List.mem_filter.1 hx).1
    · intro x hx
      cases hx
  clear cS hb hK hI hH hN x5
  go_wp2_with fail
  go_ret
  exact ⟨rfl, HTT.out, HB.out⟩


/-- What SyncDir answers. -/
def syncDirR (d : Dsk)  : Dsk × Int := if diskOk d = true then (syncDirD d, 0) else (zeroD, 1)
theorem syncDirR_yes {d : Dsk} (h : diskOk d = true) : syncDirR d  = (syncDirD d, 0) := by unfold syncDirR; rw [if_pos h]
theorem syncDirR_no {d : Dsk} (h : diskOk d = false) : syncDirR d  = (zeroD, 1) := by unfold syncDirR; rw [if_neg (by rw [h]; simp)]

set_option maxHeartbeats 1000000 in
theorem syncDir1V (w : World) (base p : Nat) (d : Dsk) (bi bd bw : Nat) (gs : List Nat) (u : Value)  (h : OpenD w base p d bi bd bw gs u) (hd : Whole d) (hw : wtD d ≤ 1048576)  (hB : base ≤ w.heap.size)  :
    Calls Tryz.prog 21 #[.pointer (some ⟨p, 0, none⟩)] w fun e w' => e = .returned (.int .i64 (0)) ∧ Tellable w' p (syncDirD d) ∧ Below base w w' := by
  have cF := syncNamesV w base p d bi bd bw gs u  h hd hw  hB
  clear h hd hw hB 
  go_enter Tryz.func21, Tryz.ntmps21
  go_wp2_with fail
  refine cF.mono ?_
  rintro e w1 ⟨rfl, hT, hb⟩
  have HT : Hid (Tellable w1 p (syncDirD d)) := hT
  clear hT
  go_wp2_with fail
  go_ret
  exact ⟨rfl, HT.out, hb⟩

set_option maxRecDepth 20000 in
set_option maxHeartbeats 2000000 in
theorem implSyncDirV (d : Dsk) (v : Value)  (w : World) (B : Nat) (hv : DiskV w B v d) (hf : Fits d) (hi : IntsOk d) (hw : wtD d ≤ 1048576) (hB : B ≤ w.heap.size)  :
    Calls Tryz.prog 7 #[v] w fun e w' => ∃ x, e = .returned (.tuple #[x, .int .i64 (syncDirR d ).2]) ∧ DiskO w' w.heap.size x (syncDirR d ).1 ∧ Below w.heap.size w w' := by
  have HV : Hid (DiskV w B v d) := hv
  have HB : Hid (B ≤ w.heap.size) := hB
  have HF : Hid (Fits d) := hf
  have HI : Hid (IntsOk d) := hi
  have HW : Hid (wtD d ≤ 1048576) := hw
  obtain ⟨v1, v2, v3, rfl, h1, h2, h3⟩ := hv
  clear h1 h2 h3 hB hf hi hw 
  go_enter Tryz.func7, Tryz.ntmps7
  go_wp2_with fail
  have hsz : ((w.alloc (.cells #[.int .i64 d.room, .int .i64 d.next, v1, v2, v3] 32)).alloc (.cells #[.int .i64 0, .int .i64 0, .slice none 0 0, .slice none 0 0, .slice none 0 0] 32)).heap.size = w.heap.size + 1 + 1 := by simp
  have hb0 : Below w.heap.size w (w.alloc (.cells #[.int .i64 d.room, .int .i64 d.next, v1, v2, v3] 32)) := ((Below.refl _ w).alloc (Nat.le_refl _) _)
  have bR := Blk.new (w.alloc (.cells #[.int .i64 d.room, .int .i64 d.next, v1, v2, v3] 32)) #[.int .i64 0, .int .i64 0, .slice none 0 0, .slice none 0 0, .slice none 0 0] 32
  simp only [World.size_alloc] at bR 
  have hb1 := hb0.alloc (by simp only [World.size_alloc]; omega) (.cells #[.int .i64 0, .int .i64 0, .slice none 0 0, .slice none 0 0, .slice none 0 0] 32)
  clear hb0 
  generalize (w.alloc (.cells #[.int .i64 d.room, .int .i64 d.next, v1, v2, v3] 32)).alloc (.cells #[.int .i64 0, .int .i64 0, .slice none 0 0, .slice none 0 0, .slice none 0 0] 32) = W at *
  have B0 : Hid (Below w.heap.size w W) := hb1
  have R0 : Hid (Blk W (w.heap.size + 1) #[.int .i64 0, .int .i64 0, .slice none 0 0, .slice none 0 0, .slice none 0 0] 32) := bR
  have SZ : Hid (W.heap.size = w.heap.size + 1 + 1) := hsz
  clear hb1 bR hsz 
  have cC := changedV d (.agg #[.int .i64 d.room, .int .i64 d.next, v1, v2, v3]) W B (HV.out.on (B0.out.mono HB.out)) HF.out HI.out HW.out (Nat.le_trans HB.out B0.out.size) 21 #[] (syncDirD d) (0) (enters_of Tryz.func21 (by kernel_rfl) rfl)
    (fun w1 base p bi bd bw gs u hd hb hl hl2 hO => syncDir1V w1 base p d bi bd bw gs u   hO hd HW.out  hl2 )
  have hmf : ∀ (fn : Fn) (first cap : Array Value) (w : World), (Instr.makeFunc fn first cap).run Tryz.prog w = .ok (.func fn first cap) w := fun _ _ _ _ => rfl
  try go_wp2_with fail
  refine cC.mono ?_
  rintro e w3 ⟨x, y, rfl, hx, hb3⟩
  have B3 : Hid (Below w.heap.size w w3) := B0.out.trans (hb3.mono B0.out.size)
  have R3 : Hid (Blk w3 (w.heap.size + 1) #[.int .i64 0, .int .i64 0, .slice none 0 0, .slice none 0 0, .slice none 0 0] 32) := R0.out.on hb3 R0.out.lt
  have HX : Hid (y = (syncDirR d ).2 ∧ DiskO w3 w.heap.size x (syncDirR d ).1) := by
    rcases hx with ⟨hk, rfl, ho⟩ | ⟨hk, rfl, ho⟩
    · rw [syncDirR_yes hk]
      exact ⟨rfl, ho.mono B0.out.size⟩
    · rw [syncDirR_no hk]
      exact ⟨rfl, ho.mono B0.out.size⟩
  clear cC hx hb3
  generalize hRR : syncDirR d  = RR at HX
  obtain ⟨rfl, hO3⟩ := HX.out
  obtain ⟨x1, x2, x3, rfl, o1, o2, o3⟩ := hO3
  obtain ⟨A1, m1, k1, rfl⟩ := o1.shape
  obtain ⟨A2, m2, k2, rfl⟩ := o2.shape
  obtain ⟨A3, m3, k3, rfl⟩ := o3.shape
  have O1 : Hid (Owns w3 w.heap.size 69 3 (.slice A1 m1 k1) (nodR RR.1.nods)) := o1
  have O2 : Hid (Owns w3 w.heap.size 72 2 (.slice A2 m2 k2) (lnkR RR.1.dir)) := o2
  have O3 : Hid (Owns w3 w.heap.size 74 4 (.slice A3 m3 k3) (movR RR.1.movs)) := o3
  clear HX o1 o2 o3
  have g0 := R3.out.cell 0 _ rfl
  have f0 := R3.out.free 0
  have g1 := R3.out.cell 1 _ rfl
  have f1 := R3.out.free 1
  have g2 := R3.out.cell 2 _ rfl
  have f2 := R3.out.free 2
  have g3 := R3.out.cell 3 _ rfl
  have f3 := R3.out.free 3
  have g4 := R3.out.cell 4 _ rfl
  have f4 := R3.out.free 4
  go_wp2_with fail
  have hg : w.heap.size ≤ w.heap.size + 1 := by omega
  have hB := B3.out
  have FB := (((((hB.setCell hg (.int .i64 RR.1.room) (p := ⟨_, 0, none⟩)).setCell hg (.int .i64 RR.1.next) (p := ⟨_, 1, none⟩)).setCell hg (.slice A1 m1 k1) (p := ⟨_, 2, none⟩)).setCell hg (.slice A2 m2 k2) (p := ⟨_, 3, none⟩)).setCell hg (.slice A3 m3 k3) (p := ⟨_, 4, none⟩))
  have hF := (((((R3.out.set 0 (.int .i64 RR.1.room)).set 1 (.int .i64 RR.1.next)).set 2 (.slice A1 m1 k1)).set 3 (.slice A2 m2 k2)).set 4 (.slice A3 m3 k3))
  have mm0 := O1.out.notBlk R3.out (by decide)
  have F0 := (((((O1.out.other mm0 0 (.int .i64 RR.1.room)).other mm0 1 (.int .i64 RR.1.next)).other mm0 2 (.slice A1 m1 k1)).other mm0 3 (.slice A2 m2 k2)).other mm0 4 (.slice A3 m3 k3))
  have mm1 := O2.out.notBlk R3.out (by decide)
  have F1 := (((((O2.out.other mm1 0 (.int .i64 RR.1.room)).other mm1 1 (.int .i64 RR.1.next)).other mm1 2 (.slice A1 m1 k1)).other mm1 3 (.slice A2 m2 k2)).other mm1 4 (.slice A3 m3 k3))
  have mm2 := O3.out.notBlk R3.out (by decide)
  have F2 := (((((O3.out.other mm2 0 (.int .i64 RR.1.room)).other mm2 1 (.int .i64 RR.1.next)).other mm2 2 (.slice A1 m1 k1)).other mm2 3 (.slice A2 m2 k2)).other mm2 4 (.slice A3 m3 k3))
  clear g0 f0 g1 f1 g2 f2 g3 f3 g4 f4
  generalize (((((w3.setCell ⟨w.heap.size + 1, 0, none⟩ (.int .i64 RR.1.room)).setCell ⟨w.heap.size + 1, 1, none⟩ (.int .i64 RR.1.next)).setCell ⟨w.heap.size + 1, 2, none⟩ (.slice A1 m1 k1)).setCell ⟨w.heap.size + 1, 3, none⟩ (.slice A2 m2 k2)).setCell ⟨w.heap.size + 1, 4, none⟩ (.slice A3 m3 k3)) = WF at *
  have hG : Blk WF (w.heap.size + 1) #[.int .i64 RR.1.room, .int .i64 RR.1.next, .slice A1 m1 k1, .slice A2 m2 k2, .slice A3 m3 k3] 32 := hF
  have l0 := hG.cell 0 (.int .i64 RR.1.room) rfl
  have l1 := hG.cell 1 (.int .i64 RR.1.next) rfl
  have l2 := hG.cell 2 (.slice A1 m1 k1) rfl
  have l3 := hG.cell 3 (.slice A2 m2 k2) rfl
  have l4 := hG.cell 4 (.slice A3 m3 k3) rfl
  exact bodyPost_ret (v := .tuple #[.agg #[.int .i64 RR.1.room, .int .i64 RR.1.next, .slice A1 m1 k1, .slice A2 m2 k2, .slice A3 m3 k3], .int .i64 RR.2]) (by simp [results, go_sem, l0, l1, l2, l3, l4]) rfl (by rw [hRR]; exact ⟨_, rfl, ⟨_, _, _, rfl, F0, F1, F2⟩, FB⟩)
end Go.Proofs.YtgogcdfceggeaaaGreat
