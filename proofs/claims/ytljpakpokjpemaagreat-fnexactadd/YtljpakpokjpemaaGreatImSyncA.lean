/-
  An inode of an open disk is changed; the contract of (impl.openDisk).syncFile.
-/
import Derived.Test.YtljpakpokjpemaaGreatRows
import Derived.Test.YtljpakpokjpemaaGreatImChange
import Derived.Test.YtljpakpokjpemaaGreatImFind
import Derived.Test.YtljpakpokjpemaaGreatDkNamed
namespace Go.Proofs.YtljpakpokjpemaaGreat
open Go.ChangeShapes Go.WideShapes Go.ChangeAt Go.RowKit Go.PlainAid
set_option linter.unusedVariables false

theorem getD_set_eq {α : Type} (l : List α) (j : Nat) (y z : α) (hj : j < l.length) : (l.set j y).getD j z = y := by
  rw [List.getD_eq_getElem?_getD, List.getElem?_set_self hj]
  rfl
theorem getD_set_off {α : Type} (l : List α) (i j : Nat) (y z : α) (h : i ≠ j) : (l.set j y).getD i z = l.getD i z := by
  rw [List.getD_eq_getElem?_getD, List.getD_eq_getElem?_getD, List.getElem?_set_ne (Ne.symm h)]
theorem ids_set (ns : List Nod) (j : Nat) (y : Nod) (hj : j < ns.length) (hy : y.id = (ns.getD j default).id) : (ns.set j y).map (·.id) = ns.map (·.id) := by
  rw [List.map_set, hy, ← getD_at ns j hj]
  have : ns[j].id = (ns.map (·.id))[j]'(by rw [List.length_map]; exact hj) := by rw [List.getElem_map]
  rw [this, List.set_getElem_self]
theorem rise_ne {gs : List Nat} (h : gs.Pairwise (· < ·)) {i j : Nat} (hi : i < gs.length) (hj : j < gs.length) (hne : i ≠ j) : gs.getD i 0 ≠ gs.getD j 0 := by
  rw [List.getD_eq_getElem?_getD, List.getElem?_eq_getElem hi, List.getD_eq_getElem?_getD, List.getElem?_eq_getElem hj]
  show gs[i] ≠ gs[j]
  rcases Nat.lt_or_gt_of_ne hne with h1 | h1
  · have := List.pairwise_iff_getElem.1 h i j hi hj h1
    omega
  · have := List.pairwise_iff_getElem.1 h j i hj hi h1
    omega
theorem gs_mem {gs : List Nat} {j : Nat} (hj : j < gs.length) : gs.getD j 0 ∈ gs := by
  rw [List.getD_eq_getElem?_getD, List.getElem?_eq_getElem hj]
  exact List.getElem_mem hj
theorem OpenD.put {w w' : World} {base p : Nat} {d : Dsk} {bi bd bw : Nat} {gs : List Nat} {u : Value} (h : OpenD w base p d bi bd bw gs u) (hd : Whole d) (hw : wtD d ≤ 1048576) (j : Nat) (hj : j < d.nods.length) (y : Nod) (hy : y.id = (d.nods.getD j default).id) (hs : y.data.size ≤ 281474976710656)
    (hb : But (fun i => i = gs.getD j 0) w w') (hk : Blk w' (gs.getD j 0) #[.int .i64 y.id, .string y.data, .int .i64 y.sure] 57) : Tellable w' p ⟨d.room, d.next, d.nods.set j y, d.dir, d.movs⟩ := by
  have hT := h.tell hd hw
  have hjg : j < gs.length := by rw [h.held.len]; exact hj
  have hm := h.gl _ (gs_mem hjg)
  have hids := ids_set d.nods j y hj hy
  refine ⟨⟨bi, bd, gs, u, _, hb.blk h.blk (fun e => hm.2.1 e.symm), ?_, ⟨?_, fun i hi => ?_⟩, h.nd.kept (hb.block bd h.nd.lt (fun e => hm.2.2.2.1 e.symm)), ?_⟩, ?_, hT.sorted, hT.ok, ?_, hT.n2, hT.n3, fun x hx => ?_, hT.mx⟩
  · show IT w' bi (prs (d.nods.set j y) gs)
    unfold prs
    rw [hids]
    exact h.it.but hb (fun e => hm.2.2.1 e.symm)
  · show gs.length = (d.nods.set j y).length
    rw [List.length_set]
    exact h.held.len
  · have hi' : i < (d.nods.set j y).length := hi
    rw [List.length_set] at hi'
    show Blk w' (gs.getD i 0) #[.int .i64 ((d.nods.set j y).getD i default).id, .string ((d.nods.set j y).getD i default).data, .int .i64 ((d.nods.set j y).getD i default).sure] 57
    by_cases e : i = j
    · subst e
      rw [getD_set_eq _ _ _ _ hj]
      exact hk
    · rw [getD_set_off _ _ _ _ _ e]
      exact hb.blk (h.held.blk i hi') (rise_ne h.rise (by rw [h.held.len]; exact hi') hjg e)
  · have hn := h.mv.notBlk (h.held.blk j hj) (by decide)
    exact (h.mv.kept fun g hg ho => hb.block g hg (fun e => by subst e; exact hn ho)).lies
  · show Rising (d.nods.set j y)
    have h1 : (d.nods.map (·.id)).Pairwise (· < ·) := List.pairwise_map.2 hT.rise
    rw [← hids] at h1
    exact List.pairwise_map.1 h1
  · show (d.nods.set j y).length ≤ 1000
    rw [List.length_set]
    exact hT.n1
  · rcases List.mem_or_eq_of_mem_set hx with hx | rfl
    · exact hT.nx x hx
    · exact ⟨by rw [hy]; exact (hT.nx _ (getD_mem d.nods j hj)).1, hs⟩

/-- A disk behind Sync. -/
def syncD (d : Dsk) (name : ByteArray) : Dsk :=
  if nameOk name = false then d else match find d name with
    | none => d
    | some j => ⟨d.room, d.next, d.nods.set j ⟨(d.nods.getD j default).id, (d.nods.getD j default).data, ((d.nods.getD j default).data.size : Int)⟩, d.dir, d.movs⟩
theorem syncD_bad {d : Dsk} {name : ByteArray} (h : nameOk name = false) : syncD d name = d := by unfold syncD; rw [if_pos h]
theorem syncD_none {d : Dsk} {name : ByteArray} (h : find d name = none) : syncD d name = d := by
  unfold syncD
  by_cases hn : nameOk name = false
  · rw [if_pos hn]
  · rw [if_neg hn, h]
theorem syncD_some {d : Dsk} {name : ByteArray} {j : Nat} (hn : nameOk name = true) (h : find d name = some j) : syncD d name = ⟨d.room, d.next, d.nods.set j ⟨(d.nods.getD j default).id, (d.nods.getD j default).data, ((d.nods.getD j default).data.size : Int)⟩, d.dir, d.movs⟩ := by
  unfold syncD
  rw [if_neg (by rw [hn]; simp), h]
theorem named_bad {d : Dsk} {name : ByteArray} (h : nameOk name = false) : named d name = 1 := by unfold named; rw [if_pos h]
theorem named_none {d : Dsk} {name : ByteArray} (hn : nameOk name = true) (h : find d name = none) : named d name = 2 := by unfold named; rw [if_neg (by rw [hn]; simp), if_pos h]
theorem named_some {d : Dsk} {name : ByteArray} {j : Nat} (hn : nameOk name = true) (h : find d name = some j) : named d name = 0 := by unfold named; rw [if_neg (by rw [hn]; simp), if_neg (by rw [h]; simp)]

set_option maxHeartbeats 1000000 in
theorem syncFileV (w : World) (base p : Nat) (d : Dsk) (bi bd bw : Nat) (gs : List Nat) (u : Value) (name : ByteArray) (h : OpenD w base p d bi bd bw gs u) (hd : Whole d) (hw : wtD d ≤ 1048576) (hs : name.size ≤ maxLen) (hB : base ≤ w.heap.size) :
    Calls Tryz.prog 59 #[.pointer (some ⟨p, 0, none⟩), .string name] w fun e w' => e = .returned (.int .i64 (named d name)) ∧ Tellable w' p (syncD d name) ∧ Below base w w' := by
  have cF := findI w base p d bi bd bw gs u name h hd hs
  have HO : Hid (OpenD w base p d bi bd bw gs u) := h
  have HD : Hid (Whole d) := hd
  have HW : Hid (wtD d ≤ 1048576) := hw
  have HB : Hid (base ≤ w.heap.size) := hB
  clear h hd hw hs hB
  go_enter Tryz.func59, Tryz.ntmps59
  go_wp2_with fail
  refine cF.mono ?_
  rintro e w1 ⟨rfl, hF⟩
  clear cF
  rcases hF with ⟨hn, rfl⟩ | ⟨hn, hf, rfl⟩ | ⟨hn, j, hf, hj, rfl⟩
  · have HR : Hid (named d name = 1 ∧ syncD d name = d) := ⟨named_bad hn, syncD_bad hn⟩
    clear hn
    go_wp2_with fail
    go_ret
    exact ⟨by rw [HR.out.1]; rfl, by rw [HR.out.2]; exact HO.out.tell HD.out HW.out, Below.refl _ _⟩
  · have HR : Hid (named d name = 2 ∧ syncD d name = d) := ⟨named_none hn hf, syncD_none hf⟩
    clear hn hf
    go_wp2_with fail
    go_ret
    exact ⟨by rw [HR.out.1]; rfl, by rw [HR.out.2]; exact HO.out.tell HD.out HW.out, Below.refl _ _⟩
  · have HR : Hid (named d name = 0 ∧ syncD d name = _) := ⟨named_some hn hf, syncD_some hn hf⟩
    have HJ : Hid (j < d.nods.length) := hj
    have BK : Hid (Blk w (gs.getD j 0) #[.int .i64 (d.nods.getD j default).id, .string (d.nods.getD j default).data, .int .i64 (d.nods.getD j default).sure] 57) := HO.out.held.blk j hj
    have hds := (HO.out.tell HD.out HW.out).nx _ (getD_mem d.nods j hj)
    have HDS : Hid ((d.nods.getD j default).data.size ≤ 281474976710656) := hds.2
    have qd : ((d.nods.getD j default).data.size : Int) ≤ 281474976710656 := by have := hds.2; omega
    have x1 := BK.out.cell 1 _ rfl
    have x2 := BK.out.cell 2 _ rfl
    have z2 := BK.out.free 2
    clear hn hf hj hds
    generalize hgj : gs.getD j 0 = gj at *
    generalize hxd : (d.nods.getD j default).data = xd at *
    generalize hxi : (d.nods.getD j default).id = xi at *
    generalize hxs : (d.nods.getD j default).sure = xs at *
    go_wp2_with fail
    go_ret
    have hjg : j < gs.length := by rw [HO.out.held.len]; exact HJ.out
    have hm := HO.out.gl _ (gs_mem hjg)
    rw [hgj] at hm
    refine ⟨by rw [HR.out.1]; rfl, ?_, (Below.refl _ w).setCell hm.1 _⟩
    rw [HR.out.2]
    exact HO.out.put HD.out HW.out j HJ.out ⟨xi, xd, (xd.size : Int)⟩ hxi.symm HDS.out (by rw [hgj]; exact (But.refl (fun i => i = gj) w).setCell (p := ⟨gj, 2, none⟩) (fun _ => rfl) _) (by rw [hgj]; exact BK.out.set 2 _)
end Go.Proofs.YtljpakpokjpemaaGreat
