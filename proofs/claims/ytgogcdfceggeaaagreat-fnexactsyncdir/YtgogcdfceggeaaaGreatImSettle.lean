/-
  The contract of (impl.openDisk).settle, for whatever table of names that lead to inodes.
-/
import Derived.Test.YtgogcdfceggeaaaGreatRows
import Derived.Test.YtgogcdfceggeaaaGreatImSetP
import Derived.Test.YtgogcdfceggeaaaGreatImClone
import Derived.Test.YtgogcdfceggeaaaGreatImOpen
import Derived.Test.YtgogcdfceggeaaaGreatImFindA
import Derived.Maps.RangeWalk
import Derived.Carry
namespace Go.Proofs.YtgogcdfceggeaaaGreat
open Go.ChangeShapes Go.WideShapes Go.ChangeAt Go.RowKit Go.PlainAid Go.Maps
set_option linter.unusedVariables false

theorem ptrAt_prs : ∀ (ns : List Nod) (gs : List Nat) (id : Int), gs.length = ns.length → (∃ x ∈ ns, x.id = id) → (ptrAt (prs ns gs) id).isSome = true
  | [], _, _, _, h => by obtain ⟨x, hx, _⟩ := h; cases hx
  | _ :: _, [], _, h, _ => by cases h
  | y :: r, g :: s, id, hl, h => by
    unfold ptrAt prs
    simp only [List.map_cons, List.zip_cons_cons, List.find?_cons]
    by_cases e : y.id = id
    · rw [decide_eq_true e]
      rfl
    · rw [decide_eq_false e]
      obtain ⟨x, hx, hid⟩ := h
      rcases List.mem_cons.1 hx with rfl | hx
      · exact absurd hid e
      · exact ptrAt_prs r s id (by simpa using hl) ⟨x, hx, hid⟩
theorem linked_nod {d : Dsk} {l : List Lnk} (h : Linked d l) {x : Lnk} (hx : x ∈ l) : ∃ y ∈ d.nods, y.id = x.id := by
  have h1 := h.ids x hx
  rcases e : nodAt d.nods x.id with _ | j
  · rw [e] at h1; cases h1
  · obtain ⟨hj, hid⟩ := nodAt_at e
    exact ⟨d.nods.getD j default, getD_mem d.nods j hj, hid⟩
theorem prs_rise {ns : List Nod} {gs : List Nat} (h : Rising ns) : (prs ns gs).Pairwise fun a b => a.1 < b.1 := by
  unfold prs
  have h1 : (ns.map (·.id)).Pairwise (· < ·) := by rw [List.pairwise_map]; exact h
  generalize ns.map (·.id) = is at h1
  clear h
  induction is generalizing gs with
  | nil => simp
  | cons a r ih =>
    cases gs with
    | nil => simp
    | cons g s =>
      rw [List.zip_cons_cons, List.pairwise_cons]
      rw [List.pairwise_cons] at h1
      exact ⟨fun q hq => h1.1 q.1 (List.of_mem_zip hq).1, ih h1.2⟩

theorem sorted_one {l : List Lnk} (h : Sorted l) : ∀ x ∈ l, ∀ y ∈ l, x.name = y.name → x = y := by
  intro x hx y hy e
  obtain ⟨i, hi, rfl⟩ := List.getElem_of_mem hx
  obtain ⟨j, hj, rfl⟩ := List.getElem_of_mem hy
  rcases Nat.lt_trichotomy i j with hij | hij | hij
  · have := (List.pairwise_iff_getElem.1 h) i j hi hj hij
    rw [e] at this
    exact absurd this (by rw [ahead_irrefl]; simp)
  · subst hij; rfl
  · have := (List.pairwise_iff_getElem.1 h) j i hj hi hij
    rw [e] at this
    exact absurd this (by rw [ahead_irrefl]; simp)

set_option maxRecDepth 20000 in
set_option maxHeartbeats 4000000 in
theorem settleV (w : World) (base p : Nat) (d : Dsk) (bi bd bw : Nat) (gs : List Nat) (u : Value) (bn : Nat) (l : List Lnk) (h : OpenD w base p d bi bd bw gs u) (hd : Whole d) (hr : Rising d.nods) (hl : Linked d l) (hn : NT w bn l) (hnp : p ≠ bn) (hll : l.length ≤ 1000) (hB : base ≤ w.heap.size) :
    Calls Tryz.prog 47 #[.pointer (some ⟨p, 0, none⟩), .map (some bn)] w fun e w' => (∃ r, e = .returned r) ∧ (∃ bl bc, Blk w' p #[.int .i64 d.room, .int .i64 d.next, .map (some bl), .map (some bn), .slice none 0 0, .map (some bc)] 87 ∧ IT w' bl (prs (keptN l d.nods) (keptG l d.nods gs)) ∧ Held w' d.nods gs ∧ NT w' bn l) ∧ Below base w w' := by
  have HO : Hid (OpenD w base p d bi bd bw gs u) := h
  have HD : Hid (Whole d) := hd
  have HR : Hid (Rising d.nods) := hr
  have HL : Hid (Linked d l) := hl
  have HN : Hid (NT w bn l) := hn
  have HNP : Hid (p ≠ bn) := hnp
  have HB : Hid (base ≤ w.heap.size) := hB
  have hnt := hn.tight
  have HLL : Hid (l.length ≤ 1000) := hll
  have hmm := fun t wx => run_makeMap (P := Tryz.prog) t wx
  have e1 : (w.alloc (.map #[] 0)).heap.size = w.heap.size + 1 := by simp
  clear h hd hr hl hn hnp hB
  go_enter Tryz.func47, Tryz.ntmps47
  go_wp2_with (first
    | (at_range; refine wpList_range_own _ rfl _ 85 rfl 9 3 (string_keyed Tryz.underlying9) Tryz.underlying85 _ bn l.length _ rfl (hnt.alloc _) ?_; intro w0 hrg0 hg0 hs0)
    | go_in)
  go_frame
  rw [e1] at hrg0 hs0 ⊢
  go_loopw [6] (fun _ wr => ∃ (left : Lit → Bool) (cnt k : Nat) (Dout : DataW Unit), wr.ranges Tryz.prog 9 intElem bn (w.heap.size + 1) l.length (linkD l) left cnt ∧ k + cnt ≤ l.length ∧
      wr.ownsMap Tryz.prog 3 ptrElem w.heap.size k Dout ∧ Gath l (prs d.nods gs) left Dout ∧ Below w.heap.size w wr)
    (fun _ wr => wr.rangeLeft bn (w.heap.size + 1))
  case atStart =>
    exact ⟨_, _, 0, .map [], hrg0, by rw [linkD_size]; omega, (World.ownsMap_made _ _ _ _).kept hg0 (by simp), gath_start l _, ((Below.refl _ _).alloc (Nat.le_refl _) _).grown hg0 (by simp) (fun j hj => by cases hj)⟩
  case round =>
    obtain ⟨left, cnt, k, Dout, hrg, hkc, hout, hA, hnx⟩ := hrel
    go_wp2_with (first
      | (at_next; refine wpList_next_ranges _ rfl _ rfl 9 (string_keyed Tryz.underlying9) intElem (fun (s : ByteArray) => Value.string s) (fun (c : Int) => Value.int .i64 c) ?_ ?_ bn (w.heap.size + 1) l.length _ _ _ rfl hrg ?_ ?_)
      | go_in)
    · intro key kl hk
      obtain ⟨s, rfl, _, _⟩ := Go.WideMaps.string_of_keyOf Tryz.underlying9 hk
      exact ⟨s, rfl⟩
    · intro v y hv
      unfold intElem at hv
      split at hv
      · exact ⟨_, rfl⟩
      · cases hv
    · -- nothing is left
      intro hc0 hl0
      have hD := gath_end hA hl0 (hout.canon (int_keyed Tryz.underlying3)) (prs_rise HR.out) (fun x hx => ptrAt_prs d.nods gs x.id HO.out.held.len (linked_nod HL.out hx))
      rw [(prs_kept l d.nods gs HO.out.held.len).1] at hD
      subst hD
      have IR : Hid (IT wr w.heap.size (prs (keptN l d.nods) (keptG l d.nods gs))) := ⟨_, hout⟩
      have NR : Hid (NT wr bn l) := ⟨_, hrg.owns⟩
      have BR : Hid (Below w.heap.size w wr) := hnx
      have KR : Hid (Blk wr p #[.int .i64 d.room, .int .i64 d.next, .map (some bi), .map (some bd), u, .map (some bw)] 87) := HO.out.blk.on hnx HO.out.blk.lt
      have HHR : Hid (Held wr d.nods gs) := HO.out.held.on hnx HO.out.held.lt
      have hru := hrg.lt
      have cC := cloneNV wr bn l NR.out
      clear hout hrg hA hnx hc0 hl0 hkc hru
      go_wp2_with fail
      refine cC.mono ?_
      rintro e w4 ⟨rfl, hN4, hb4⟩
      have B4 : Hid (Below w.heap.size w w4) := BR.out.trans (hb4.mono BR.out.size)
      have K4 : Hid (Blk w4 p #[.int .i64 d.room, .int .i64 d.next, .map (some bi), .map (some bd), u, .map (some bw)] 87) := KR.out.on hb4 KR.out.lt
      have I4 : Hid (IT w4 w.heap.size (prs (keptN l d.nods) (keptG l d.nods gs))) := IR.out.on hb4 IR.out.lt
      have H4 : Hid (Held w4 d.nods gs) := HHR.out.on hb4 HHR.out.lt
      have N4 : Hid (NT w4 bn l) := NR.out.on hb4 NR.out.lt
      have PL : Hid (p < w.heap.size) := HO.out.blk.lt
      clear hN4 hb4 cC
      have y2 := K4.out.cell 2 _ rfl
      have z2 := K4.out.free 2
      have y3 := K4.out.cell 3 _ rfl
      have z3 := K4.out.free 3
      have y4 := K4.out.cell 4 _ rfl
      have z4 := K4.out.free 4
      have y5 := K4.out.cell 5 _ rfl
      have z5 := K4.out.free 5
      go_wp2_with fail
      have hkeep : ∀ g, g ≠ p → ((((w4.setCell ⟨p, 2, none⟩ (.map (some w.heap.size))).setCell ⟨p, 3, none⟩ (.map (some bn))).setCell ⟨p, 4, none⟩ (.slice none 0 0)).setCell ⟨p, 5, none⟩ (.map (some wr.heap.size))).heap[g]? = w4.heap[g]? := fun g hg => by
        rw [Below.heap_setCell _ ⟨p, 5, none⟩ _ _ hg, Below.heap_setCell _ ⟨p, 4, none⟩ _ _ hg, Below.heap_setCell _ ⟨p, 3, none⟩ _ _ hg, Below.heap_setCell _ ⟨p, 2, none⟩ _ _ hg]
      have hBB : Below base w ((((w4.setCell ⟨p, 2, none⟩ (.map (some w.heap.size))).setCell ⟨p, 3, none⟩ (.map (some bn))).setCell ⟨p, 4, none⟩ (.slice none 0 0)).setCell ⟨p, 5, none⟩ (.map (some wr.heap.size))) := ((((B4.out.mono HB.out).setCell (p := ⟨p, 2, none⟩) HO.out.lo.1 _).setCell (p := ⟨p, 3, none⟩) HO.out.lo.1 _).setCell (p := ⟨p, 4, none⟩) HO.out.lo.1 _).setCell (p := ⟨p, 5, none⟩) HO.out.lo.1 _
      have hKK := ((((K4.out.set 2 (.map (some w.heap.size))).set 3 (.map (some bn))).set 4 (.slice none 0 0)).set 5 (.map (some wr.heap.size)))
      exact bodyPost_end (v := .tuple #[]) (by simp [results, go_sem]) rfl ⟨⟨_, rfl⟩, ⟨w.heap.size, wr.heap.size, hKK, I4.out.kept (hkeep _ (by have := PL.out; omega)), H4.out.kept fun g hg => hkeep g (HO.out.gl g hg).2.1, N4.out.kept (hkeep bn HNP.out.symm)⟩, hBB⟩
    · -- a name has come
      intro s c kl y ps w1 cnt1 hkey hlk hv hat hrg1 hlt hg1 hs1 hen
      obtain ⟨s', es, rfl, hsz⟩ := Go.WideMaps.string_of_keyOf Tryz.underlying9 hkey
      injection es with es
      subst es
      have hy : y = .lit (.int .i64 c) := by
        unfold intElem at hv
        simp at hv
        exact hv.1.symm
      subst hy
      obtain ⟨x, hx, hxn, hxi⟩ := link_of (l := l) (s := s) (c := c) hat
      obtain ⟨nd, hnd, hndi⟩ := linked_nod HL.out hx
      have hids := nod_ids HD.out nd hnd
      have hPs := ptrAt_prs d.nods gs c HO.out.held.len ⟨nd, hnd, by omega⟩
      obtain ⟨g, hg⟩ := Option.isSome_iff_exists.1 hPs
      have hB1 : Below w.heap.size w w1 := hnx.grown hg1 hnx.size (fun j hj => by cases hj; exact Nat.le_succ _)
      have hval := ((HO.out.it.on hB1 HO.out.it.lt).val c ⟨by omega, by omega⟩).2 g hg
      have hout1 := hout.kept hg1 (by simp)
      obtain ⟨w2, r2, hout2, ht2⟩ := hout1.store (int_keyed Tryz.underlying3) Tryz.underlying83 (by unfold maxLen; have := HLL.out; omega) (intK_of (a := c) ⟨by omega, by omega⟩) (ptrElem_mk g)
      have hrg2 := hrg1.kept ht2.grown (fun e => by have := Option.some.inj e; have := HN.out.lt; omega) (fun e => by have := Option.some.inj e; omega)
      have hB2 : Below w.heap.size w w2 := hB1.grown ht2.grown hB1.size (fun j hj => by cases hj; exact Nat.le_refl _)
      have hGG := gath_step hA hout.isMap (fun a ha b hb => sorted_one HL.out.sorted a ha b hb) hat hg
      have k2 := (HO.out.blk.on hB1 HO.out.blk.lt).cell 2 _ rfl
      have REL : Hid (∃ (left : Lit → Bool) (cnt k : Nat) (Dout : DataW Unit), w2.ranges Tryz.prog 9 intElem bn (w.heap.size + 1) l.length (linkD l) left cnt ∧ k + cnt ≤ l.length ∧ w2.ownsMap Tryz.prog 3 ptrElem w.heap.size k Dout ∧ Gath l (prs d.nods gs) left Dout ∧ Below w.heap.size w w2) := ⟨_, cnt1, k + 1, _, hrg2, by omega, hout2, hGG, hB2⟩
      have MEA : Hid (w2.rangeLeft bn (w.heap.size + 1) < wr.rangeLeft bn (w.heap.size + 1)) := by unfold Hid; rw [hrg2.left_eq, hrg.left_eq]; exact hlt
      clear hrg hout hA hnx hrg1 hg1 hs1 hout1 hout2 ht2 hrg2 hGG hat hv hkey hlk hPs hg hB1 hB2
      go_wp2_with fail
      go_roundw
      case rel => exact REL.out
      case measure => exact MEA.out
end Go.Proofs.YtgogcdfceggeaaaGreat
