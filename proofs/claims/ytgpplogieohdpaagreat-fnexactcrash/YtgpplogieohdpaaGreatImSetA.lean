/-
  The inodes that a table of names leads to: what is gathered in no order is what is left of the inodes in order (no program in sight, no condition).
-/
import Derived.Test.YtgpplogieohdpaaGreatRows
import Derived.Test.YtgpplogieohdpaaGreatImTakeI
import Derived.Maps.Ext
import Derived.Test.YtgpplogieohdpaaGreatImClone
import Derived.Test.YtgpplogieohdpaaGreatImOpen
import Derived.Test.YtgpplogieohdpaaGreatImFindA
import Derived.Maps.RangeWalk
import Derived.Carry
namespace Go.Proofs.YtgpplogieohdpaaGreat
open Go.RowKit Go.PlainAid Go.Maps

/-- What is gathered so far: the numbers of the names that have come, each as in the table P. -/
structure Gath (l : List Lnk) (P : List (Int × Nat)) (left : Lit → Bool) (D : DataW Unit) : Prop where
  has : ∀ kl, has D kl = true ↔ ∃ x ∈ l, left (nameK x.name) = false ∧ kl = .int .i64 x.id
  at_ : ∀ kl z, Maps.has D kl = true → D.atKey kl z = (ptrD P).atKey kl z
theorem gath_start (l : List Lnk) (P : List (Int × Nat)) : Gath l P (has (linkD l)) (.map []) := by
  refine ⟨fun kl => ⟨fun h => (by cases h), ?_⟩, fun kl z h => (by cases h)⟩
  rintro ⟨x, hx, h1, rfl⟩
  have h2 : Maps.has (linkD l) (nameK x.name) = true := by
    unfold linkD
    rw [has_eq, List.any_eq_true]
    exact ⟨(nameK x.name, .lit (.int .i64 x.id)), List.mem_map.2 ⟨x, hx, rfl⟩, by rw [nameK_same]; simp⟩
  rw [h2] at h1
  cases h1
theorem link_of {l : List Lnk} {s : ByteArray} {c : Int} (h : ∀ z, (linkD l).atKey (nameK s) z = .lit (.int .i64 c)) : ∃ x ∈ l, x.name = s ∧ x.id = c := by
  rcases e : linkAt l s with _ | i
  · have := h .nil
    rw [linkD_none l s e] at this
    cases this
  · have := h .nil
    rw [linkD_at l s i e] at this
    injection this with this
    injection this with _ this
    unfold linkAt at e
    rw [List.findIdx?_eq_some_iff_getElem] at e
    obtain ⟨hi, hp, _⟩ := e
    refine ⟨l[i], List.getElem_mem hi, by simpa using hp, ?_⟩
    rw [← this, List.getD_eq_getElem?_getD, List.getElem?_eq_getElem hi]
    rfl
theorem gath_step {l : List Lnk} {P : List (Int × Nat)} {left : Lit → Bool} {D : DataW Unit} {s : ByteArray} {c : Int} {g : Nat} (h : Gath l P left D) (hm : IsMap D) (hu : ∀ x ∈ l, ∀ y ∈ l, x.name = y.name → x = y) (hl : ∀ z, (linkD l).atKey (nameK s) z = .lit (.int .i64 c)) (hp : ptrAt P c = some g) :
    Gath l P (fun z => left z && !z.sameKey (nameK s)) (D.put (.int .i64 c) (.lit (.int .i64 (g : Int)))) := by
  obtain ⟨y, hy, rfl, rfl⟩ := link_of hl
  refine ⟨fun kl => ?_, fun kl z hk => ?_⟩
  · by_cases e : kl = .int .i64 y.id
    · subst e
      rw [has_put_same hm (show WideAt.IsKeyLit (.int .i64 y.id) from trivial)]
      refine ⟨fun _ => ⟨y, hy, ?_, rfl⟩, fun _ => rfl⟩
      rw [nameK_same]
      simp
    · rw [has_put_other e, h.has]
      constructor
      · rintro ⟨x, hx, h1, h2⟩
        exact ⟨x, hx, by rw [h1]; rfl, h2⟩
      · rintro ⟨x, hx, h1, h2⟩
        refine ⟨x, hx, ?_, h2⟩
        rw [nameK_same] at h1
        by_cases hn : x.name = y.name
        · have := hu x hx y hy hn
          subst this
          exact absurd h2 e
        · rw [decide_eq_false hn] at h1
          simpa using h1
  · by_cases e : kl = .int .i64 y.id
    · subst e
      rw [atKey_put_same hm (show WideAt.IsKeyLit (.int .i64 y.id) from trivial), ptrD_at, hp]
    · rw [has_put_other e] at hk
      rw [atKey_put_other e, h.at_ kl z hk]
/-- The pairs whose number some name leads to. -/
def keptP (l : List Lnk) (P : List (Int × Nat)) : List (Int × Nat) := P.filter fun p => linked l p.1
theorem ptrAt_kept (l : List Lnk) (P : List (Int × Nat)) (id : Int) : ptrAt (keptP l P) id = if linked l id = true then ptrAt P id else none := by
  unfold ptrAt keptP
  induction P with
  | nil => simp
  | cons p r ih =>
    by_cases h : linked l p.1 = true
    · rw [List.filter_cons, if_pos h, List.find?_cons, List.find?_cons]
      by_cases e : p.1 = id
      · rw [decide_eq_true e, ← e, if_pos h]
      · rw [decide_eq_false e]
        exact ih
    · rw [List.filter_cons, if_neg h, ih]
      by_cases e : p.1 = id
      · subst e
        rw [if_neg h, if_neg h]
      · rw [List.find?_cons, decide_eq_false e]
theorem canon_ptrD {P : List (Int × Nat)} (h : P.Pairwise fun a b => a.1 < b.1) : Canon (ptrD P) := by
  refine ⟨_, rfl, ?_, ?_⟩
  · rw [List.pairwise_map]
    exact h.imp fun {a b} hab => by show decide (a.1 < b.1) = true; exact decide_eq_true hab
  · intro p hp
    obtain ⟨q, _, rfl⟩ := List.mem_map.1 hp
    trivial
theorem has_ptrD {P : List (Int × Nat)} {kl : Lit} (h : Maps.has (ptrD P) kl = true) : ∃ id, kl = .int .i64 id ∧ (ptrAt P id).isSome = true := by
  have h0 := h
  unfold ptrD at h
  rw [has_eq, List.any_eq_true] at h
  obtain ⟨q, hq, hs⟩ := h
  obtain ⟨p, _, rfl⟩ := List.mem_map.1 hq
  have e := WideAt.sameKey_eq hs
  refine ⟨p.1, e.symm, ?_⟩
  rw [← e, ptrD_has] at h0
  exact h0
/-- Where nothing is to come any more, it is what is kept. -/
theorem gath_end {l : List Lnk} {P : List (Int × Nat)} {left : Lit → Bool} {D : DataW Unit} (h : Gath l P left D) (hl : ∀ k, left k = false) (hc : Canon D) (hP : P.Pairwise fun a b => a.1 < b.1) (hin : ∀ x ∈ l, (ptrAt P x.id).isSome = true) : D = ptrD (keptP l P) := by
  have key : ∀ kl, Maps.has D kl = Maps.has (ptrD (keptP l P)) kl := by
    intro kl
    rw [Bool.eq_iff_iff, h.has]
    constructor
    · rintro ⟨x, hx, _, rfl⟩
      rw [ptrD_has, ptrAt_kept, if_pos ((linked_iff l x.id).2 ⟨x, hx, rfl⟩)]
      exact hin x hx
    · intro hk
      obtain ⟨id, rfl, hs⟩ := has_ptrD hk
      rw [ptrAt_kept] at hs
      by_cases hlk : linked l id = true
      · obtain ⟨x, hx, rfl⟩ := (linked_iff l id).1 hlk
        exact ⟨x, hx, hl _, rfl⟩
      · rw [if_neg hlk] at hs
        cases hs
  refine ext hc (canon_ptrD (hP.filter _)) key fun kl z hk => ?_
  rw [h.at_ kl z hk]
  rw [key] at hk
  obtain ⟨id, rfl, hs⟩ := has_ptrD hk
  rw [ptrD_at, ptrD_at]
  rw [ptrAt_kept] at hs ⊢
  by_cases hlk : linked l id = true
  · rw [if_pos hlk]
  · rw [if_neg hlk] at hs
    cases hs
/-- What is kept of the inodes, with their places. -/
def keptN (l : List Lnk) (ns : List Nod) : List Nod := ns.filter fun x => linked l x.id
def keptG (l : List Lnk) : List Nod → List Nat → List Nat
  | x :: r, g :: s => if linked l x.id = true then g :: keptG l r s else keptG l r s
  | _, _ => []
theorem prs_kept (l : List Lnk) : ∀ (ns : List Nod) (gs : List Nat), gs.length = ns.length → keptP l (prs ns gs) = prs (keptN l ns) (keptG l ns gs) ∧ (keptG l ns gs).length = (keptN l ns).length
  | [], [], _ => ⟨rfl, rfl⟩
  | [], _ :: _, h => by cases h
  | _ :: _, [], h => by cases h
  | x :: r, g :: s, h => by
    have ih := prs_kept l r s (by simpa using h)
    have eg : keptG l (x :: r) (g :: s) = if linked l x.id = true then g :: keptG l r s else keptG l r s := by rw [keptG]
    rw [eg]
    unfold keptP prs keptN at *
    simp only [List.map_cons, List.zip_cons_cons]
    by_cases hx : linked l x.id = true
    · rw [List.filter_cons, if_pos hx, List.filter_cons, if_pos hx, if_pos hx, List.map_cons, List.zip_cons_cons, ih.1]
      exact ⟨rfl, by rw [List.length_cons, List.length_cons, ih.2]⟩
    · rw [List.filter_cons, if_neg hx, List.filter_cons, if_neg hx, if_neg hx]
      exact ih
theorem keptG_sub (l : List Lnk) : ∀ (ns : List Nod) (gs : List Nat), ∀ g ∈ keptG l ns gs, g ∈ gs
  | [], _, g, hg => by unfold keptG at hg; cases hg
  | _ :: _, [], g, hg => by unfold keptG at hg; cases hg
  | x :: r, h :: s, g, hg => by
    unfold keptG at hg
    by_cases hx : linked l x.id = true
    · rw [if_pos hx] at hg
      rcases List.mem_cons.1 hg with rfl | hg
      · exact List.mem_cons_self
      · exact List.mem_cons_of_mem _ (keptG_sub l r s g hg)
    · rw [if_neg hx] at hg
      exact List.mem_cons_of_mem _ (keptG_sub l r s g hg)
end Go.Proofs.YtgpplogieohdpaaGreat

/-
  The contract of (impl.openDisk).settle, for whatever table of names, inodes and open disk.
-/
namespace Go.Proofs.YtgpplogieohdpaaGreat
open Go.ChangeShapes Go.WideShapes Go.ChangeAt Go.RowKit Go.PlainAid Go.Maps
set_option linter.unusedVariables false

theorem ptrAt_prs : ∀ (ns : List Nod) (gs : List Nat) (id : Int), gs.length = ns.length → (∃ x ∈ ns, x.id = id) → (ptrAt (prs ns gs) id).isSome = true
  | [], _, _, _, h => by obtain ⟨x, hx, _⟩ := h; cases hx
  | _ :: _, [], _, h, _ => by cases h
  | y :: r, g :: s, id, hl, h => by
    unfold ptrAt prs
    simp only [List.map_cons, List.zip_cons_cons, List.find?_cons]
    by_cases e : y.id = id
    · rw [decide_eq_true e]
      rfl
    · rw [decide_eq_false e]
      obtain ⟨x, hx, hid⟩ := h
      rcases List.mem_cons.1 hx with rfl | hx
      · exact absurd hid e
      · exact ptrAt_prs r s id (by simpa using hl) ⟨x, hx, hid⟩
theorem linked_nod {d : Dsk} {l : List Lnk} (h : Linked d l) {x : Lnk} (hx : x ∈ l) : ∃ y ∈ d.nods, y.id = x.id := by
  have h1 := h.ids x hx
  rcases e : nodAt d.nods x.id with _ | j
  · rw [e] at h1; cases h1
  · obtain ⟨hj, hid⟩ := nodAt_at e
    exact ⟨d.nods.getD j default, getD_mem d.nods j hj, hid⟩
theorem prs_rise {ns : List Nod} {gs : List Nat} (h : Rising ns) : (prs ns gs).Pairwise fun a b => a.1 < b.1 := by
  unfold prs
  have h1 : (ns.map (·.id)).Pairwise (· < ·) := by rw [List.pairwise_map]; exact h
  generalize ns.map (·.id) = is at h1
  clear h
  induction is generalizing gs with
  | nil => simp
  | cons a r ih =>
    cases gs with
    | nil => simp
    | cons g s =>
      rw [List.zip_cons_cons, List.pairwise_cons]
      rw [List.pairwise_cons] at h1
      exact ⟨fun q hq => h1.1 q.1 (List.of_mem_zip hq).1, ih h1.2⟩

theorem sorted_one {l : List Lnk} (h : Sorted l) : ∀ x ∈ l, ∀ y ∈ l, x.name = y.name → x = y := by
  intro x hx y hy e
  obtain ⟨i, hi, rfl⟩ := List.getElem_of_mem hx
  obtain ⟨j, hj, rfl⟩ := List.getElem_of_mem hy
  rcases Nat.lt_trichotomy i j with hij | hij | hij
  · have := (List.pairwise_iff_getElem.1 h) i j hi hj hij
    rw [e] at this
    exact absurd this (by rw [ahead_irrefl]; simp)
  · subst hij; rfl
  · have := (List.pairwise_iff_getElem.1 h) j i hj hi hij
    rw [e] at this
    exact absurd this (by rw [ahead_irrefl]; simp)

set_option maxRecDepth 20000 in
set_option maxHeartbeats 4000000 in
theorem settleG (w : World) (base p : Nat) (room next : Int) (bi : Nat) (ns : List Nod) (gs : List Nat) (vd u vw : Value) (bn : Nat) (l : List Lnk)
    (hblk : Blk w p #[.int .i64 room, .int .i64 next, .map (some bi), vd, u, vw] 61) (hit : IT w bi (prs ns gs)) (hheld : Held w ns gs) (hgl : ∀ g ∈ gs, g ≠ p) (hlo : base ≤ p) (hids : ∀ x ∈ ns, 1 ≤ x.id ∧ x.id ≤ 1000000) (hr : Rising ns) (hso : Sorted l) (hln : ∀ x ∈ l, ∃ y ∈ ns, y.id = x.id) (hn : NT w bn l) (hnp : p ≠ bn) (hll : l.length ≤ 1000) (hB : base ≤ w.heap.size) :
    Calls Tryz.prog 26 #[.pointer (some ⟨p, 0, none⟩), .map (some bn)] w fun e w' => (∃ r, e = .returned r) ∧ (∃ bl bc, Blk w' p #[.int .i64 room, .int .i64 next, .map (some bl), .map (some bn), .slice none 0 0, .map (some bc)] 61 ∧ IT w' bl (prs (keptN l ns) (keptG l ns gs)) ∧ Held w' ns gs ∧ NT w' bn l) ∧ Below base w w' := by
  have HK : Hid (Blk w p #[.int .i64 room, .int .i64 next, .map (some bi), vd, u, vw] 61) := hblk
  have HIT : Hid (IT w bi (prs ns gs)) := hit
  have HHD : Hid (Held w ns gs) := hheld
  have HGL : Hid (∀ g ∈ gs, g ≠ p) := hgl
  have HLO : Hid (base ≤ p) := hlo
  have HID : Hid (∀ x ∈ ns, 1 ≤ x.id ∧ x.id ≤ 1000000) := hids
  have HSO : Hid (Sorted l) := hso
  have HLK : Hid (∀ x ∈ l, ∃ y ∈ ns, y.id = x.id) := hln
  have HR : Hid (Rising ns) := hr
  have HN : Hid (NT w bn l) := hn
  have HNP : Hid (p ≠ bn) := hnp
  have HB : Hid (base ≤ w.heap.size) := hB
  have hnt := hn.tight
  have HLL : Hid (l.length ≤ 1000) := hll
  have hmm := fun t wx => run_makeMap (P := Tryz.prog) t wx
  have e1 : (w.alloc (.map #[] 0)).heap.size = w.heap.size + 1 := by simp
  clear hblk hit hheld hgl hlo hids hr hso hln hn hnp hB
  go_enter Tryz.func26, Tryz.ntmps26
  go_wp2_with (first
    | (at_range; refine wpList_range_own _ rfl _ 59 rfl 9 3 (string_keyed Tryz.underlying9) Tryz.underlying59 _ bn l.length _ rfl (hnt.alloc _) ?_; intro w0 hrg0 hg0 hs0)
    | go_in)
  go_frame
  rw [e1] at hrg0 hs0 ⊢
  go_loopw [6] (fun _ wr => ∃ (left : Lit → Bool) (cnt k : Nat) (Dout : DataW Unit), wr.ranges Tryz.prog 9 intElem bn (w.heap.size + 1) l.length (linkD l) left cnt ∧ k + cnt ≤ l.length ∧
      wr.ownsMap Tryz.prog 3 ptrElem w.heap.size k Dout ∧ Gath l (prs ns gs) left Dout ∧ Below w.heap.size w wr)
    (fun _ wr => wr.rangeLeft bn (w.heap.size + 1))
  case atStart =>
    exact ⟨_, _, 0, .map [], hrg0, by rw [linkD_size]; omega, (World.ownsMap_made _ _ _ _).kept hg0 (by simp), gath_start l _, ((Below.refl _ _).alloc (Nat.le_refl _) _).grown hg0 (by simp) (fun j hj => by cases hj)⟩
  case round =>
    obtain ⟨left, cnt, k, Dout, hrg, hkc, hout, hA, hnx⟩ := hrel
    go_wp2_with (first
      | (at_next; refine wpList_next_ranges _ rfl _ rfl 9 (string_keyed Tryz.underlying9) intElem (fun (s : ByteArray) => Value.string s) (fun (c : Int) => Value.int .i64 c) ?_ ?_ bn (w.heap.size + 1) l.length _ _ _ rfl hrg ?_ ?_)
      | go_in)
    · intro key kl hk
      obtain ⟨s, rfl, _, _⟩ := Go.WideMaps.string_of_keyOf Tryz.underlying9 hk
      exact ⟨s, rfl⟩
    · intro v y hv
      unfold intElem at hv
      split at hv
      · exact ⟨_, rfl⟩
      · cases hv
    · -- nothing is left
      intro hc0 hl0
      have hD := gath_end hA hl0 (hout.canon (int_keyed Tryz.underlying3)) (prs_rise HR.out) (fun x hx => ptrAt_prs ns gs x.id HHD.out.len (HLK.out x hx))
      rw [(prs_kept l ns gs HHD.out.len).1] at hD
      subst hD
      have IR : Hid (IT wr w.heap.size (prs (keptN l ns) (keptG l ns gs))) := ⟨_, hout⟩
      have NR : Hid (NT wr bn l) := ⟨_, hrg.owns⟩
      have BR : Hid (Below w.heap.size w wr) := hnx
      have KR : Hid (Blk wr p #[.int .i64 room, .int .i64 next, .map (some bi), vd, u, vw] 61) := HK.out.on hnx HK.out.lt
      have HHR : Hid (Held wr ns gs) := HHD.out.on hnx HHD.out.lt
      have hru := hrg.lt
      have cC := cloneNV wr bn l NR.out
      clear hout hrg hA hnx hc0 hl0 hkc hru
      go_wp2_with fail
      refine cC.mono ?_
      rintro e w4 ⟨rfl, hN4, hb4⟩
      have B4 : Hid (Below w.heap.size w w4) := BR.out.trans (hb4.mono BR.out.size)
      have K4 : Hid (Blk w4 p #[.int .i64 room, .int .i64 next, .map (some bi), vd, u, vw] 61) := KR.out.on hb4 KR.out.lt
      have I4 : Hid (IT w4 w.heap.size (prs (keptN l ns) (keptG l ns gs))) := IR.out.on hb4 IR.out.lt
      have H4 : Hid (Held w4 ns gs) := HHR.out.on hb4 HHR.out.lt
      have N4 : Hid (NT w4 bn l) := NR.out.on hb4 NR.out.lt
      have PL : Hid (p < w.heap.size) := HK.out.lt
      clear hN4 hb4 cC
      have y2 := K4.out.cell 2 _ rfl
      have z2 := K4.out.free 2
      have y3 := K4.out.cell 3 _ rfl
      have z3 := K4.out.free 3
      have y4 := K4.out.cell 4 _ rfl
      have z4 := K4.out.free 4
      have y5 := K4.out.cell 5 _ rfl
      have z5 := K4.out.free 5
      go_wp2_with fail
      have hkeep : ∀ g, g ≠ p → ((((w4.setCell ⟨p, 2, none⟩ (.map (some w.heap.size))).setCell ⟨p, 3, none⟩ (.map (some bn))).setCell ⟨p, 4, none⟩ (.slice none 0 0)).setCell ⟨p, 5, none⟩ (.map (some wr.heap.size))).heap[g]? = w4.heap[g]? := fun g hg => by
        rw [Below.heap_setCell _ ⟨p, 5, none⟩ _ _ hg, Below.heap_setCell _ ⟨p, 4, none⟩ _ _ hg, Below.heap_setCell _ ⟨p, 3, none⟩ _ _ hg, Below.heap_setCell _ ⟨p, 2, none⟩ _ _ hg]
      have hBB : Below base w ((((w4.setCell ⟨p, 2, none⟩ (.map (some w.heap.size))).setCell ⟨p, 3, none⟩ (.map (some bn))).setCell ⟨p, 4, none⟩ (.slice none 0 0)).setCell ⟨p, 5, none⟩ (.map (some wr.heap.size))) := ((((B4.out.mono HB.out).setCell (p := ⟨p, 2, none⟩) HLO.out _).setCell (p := ⟨p, 3, none⟩) HLO.out _).setCell (p := ⟨p, 4, none⟩) HLO.out _).setCell (p := ⟨p, 5, none⟩) HLO.out _
      have hKK := ((((K4.out.set 2 (.map (some w.heap.size))).set 3 (.map (some bn))).set 4 (.slice none 0 0)).set 5 (.map (some wr.heap.size)))
      exact bodyPost_end (v := .tuple #[]) (by simp [results, go_sem]) rfl ⟨⟨_, rfl⟩, ⟨w.heap.size, wr.heap.size, hKK, I4.out.kept (hkeep _ (by have := PL.out; omega)), H4.out.kept fun g hg => hkeep g (HGL.out g hg), N4.out.kept (hkeep bn HNP.out.symm)⟩, hBB⟩
    · -- a name has come
      intro s c kl y ps w1 cnt1 hkey hlk hv hat hrg1 hlt hg1 hs1 hen
      obtain ⟨s', es, rfl, hsz⟩ := Go.WideMaps.string_of_keyOf Tryz.underlying9 hkey
      injection es with es
      subst es
      have hy : y = .lit (.int .i64 c) := by
        unfold intElem at hv
        simp at hv
        exact hv.1.symm
      subst hy
      obtain ⟨x, hx, hxn, hxi⟩ := link_of (l := l) (s := s) (c := c) hat
      obtain ⟨nd, hnd, hndi⟩ := HLK.out x hx
      have hids := HID.out nd hnd
      have hPs := ptrAt_prs ns gs c HHD.out.len ⟨nd, hnd, by omega⟩
      obtain ⟨g, hg⟩ := Option.isSome_iff_exists.1 hPs
      have hB1 : Below w.heap.size w w1 := hnx.grown hg1 hnx.size (fun j hj => by cases hj; exact Nat.le_succ _)
      have hval := ((HIT.out.on hB1 HIT.out.lt).val c ⟨by omega, by omega⟩).2 g hg
      have hout1 := hout.kept hg1 (by simp)
      obtain ⟨w2, r2, hout2, ht2⟩ := hout1.store (int_keyed Tryz.underlying3) Tryz.underlying57 (by unfold maxLen; have := HLL.out; omega) (intK_of (a := c) ⟨by omega, by omega⟩) (ptrElem_mk g)
      have hrg2 := hrg1.kept ht2.grown (fun e => by have := Option.some.inj e; have := HN.out.lt; omega) (fun e => by have := Option.some.inj e; omega)
      have hB2 : Below w.heap.size w w2 := hB1.grown ht2.grown hB1.size (fun j hj => by cases hj; exact Nat.le_refl _)
      have hGG := gath_step hA hout.isMap (fun a ha b hb => sorted_one HSO.out a ha b hb) hat hg
      have k2 := (HK.out.on hB1 HK.out.lt).cell 2 _ rfl
      have REL : Hid (∃ (left : Lit → Bool) (cnt k : Nat) (Dout : DataW Unit), w2.ranges Tryz.prog 9 intElem bn (w.heap.size + 1) l.length (linkD l) left cnt ∧ k + cnt ≤ l.length ∧ w2.ownsMap Tryz.prog 3 ptrElem w.heap.size k Dout ∧ Gath l (prs ns gs) left Dout ∧ Below w.heap.size w w2) := ⟨_, cnt1, k + 1, _, hrg2, by omega, hout2, hGG, hB2⟩
      have MEA : Hid (w2.rangeLeft bn (w.heap.size + 1) < wr.rangeLeft bn (w.heap.size + 1)) := by unfold Hid; rw [hrg2.left_eq, hrg.left_eq]; exact hlt
      clear hrg hout hA hnx hrg1 hg1 hs1 hout1 hout2 ht2 hrg2 hGG hat hv hkey hlk hPs hg hB1 hB2
      go_wp2_with fail
      go_roundw
      case rel => exact REL.out
      case measure => exact MEA.out
end Go.Proofs.YtgpplogieohdpaaGreat
