/-
  Inodes that stand behind pointers; the contract of (impl.openDisk).spare.
-/
import Derived.Test.YtnnfnhpehacelaaGreatRows
import Derived.Test.YtnnfnhpehacelaaGreatImMap
import Derived.Test.YtnnfnhpehacelaaGreatDkName
namespace Go.Proofs.YtnnfnhpehacelaaGreat
open Go.ChangeShapes Go.WideShapes Go.ChangeAt Go.RowKit Go.PlainAid Go.Maps
set_option linter.unusedVariables false

theorem ret_int {k : IntKind} {a b : Int} (h : a = b) : Ending.returned (.int k a) = .returned (.int k b) := by rw [h]
/-- Which number leads to which place. -/
def prs (ns : List Nod) (gs : List Nat) : List (Int × Nat) := (ns.map (·.id)).zip gs
/-- The inodes lie each in a block of its own. -/
structure Held (w : World) (ns : List Nod) (gs : List Nat) : Prop where
  len : gs.length = ns.length
  blk : ∀ j, j < ns.length → Blk w (gs.getD j 0) #[.int .i64 (ns.getD j default).id, .string (ns.getD j default).data, .int .i64 (ns.getD j default).sure] 76
theorem Held.kept {w w' : World} {ns : List Nod} {gs : List Nat} (h : Held w ns gs) (hk : ∀ g ∈ gs, w'.heap[g]? = w.heap[g]?) : Held w' ns gs :=
  ⟨h.len, fun j hj => by
    unfold Blk
    rw [hk _ (by
      have hj' : j < gs.length := by rw [h.len]; exact hj
      rw [List.getD_eq_getElem?_getD, List.getElem?_eq_getElem hj']
      exact List.getElem_mem hj')]
    exact h.blk j hj⟩
theorem Held.lt {w : World} {ns : List Nod} {gs : List Nat} (h : Held w ns gs) : ∀ g ∈ gs, g < w.heap.size := fun g hg => by
  obtain ⟨j, hj, rfl⟩ := List.getElem_of_mem hg
  have := (h.blk j (by rw [← h.len]; exact hj)).lt
  rw [List.getD_eq_getElem?_getD, List.getElem?_eq_getElem hj] at this
  exact this
theorem Held.but {S : Nat → Prop} {w w' : World} {ns : List Nod} {gs : List Nat} (h : Held w ns gs) (hb : But S w w') (hn : ∀ g ∈ gs, ¬ S g) : Held w' ns gs := h.kept fun g hg => hb.block g (h.lt g hg) (hn g hg)
theorem Held.on {B : Nat} {w w' : World} {ns : List Nod} {gs : List Nat} (h : Held w ns gs) (hb : Below B w w') (hn : ∀ g ∈ gs, g < B) : Held w' ns gs := h.kept fun g hg => hb.block g (hn g hg)
/-- Numbers that rise. -/
def Rising (ns : List Nod) : Prop := ns.Pairwise fun a b => a.id < b.id
theorem prs_at {ns : List Nod} {gs : List Nat} {x : Int} {g : Nat} (h : ptrAt (prs ns gs) x = some g) : ∃ j, j < ns.length ∧ (ns.getD j default).id = x ∧ gs.getD j 0 = g := by
  unfold ptrAt prs at h
  rw [Option.map_eq_some_iff] at h
  obtain ⟨p, hp, rfl⟩ := h
  have h1 := List.find?_some hp
  have h2 := List.mem_of_find?_eq_some hp
  obtain ⟨j, hj, rfl⟩ := List.getElem_of_mem h2
  have hl : j < ns.length ∧ j < gs.length := by
    rw [List.length_zip, List.length_map] at hj
    omega
  refine ⟨j, hl.1, ?_, ?_⟩
  · rw [← getD_at ns j hl.1]
    have := of_decide_eq_true h1
    rw [List.getElem_zip, List.getElem_map] at this
    exact this
  · rw [List.getD_eq_getElem?_getD, List.getElem?_eq_getElem hl.2]
    rw [List.getElem_zip]
    rfl
/-- The bytes of the inodes that are still to come. -/
def rem (left : Lit → Bool) : List Nod → Nat
  | [] => 0
  | x :: r => (if left (.int .i64 x.id) = true then x.data.size else 0) + rem left r
theorem rem_all {left : Lit → Bool} {ns : List Nod} (h : ∀ x ∈ ns, left (.int .i64 x.id) = true) : rem left ns = bytesOf ns := by
  induction ns with
  | nil => rfl
  | cons x r ih =>
    unfold rem bytesOf
    rw [if_pos (h x (by simp)), ih fun y hy => h y (by simp [hy])]
theorem rem_no {left : Lit → Bool} {ns : List Nod} (h : ∀ kl, left kl = false) : rem left ns = 0 := by
  induction ns with
  | nil => rfl
  | cons x r ih =>
    unfold rem
    rw [ih, if_neg (by rw [h]; exact Bool.false_ne_true)]
theorem rem_congr {p q : Lit → Bool} {ns : List Nod} (h : ∀ x ∈ ns, p (.int .i64 x.id) = q (.int .i64 x.id)) : rem p ns = rem q ns := by
  induction ns with
  | nil => rfl
  | cons x r ih =>
    unfold rem
    rw [h x (by simp), ih fun y hy => h y (by simp [hy])]
theorem rem_strike {left : Lit → Bool} : ∀ {ns : List Nod}, Rising ns → ∀ {j : Nat}, j < ns.length → left (.int .i64 (ns.getD j default).id) = true → rem left ns = rem (fun z => left z && !z.sameKey (.int .i64 (ns.getD j default).id)) ns + (ns.getD j default).data.size
  | [], _, j, hj, _ => by simp at hj
  | x :: r, hr, 0, _, hl => by
    have h1 := List.pairwise_cons.1 hr
    have e : (List.getD (x :: r) 0 default) = x := rfl
    rw [e] at hl ⊢
    unfold rem
    rw [if_pos hl, intK_same, decide_eq_true rfl, Bool.not_true, Bool.and_false, if_neg Bool.false_ne_true]
    have : rem left r = rem (fun z => left z && !z.sameKey (.int .i64 x.id)) r := rem_congr fun y hy => by
      rw [intK_same, decide_eq_false (by have := h1.1 y hy; omega)]
      simp
    omega
  | x :: r, hr, j + 1, hj, hl => by
    have h1 := List.pairwise_cons.1 hr
    have e : (List.getD (x :: r) (j + 1) default) = r.getD j default := rfl
    rw [e] at hl ⊢
    have ih := rem_strike h1.2 (show j < r.length by simpa using hj) hl
    unfold rem
    have hm := getD_mem r j (by simpa using hj)
    rw [intK_same, decide_eq_false (by have := h1.1 _ hm; omega), Bool.not_false, Bool.and_true]
    omega
theorem rem_le (left : Lit → Bool) : ∀ ns : List Nod, rem left ns ≤ bytesOf ns
  | [] => Nat.le_refl _
  | x :: r => by
    have := rem_le left r
    unfold rem bytesOf
    split <;> omega
theorem prs_has {ns : List Nod} {gs : List Nat} (hl : gs.length = ns.length) {x : Nod} (hx : x ∈ ns) : has (ptrD (prs ns gs)) (.int .i64 x.id) = true := by
  rw [ptrD_has]
  unfold ptrAt
  rw [Option.isSome_map, List.find?_isSome]
  obtain ⟨j, hj, rfl⟩ := List.getElem_of_mem hx
  refine ⟨(ns[j].id, gs[j]'(by omega)), ?_, by simp⟩
  unfold prs
  rw [List.mem_iff_getElem]
  exact ⟨j, by rw [List.length_zip, List.length_map]; omega, by rw [List.getElem_zip, List.getElem_map]⟩

/-- A table's next entry. -/
theorem wpList_next_it {P : Program} (w : World) {ops : Array Oper} {rest : List Oper} {o : Oper} {a : Act} {Q : Exit → Act → World → Prop} (hg : o.guard = none) (it : Operand) (hop : o.op = Op.next it false) (k : TypeId) (hk : P.underlying k = some (.int .i64)) (b r n : Nat) (l : List (Int × Nat)) (left : Lit → Bool) (cnt : Nat)
    (hit : a.eval it = .pointer (some ⟨r, 0, none⟩)) (h : w.ranges P k ptrElem b r n (ptrD l) left cnt)
    (hDone : cnt = 0 → (∀ kl, left kl = false) → wpList P ops Q rest (a.put o.dst (.tuple #[.bool false])) w)
    (hMore : ∀ (x : Int) (g : Nat) (w' : World) (cnt' : Nat), left (.int .i64 x) = true → ptrAt l x = some g → w'.ranges P k ptrElem b r n (ptrD l) (fun z => left z && !z.sameKey (.int .i64 x)) cnt' → cnt' < cnt →
      w.grownBy w' (some r) → w'.heap.size = w.heap.size → (Instr.entry (.pointer (some ⟨r, 0, none⟩))).run P w' = .ok (.tuple #[.int .i64 x, .pointer (some ⟨g, 0, none⟩)]) w' → wpList P ops Q rest (a.put o.dst (.tuple #[.bool true, .int .i64 x, .pointer (some ⟨g, 0, none⟩)])) w') :
    wpList P ops Q (o :: rest) a w := by
  refine wpList_plain hg fun K' hK' => ?_
  unfold Oper.wp
  rcases h.next (int_keyed hk) o.type with ⟨h0, hl, hrun⟩ | ⟨key, v, kl, y, w', cnt', hkey, hlk, hv, hat, hrun, hrg, hlt, hgr, hsz, hen⟩
  · simp [execOp, hop, hit, hrun, Result.andThen]
    exact hK' _ _ (hDone h0 hl)
  · obtain ⟨x, rfl, rfl, _⟩ := Maps.keyOf_int_inv hk hkey
    obtain ⟨g, hg', rfl⟩ : ∃ g, ptrAt l x = some g ∧ v = .pointer (some ⟨g, 0, none⟩) := by
      have h1 := hat .nil
      have h2 := hat (.map [])
      rw [ptrD_at] at h1 h2
      rcases e : ptrAt l x with _ | g
      · rw [e] at h1 h2
        rw [← h1] at h2
        cases h2
      · rw [e] at h1
        refine ⟨g, rfl, ptrElem_inv (ps := y.2) ?_⟩
        rw [hv]
        exact congrArg some (Prod.ext h1.symm rfl)
    simp [execOp, hop, hit, hrun, Result.andThen]
    exact hK' _ _ (hMore x g w' cnt' hlk hg' hrg hlt hgr hsz hen)

set_option maxRecDepth 20000 in
set_option maxHeartbeats 1000000 in
/-- How many bytes there is room for yet. -/
theorem spareV (room next : Int) (v4 v5 v6 : Value) (p bi : Nat) (ns : List Nod) (gs : List Nat) (w : World) (hp : Blk w p #[.int .i64 room, .int .i64 next, .map (some bi), v4, v5, v6] 108) (hI : IT w bi (prs ns gs)) (hH : Held w ns gs) (hr : Rising ns)
    (h0 : 0 ≤ room) (h1 : room ≤ 1048576) (hs : bytesOf ns ≤ 4194304) :
    Calls Tryz.prog 88 #[.pointer (some ⟨p, 0, none⟩)] w fun e w' => e = .returned (.int .i64 (room - (bytesOf ns : Int))) ∧ Below w.heap.size w w' := by
  have HI := hI.tight
  have HH : Hid (Held w ns gs) := hH
  have HR : Hid (Rising ns) := hr
  have HS : Hid (bytesOf ns ≤ 4194304) := hs
  have HA : Hid (rem (has (ptrD (prs ns gs))) ns = bytesOf ns) := rem_all fun x hx => prs_has hH.len hx
  have hbl := hI.lt
  have y0 := hp.cell 0 _ rfl
  have y2 := hp.cell 2 _ rfl
  have q0 : (bytesOf ns : Int) ≤ 4194304 := by omega
  clear hp hI hH hr hs
  go_enter Tryz.func88, Tryz.ntmps88
  go_wp2_with (at_range; refine wpList_range_own _ rfl _ 104 rfl 3 111 (int_keyed Tryz.underlying3) Tryz.underlying104 _ bi _ _ rfl HI ?_; intro w0 hrg0 hg0 hs0)
  go_frame
  have B0 : Hid (Below w.heap.size w w0) := (Below.refl _ w).grown hg0 (Nat.le_refl _) (fun j hj => by cases hj)
  have RG : Hid (w0.ranges Tryz.prog 3 ptrElem bi w.heap.size (prs ns gs).length (ptrD (prs ns gs)) (has (ptrD (prs ns gs))) (Maps.size (ptrD (prs ns gs)))) := hrg0
  clear hrg0 hg0 hs0 y0 y2 HI
  go_loopw [3] (fun v3 wr => ∃ (left : Lit → Bool) (cnt : Nat), wr.ranges Tryz.prog 3 ptrElem bi w.heap.size (prs ns gs).length (ptrD (prs ns gs)) left cnt ∧ v3 = .int .i64 (room - (bytesOf ns : Int) + (rem left ns : Int)) ∧ Below w.heap.size w wr)
    (fun _ wr => wr.rangeLeft bi w.heap.size)
  case atStart => exact ⟨_, _, RG.out, by rw [HA.out]; congr 1; omega, B0.out⟩
  case round =>
    obtain ⟨left, cnt, hrg, rfl, hb⟩ := hrel
    have HB : Hid (Below w.heap.size w wr) := hb
    have hle := rem_le left ns
    have q1 : (rem left ns : Int) ≤ 4194304 := by omega
    clear hb hle
    go_wp2_with (at_next; refine wpList_next_it _ rfl _ rfl 3 Tryz.underlying3 bi w.heap.size _ _ _ _ rfl hrg ?_ ?_)
    · intro hc0 hl0
      have HZ : Hid (rem left ns = 0) := rem_no hl0
      clear hl0 hc0
      go_wp2_with fail
      go_ret
      exact ⟨ret_int (by rw [HZ.out]; omega), HB.out⟩
    · intro x g w1 cnt1 hlx hat hrg1 hlt hg1 hs1 hen
      obtain ⟨j, hj, hx, hgj⟩ := prs_at hat
      have HE : Hid (rem left ns = rem (fun z => left z && !z.sameKey (.int .i64 x)) ns + (ns.getD j default).data.size) := by
        unfold Hid
        rw [← hx]
        exact rem_strike HR.out hj (by rw [hx]; exact hlx)
      have B1 : Hid (Below w.heap.size w w1) := HB.out.grown hg1 HB.out.size (fun i hi => by cases hi; exact Nat.le_refl _)
      have hk := HH.out.blk j hj
      rw [hgj] at hk
      have hk1 := hk.on B1.out hk.lt
      have x1 := hk1.cell 1 _ rfl
      have R1 : Hid (w1.ranges Tryz.prog 3 ptrElem bi w.heap.size (prs ns gs).length (ptrD (prs ns gs)) (fun z => left z && !z.sameKey (.int .i64 x)) cnt1) := hrg1
      have R0 : Hid (wr.ranges Tryz.prog 3 ptrElem bi w.heap.size (prs ns gs).length (ptrD (prs ns gs)) left cnt) := hrg
      have hsz : ((ns.getD j default).data.size : Int) ≤ 4194304 := by have := HE.out; omega
      have HLT : Hid (cnt1 < cnt) := hlt
      have EI : Hid ((rem left ns : Int) = (rem (fun z => left z && !z.sameKey (.int .i64 x)) ns : Int) + ((ns.getD j default).data.size : Int)) := by unfold Hid; rw [HE.out]; omega
      clear hrg1 hrg hlt hg1 hs1 hk hk1 hlx hat hx hgj HE hj
      generalize (ns.getD j default).data = dt at *
      generalize hre : rem left ns = re at *
      generalize hrf : rem (fun z => left z && !z.sameKey (.int .i64 x)) ns = rf at *
      go_wp2_with fail
      go_roundw
      case rel => exact ⟨_, cnt1, R1.out, by rw [hrf]; congr 1; have := EI.out; omega, B1.out⟩
      case measure => rw [R1.out.left_eq, R0.out.left_eq]; exact HLT.out
end Go.Proofs.YtnnfnhpehacelaaGreat
