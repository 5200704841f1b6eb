/-
  The contract of (impl.openDisk).takeInodes.
-/
import Derived.Test.YtnnfnhpehacelaaGreatRows
import Derived.Test.YtnnfnhpehacelaaGreatImSpare
import Derived.Test.YtnnfnhpehacelaaGreatDkWith
import Derived.Deep.RegionHeld3
import Derived.Deep.QuietTactic
import Derived.BigQuiet
namespace Go.Proofs.YtnnfnhpehacelaaGreat
open Go.ChangeShapes Go.WideShapes Go.ChangeAt Go.RowKit Go.PlainAid Go.Maps
set_option linter.unusedVariables false

/-- The number ahead of a place. -/
def lastId (ns : List Nod) : Nat → Int
  | 0 => 0
  | k + 1 => (ns.getD k default).id
/-- The inode at a place can be taken. -/
def goodAt (next : Int) (ns : List Nod) (k : Nat) : Bool :=
  !decide ((ns.getD k default).id ≤ lastId ns k) && !decide (next ≤ (ns.getD k default).id) && !decide ((ns.getD k default).sure < 0) && !decide (((ns.getD k default).data.size : Int) < (ns.getD k default).sure)
/-- The inodes can be taken. -/
def takeOk (room next : Int) (ns : List Nod) : Bool := decide (ns.length ≤ 10) && (List.range ns.length).all (goodAt next ns) && decide ((bytesOf ns : Int) ≤ room)
theorem all_no {n k : Nat} {p : Nat → Bool} (hk : k < n) (h : p k = false) : (List.range n).all p = false := by
  rw [List.all_eq_false]
  exact ⟨k, List.mem_range.2 hk, by rw [h]; exact Bool.false_ne_true⟩
theorem all_yes {n : Nat} {p : Nat → Bool} (h : ∀ j, j < n → p j = true) : (List.range n).all p = true := by
  rw [List.all_eq_true]
  exact fun j hj => h j (List.mem_range.1 hj)
theorem takeOk_long {room next : Int} {ns : List Nod} (h : ¬ ns.length ≤ 10) : takeOk room next ns = false := by
  unfold takeOk
  rw [decide_eq_false h]
  rfl
theorem takeOk_no {room next : Int} {ns : List Nod} {k : Nat} (hk : k < ns.length) (h : goodAt next ns k = false) : takeOk room next ns = false := by
  unfold takeOk
  rw [all_no hk h, Bool.and_false]
  rfl
theorem takeOk_end {room next : Int} {ns : List Nod} (hl : ns.length ≤ 10) (h : ∀ j, j < ns.length → goodAt next ns j = true) : takeOk room next ns = decide ((bytesOf ns : Int) ≤ room) := by
  unfold takeOk
  rw [all_yes h, decide_eq_true hl, Bool.true_and, Bool.true_and]
theorem goodAt_gt {next : Int} {ns : List Nod} {k : Nat} (h : goodAt next ns k = true) : lastId ns k < (ns.getD k default).id := by
  unfold goodAt at h
  simp only [Bool.and_eq_true, Bool.not_eq_true', decide_eq_false_iff_not] at h
  omega
theorem lastId_nonneg {next : Int} {ns : List Nod} {k : Nat} (h : ∀ j, j < k → goodAt next ns j = true) : 0 ≤ lastId ns k := by
  induction k with
  | zero => exact Int.le_refl _
  | succ k ih =>
    have h1 := ih fun j hj => h j (by omega)
    have h2 := goodAt_gt (h k (by omega))
    show 0 ≤ (ns.getD k default).id
    omega
/-- Numbers that are taken rise. -/
theorem take_rising {next : Int} {ns : List Nod} {k : Nat} (hk : k ≤ ns.length) (h : ∀ j, j < k → goodAt next ns j = true) : Rising (ns.take k) ∧ ∀ x ∈ ns.take k, x.id ≤ lastId ns k := by
  induction k with
  | zero => exact ⟨by rw [List.take_zero]; exact List.Pairwise.nil, fun x hx => by rw [List.take_zero] at hx; cases hx⟩
  | succ k ih =>
    obtain ⟨h1, h2⟩ := ih (by omega) fun j hj => h j (by omega)
    have hg := goodAt_gt (h k (by omega))
    rw [take_getD ns k (by omega)]
    refine ⟨?_, fun x hx => ?_⟩
    · unfold Rising
      rw [List.pairwise_append]
      refine ⟨h1, List.pairwise_singleton _ _, fun a ha b hb => ?_⟩
      rw [List.mem_singleton] at hb
      subst hb
      have := h2 a ha
      omega
    · rcases List.mem_append.1 hx with hx | hx
      · have := h2 x hx
        show x.id ≤ (ns.getD k default).id
        omega
      · rw [List.mem_singleton] at hx
        subst hx
        exact Int.le_refl _
theorem prs_snoc {ns : List Nod} {gs : List Nat} {x : Nod} {g : Nat} (h : gs.length = ns.length) : prs (ns ++ [x]) (gs ++ [g]) = prs ns gs ++ [(x.id, g)] := by
  unfold prs
  rw [List.map_append, List.zip_append (by rw [List.length_map, h])]
  rfl
theorem prs_mem {ns : List Nod} {gs : List Nat} {p : Int × Nat} (h : p ∈ prs ns gs) : ∃ x ∈ ns, x.id = p.1 := by
  have h1 := (List.of_mem_zip h).1
  obtain ⟨x, hx, e⟩ := List.mem_map.1 h1
  exact ⟨x, hx, e⟩
theorem prs_length {ns : List Nod} {gs : List Nat} (h : gs.length = ns.length) : (prs ns gs).length = ns.length := by
  unfold prs
  rw [List.length_zip, List.length_map]
  omega
theorem getD_snoc_lt {α : Type} (l : List α) (x d : α) (j : Nat) (h : j < l.length) : (l ++ [x]).getD j d = l.getD j d := by
  rw [List.getD_eq_getElem?_getD, List.getElem?_append_left h, ← List.getD_eq_getElem?_getD]
theorem getD_snoc_last {α : Type} (l : List α) (x d : α) : (l ++ [x]).getD l.length d = x := by
  rw [List.getD_eq_getElem?_getD, List.getElem?_append_right (Nat.le_refl _)]
  simp
theorem Held.snoc {w : World} {ns : List Nod} {gs : List Nat} {x : Nod} {g : Nat} (h : Held w ns gs) (hg : Blk w g #[.int .i64 x.id, .string x.data, .int .i64 x.sure] 76) : Held w (ns ++ [x]) (gs ++ [g]) :=
  ⟨by rw [List.length_append, List.length_append, h.len]; rfl, fun j hj => by
    rw [List.length_append, List.length_singleton] at hj
    by_cases hlt : j < ns.length
    · rw [getD_snoc_lt ns x default j hlt, getD_snoc_lt gs g 0 j (by rw [h.len]; exact hlt)]
      exact h.blk j hlt
    · obtain rfl : j = ns.length := by omega
      rw [getD_snoc_last]
      have := getD_snoc_last gs g 0
      rw [h.len] at this
      rw [this]
      exact hg⟩
/-- What is taken so far. -/
structure Taken (w wr : World) (bi : Nat) (ns : List Nod) (gs : List Nat) : Prop where
  it : IT wr bi (prs ns gs)
  held : Held wr ns gs
  new : ∀ g ∈ gs, w.heap.size ≤ g
  rise : gs.Pairwise (· < ·)
  but : But (fun i => i = bi) w wr

set_option maxRecDepth 20000 in
set_option maxHeartbeats 4000000 in
theorem takeInodesV (room next : Int) (v1 v4 v5 v6 : Value) (p bi B : Nat) (ns : List Nod) (w : World) (hp : Blk w p #[.int .i64 room, .int .i64 next, .map (some bi), v4, v5, v6] 108) (hI : IT w bi []) (hv : Lies w B 3 v1 (nodR ns)) (hB : B ≤ w.heap.size) (hbB : B ≤ bi) (hne : p ≠ bi)
    (h0 : 0 ≤ room) (h1 : room ≤ 1048576) (hx0 : 1 ≤ next) (hx1 : next ≤ 1000000) (hs : bytesOf ns ≤ 4194304) (hln : ns.length ≤ 1048576) :
    Calls Tryz.prog 78 #[.pointer (some ⟨p, 0, none⟩), v1] w fun e w' => e = .returned (.bool (takeOk room next ns)) ∧ But (fun i => i = bi) w w' ∧ (takeOk room next ns = true → ∃ gs, Taken w w' bi ns gs) := by
  obtain ⟨A, cap, rfl, hl⟩ := nod_look hv
  have HL : Hid (∀ j, j < ns.length → ∃ g off, A = some ⟨g, off, none⟩ ∧ g < B ∧ _) := hl
  have HB : Hid (B ≤ w.heap.size) := hB
  have HBB : Hid (B ≤ bi) := hbB
  have HP : Hid (Blk w p #[.int .i64 room, .int .i64 next, .map (some bi), v4, v5, v6] 108) := hp
  have HNE : Hid (p ≠ bi) := hne
  have HS : Hid (bytesOf ns ≤ 4194304) := hs
  have HI : Hid (IT w bi []) := hI
  clear hl hv hB hbB hp hne hs hI
  by_cases hlen : ns.length ≤ 10
  · have q1 : (ns.length : Int) ≤ 10 := by omega
    have n1' : decide ((10 : Int) < (ns.length : Int)) = false := decide_eq_false (by omega)
    have HE : Hid ((∀ j, j < ns.length → goodAt next ns j = true) → takeOk room next ns = decide ((bytesOf ns : Int) ≤ room)) := takeOk_end hlen
    have HNO : Hid (∀ k, k < ns.length → goodAt next ns k = false → takeOk room next ns = false) := fun k hk h => takeOk_no hk h
    have HLN : Hid (ns.length ≤ 10) := hlen
    clear hlen hln
    generalize hN : ns.length = N at *
    go_enter Tryz.func78, Tryz.ntmps78
    go_wp2_with fail
    go_loopw [5, 13] (fun v5' v13 wr => ∃ k : Nat, k ≤ N ∧ v13 = .int .i64 (k : Int) ∧ v5' = .int .i64 (lastId ns k) ∧ (∀ j, j < k → goodAt next ns j = true) ∧ ∃ gs, Taken w wr bi (ns.take k) gs) (fun _ i _ => N - (intOf i).toNat)
    case atStart => exact ⟨0, by omega, rfl, rfl, fun j hj => by omega, [], by rw [List.take_zero]; exact ⟨HI.out, ⟨rfl, fun j hj => by simp at hj⟩, fun g hg => by (cases hg), List.Pairwise.nil, But.refl _ _⟩⟩
    case round =>
      obtain ⟨k, hk, rfl, rfl, hgd, gs, hT⟩ := hrel
      have HG : Hid (∀ j, j < k → goodAt next ns j = true) := hgd
      have HT : Hid (Taken w wr bi (ns.take k) gs) := hT
      clear hgd hT
      have hpr : Blk wr p #[.int .i64 room, .int .i64 next, .map (some bi), v4, v5, v6] 108 := HT.out.but.blk HP.out HNE.out
      by_cases hlt : k < N
      · have q4 : (k : Int) < (N : Int) := by omega
        obtain ⟨g, off, rfl, hg, hc0, hc1, hc2⟩ := HL.out k hlt
        have hgw : g < w.heap.size := Nat.lt_of_lt_of_le hg HB.out
        have hgb : wr.heap[g]? = w.heap[g]? := HT.out.but.block g hgw (fun e => by have := HBB.out; omega)
        have hcc : ∀ o, wr.cell? ⟨g, o, none⟩ = w.cell? ⟨g, o, none⟩ := fun o => World.cell?_of_block (w := w) hgb
        rw [← hcc] at hc0 hc1 hc2
        have HGE : Hid (goodAt next ns k = (!decide ((ns.getD k default).id ≤ lastId ns k) && !decide (next ≤ (ns.getD k default).id) && !decide ((ns.getD k default).sure < 0) && !decide (((ns.getD k default).data.size : Int) < (ns.getD k default).sure))) := rfl
        have HBD : Hid (goodAt next ns k = false → takeOk room next ns = false) := fun h => HNO.out k (by omega) h
        have HGD : Hid (goodAt next ns k = true → ∀ j, j < k + 1 → goodAt next ns j = true) := fun h => less_succ HG.out h
        have hsz : ((ns.getD k default).data.size : Int) ≤ 4194304 := by
          have e1 := bytesOf_snoc ns k (by omega)
          have e2 := bytesOf_le ns (k + 1)
          have := HS.out
          omega
        have HTK : Hid (ns.take (k + 1) = ns.take k ++ [ns.getD k default]) := take_getD ns k (by omega)
        have HLS : Hid (lastId ns (k + 1) = (ns.getD k default).id) := rfl
        have HLT : Hid (∀ x ∈ ns.take k, x.id ≤ lastId ns k) := (take_rising (by omega) HG.out).2
        have hla0 : 0 ≤ lastId ns k := lastId_nonneg HG.out
        have hpl : p < wr.heap.size := hpr.lt
        have hbl : bi < wr.heap.size := HT.out.it.lt
        clear hgb hgw hcc hg
        generalize hxx : ns.getD k default = xx at *
        obtain ⟨xi, xd, xs⟩ := xx
        simp only at *
        generalize hla : lastId ns k = la at *
        go_wp2_with fail
        have KP : Blk (wr.alloc (.cells #[.int .i64 xi, .string xd, .int .i64 xs] 76)) p #[.int .i64 room, .int .i64 next, .map (some bi), v4, v5, v6] 108 := hpr.alloc _
        have KZ := Blk.new wr #[.int .i64 xi, .string xd, .int .i64 xs] 76
        have BY : Hid (But (fun i => i = bi) w (wr.alloc (.cells #[.int .i64 xi, .string xd, .int .i64 xs] 76))) := HT.out.but.alloc _
        have IY : Hid (IT (wr.alloc (.cells #[.int .i64 xi, .string xd, .int .i64 xs] 76)) bi (prs (ns.take k) gs)) := HT.out.it.on ((Below.refl _ wr).alloc (Nat.le_refl _) _) hbl
        have HY : Hid (Held (wr.alloc (.cells #[.int .i64 xi, .string xd, .int .i64 xs] 76)) (ns.take k) gs) := HT.out.held.on ((Below.refl _ wr).alloc (Nat.le_refl _) _) HT.out.held.lt
        have SY : (wr.alloc (.cells #[.int .i64 xi, .string xd, .int .i64 xs] 76)).heap.size = wr.heap.size + 1 := by simp
        generalize wr.alloc (.cells #[.int .i64 xi, .string xd, .int .i64 xs] 76) = Y at *
        have z0 : Y.cell? ⟨wr.heap.size, 0, none⟩ = some (.int .i64 xi) := KZ.cell 0 _ rfl
        have z1 : Y.cell? ⟨wr.heap.size, 1, none⟩ = some (.string xd) := KZ.cell 1 _ rfl
        have z2 : Y.cell? ⟨wr.heap.size, 2, none⟩ = some (.int .i64 xs) := KZ.cell 2 _ rfl
        have b1 : Y.cell? ⟨p, 1, none⟩ = some (.int .i64 next) := KP.cell 1 _ rfl
        have b2 : Y.cell? ⟨p, 2, none⟩ = some (.map (some bi)) := KP.cell 2 _ rfl
        have HWZ : Hid (w.heap.size ≤ wr.heap.size) := HT.out.but.size
        clear KP KZ hpr hc0 hc1 hc2
        have HSY : Hid (Y.heap.size = wr.heap.size + 1) := SY
        clear SY
        generalize wr.heap.size = pz at *
        by_cases c1 : xi ≤ la
        · have e1 : decide (xi ≤ la) = true := decide_eq_true c1
          have gf : Hid (goodAt next ns k = false) := by unfold Hid; rw [HGE.out, e1] <;> rfl
          go_quiet (fail)
          go_wp2_with fail
          go_ret
          exact ⟨by rw [HBD.out gf.out]; rfl, BY.out.drewN nq, fun h => by rw [HBD.out gf.out] at h; cases h⟩
        · have e1 : decide (xi ≤ la) = false := decide_eq_false c1
          by_cases c2 : next ≤ xi
          · have e2 : decide (next ≤ xi) = true := decide_eq_true c2
            have gf : Hid (goodAt next ns k = false) := by unfold Hid; rw [HGE.out, e1, e2, Bool.not_true, Bool.and_false] <;> rfl
            go_quiet (fail)
            go_wp2_with fail
            go_ret
            exact ⟨by rw [HBD.out gf.out]; rfl, BY.out.drewN nq, fun h => by rw [HBD.out gf.out] at h; cases h⟩
          · have e2 : decide (next ≤ xi) = false := decide_eq_false c2
            by_cases c3 : xs < 0
            · have e3 : decide (xs < 0) = true := decide_eq_true c3
              have gf : Hid (goodAt next ns k = false) := by unfold Hid; rw [HGE.out, e1, e2, e3, Bool.not_true, Bool.and_false] <;> rfl
              go_quiet (fail)
              go_wp2_with fail
              go_ret
              exact ⟨by rw [HBD.out gf.out]; rfl, BY.out.drewN nq, fun h => by rw [HBD.out gf.out] at h; cases h⟩
            · have e3 : decide (xs < 0) = false := decide_eq_false c3
              by_cases c4 : (xd.size : Int) < xs
              · have e4 : decide ((xd.size : Int) < xs) = true := decide_eq_true c4
                have gf : Hid (goodAt next ns k = false) := by unfold Hid; rw [HGE.out, e1, e2, e3, e4, Bool.not_true, Bool.and_false] <;> rfl
                go_quiet (fail)
                go_wp2_with fail
                go_ret
                exact ⟨by rw [HBD.out gf.out]; rfl, BY.out.drewN nq, fun h => by rw [HBD.out gf.out] at h; cases h⟩
              · have e4 : decide ((xd.size : Int) < xs) = false := decide_eq_false c4
                have gf : Hid (goodAt next ns k = true) := by unfold Hid; rw [HGE.out, e1, e2, e3, e4]; rfl
                go_quiet (fail)
                go_wp2_with fail
                have HTT : Hid (∀ q ∈ prs (ns.take k) gs, q.1 < xi) := fun q hq => by
                  obtain ⟨x, hx, e⟩ := prs_mem hq
                  have := HLT.out x hx
                  omega
                have kN := Blk.new (Y.drewN (nq + 1)) #[.int .i64 xi, .string xd, .int .i64 xs] 76
                have iN : IT ((Y.drewN (nq + 1)).alloc (.cells #[.int .i64 xi, .string xd, .int .i64 xs] 76)) bi (prs (ns.take k) gs) := IY.out.on (B := Y.heap.size) ⟨rfl, rfl, rfl, by simp, fun i hi => Below.heap_alloc _ _ i hi⟩ IY.out.lt
                have HN' : Hid (Held ((Y.drewN (nq + 1)).alloc (.cells #[.int .i64 xi, .string xd, .int .i64 xs] 76)) (ns.take k) gs) := HY.out.on (B := Y.heap.size) ⟨rfl, rfl, rfl, by simp, fun i hi => Below.heap_alloc _ _ i hi⟩ HY.out.lt
                have BN : Hid (But (fun i => i = bi) w ((Y.drewN (nq + 1)).alloc (.cells #[.int .i64 xi, .string xd, .int .i64 xs] 76))) := (BY.out.drewN (nq + 1)).alloc _
                obtain ⟨w2, r2, hI2, hB2, hS2⟩ := iN.put xi Y.heap.size ⟨by omega, by omega⟩ (by rw [prs_length HT.out.held.len, List.length_take]; unfold maxLen; omega) HTT.out
                have T2 : Hid (Taken w w2 bi (ns.take (k + 1)) (gs ++ [Y.heap.size])) := by
                  have hbY : Y.heap.size ≠ bi := fun e => by have := IY.out.lt; omega
                  rw [Hid, HTK.out]
                  refine ⟨by rw [prs_snoc HT.out.held.len]; exact hI2, (HN'.out.snoc (x := ⟨xi, xd, xs⟩) kN).but hB2 ?_, ?_, ?_, BN.out.trans hB2 (fun _ _ e => e)⟩
                  · intro g hg e
                    subst e
                    rcases List.mem_append.1 hg with hg | hg
                    · have := HT.out.new g hg
                      have := HI.out.lt
                      omega
                    · rw [List.mem_singleton] at hg
                      exact hbY hg.symm
                  · intro g hg
                    rcases List.mem_append.1 hg with hg | hg
                    · exact HT.out.new g hg
                    · rw [List.mem_singleton] at hg
                      subst hg
                      have := HSY.out
                      have := HWZ.out
                      omega
                  · rw [List.pairwise_append]
                    refine ⟨HT.out.rise, List.pairwise_singleton _ _, fun a ha b hb => ?_⟩
                    rw [List.mem_singleton] at hb
                    subst hb
                    exact HY.out.lt a ha
                have HW1 : Hid (p < Y.heap.size) := by unfold Hid; have := HSY.out; omega
                have HW2 : Hid (pz < Y.heap.size) := by unfold Hid; have := HSY.out; omega
                have HPB : Hid (p ≠ bi) := HNE.out
                have S1 : Hid (((Y.drewN (nq + 1)).alloc (.cells #[.int .i64 xi, .string xd, .int .i64 xs] 76)).cell? ⟨p, 2, none⟩ = some (.map (some bi)) ∧ ((Y.drewN (nq + 1)).alloc (.cells #[.int .i64 xi, .string xd, .int .i64 xs] 76)).cell? ⟨pz, 0, none⟩ = some (.int .i64 xi) ∧ ((Y.drewN (nq + 1)).alloc (.cells #[.int .i64 xi, .string xd, .int .i64 xs] 76)).cell? ⟨pz, 1, none⟩ = some (.string xd) ∧ ((Y.drewN (nq + 1)).alloc (.cells #[.int .i64 xi, .string xd, .int .i64 xs] 76)).cell? ⟨pz, 2, none⟩ = some (.int .i64 xs)) := ⟨(World.cell?_alloc_lt _ _ _ HW1.out).trans b2, (World.cell?_alloc_lt _ _ _ HW2.out).trans z0, (World.cell?_alloc_lt _ _ _ HW2.out).trans z1, (World.cell?_alloc_lt _ _ _ HW2.out).trans z2⟩
                have hcp : ∀ o, w2.cell? ⟨p, o, none⟩ = ((Y.drewN (nq + 1)).alloc (.cells #[.int .i64 xi, .string xd, .int .i64 xs] 76)).cell? ⟨p, o, none⟩ := fun o => World.cell?_of_block (w := _) (hB2.block p (by have := HW1.out; simp; omega) HNE.out)
                have hcz : ∀ o, w2.cell? ⟨pz, o, none⟩ = ((Y.drewN (nq + 1)).alloc (.cells #[.int .i64 xi, .string xd, .int .i64 xs] 76)).cell? ⟨pz, o, none⟩ := fun o => World.cell?_of_block (w := _) (hB2.block pz (by have := HW2.out; simp; omega) (fun e => by omega))
                have S2 : Hid (w2.cell? ⟨p, 2, none⟩ = some (.map (some bi)) ∧ w2.cell? ⟨pz, 0, none⟩ = some (.int .i64 xi) ∧ w2.cell? ⟨pz, 1, none⟩ = some (.string xd) ∧ w2.cell? ⟨pz, 2, none⟩ = some (.int .i64 xs)) := ⟨(hcp 2).trans S1.out.1, (hcz 0).trans S1.out.2.1, (hcz 1).trans S1.out.2.2.1, (hcz 2).trans S1.out.2.2.2⟩
                clear kN iN hI2 hB2 hS2 hcp hcz
                have S0 : Hid ((Y.drewN (nq + 1)).cell? ⟨p, 2, none⟩ = some (.map (some bi)) ∧ (Y.drewN (nq + 1)).cell? ⟨pz, 0, none⟩ = some (.int .i64 xi) ∧ (Y.drewN (nq + 1)).cell? ⟨pz, 1, none⟩ = some (.string xd) ∧ (Y.drewN (nq + 1)).cell? ⟨pz, 2, none⟩ = some (.int .i64 xs)) := ⟨b2, z0, z1, z2⟩
                go_region_held3 (fun w' => w'.cell? ⟨p, 2, none⟩ = some (.map (some bi)) ∧ w'.cell? ⟨pz, 0, none⟩ = some (.int .i64 xi) ∧ w'.cell? ⟨pz, 1, none⟩ = some (.string xd) ∧ w'.cell? ⟨pz, 2, none⟩ = some (.int .i64 xs)) (first | exact S0.out | exact S1.out | exact S2.out) (fail)
                go_wp2_with fail
                go_roundw
                case rel => exact ⟨k + 1, by omega, by go_num, by rw [HLS.out], HGD.out gf.out, _, T2.out⟩
                case measure => simp [intOf]; omega
      · obtain rfl : k = N := by omega
        have hT' : Taken w wr bi ns gs := by
          have := HT.out
          rw [← hN, List.take_length] at this
          exact this
        have HF : Hid (takeOk room next ns = decide ((bytesOf ns : Int) ≤ room)) := HE.out HG.out
        have HRi : Rising ns := by
          have := (take_rising (ns := ns) (k := k) (by omega) HG.out).1
          rw [← hN, List.take_length] at this
          exact this
        have cS := spareV room next v4 v5 v6 p bi ns gs wr hpr hT'.it hT'.held HRi h0 h1 HS.out
        have HTE : Hid (Taken w wr bi ns gs) := hT'
        clear hpr HRi hT'
        generalize bytesOf ns = bn' at *
        go_wp2_with fail
        refine cS.mono ?_
        rintro e w3 ⟨rfl, hb⟩
        have T3 : Hid (Taken w w3 bi ns gs) := ⟨HTE.out.it.on hb HTE.out.it.lt, HTE.out.held.on hb HTE.out.held.lt, HTE.out.new, HTE.out.rise, HTE.out.but.trans (But.of_below (fun _ => False) hb) (fun _ _ k => k.elim)⟩
        clear hb cS
        go_wp2_with fail
        go_ret
        exact ⟨by rw [HF.out]; rfl, T3.out.but, fun _ => ⟨gs, T3.out⟩⟩
  · have q1 : (ns.length : Int) ≤ 1048576 := by omega
    have n1 : (10 : Int) < (ns.length : Int) := by omega
    have n1' : decide ((10 : Int) < (ns.length : Int)) = true := decide_eq_true n1
    have HF : Hid (takeOk room next ns = false) := takeOk_long hlen
    clear hlen hln
    generalize ns.length = N at *
    go_enter Tryz.func78, Tryz.ntmps78
    go_wp2_with fail
    go_ret
    exact ⟨by rw [HF.out]; rfl, But.refl _ _, fun h => by rw [HF.out] at h; cases h⟩
end Go.Proofs.YtnnfnhpehacelaaGreat
