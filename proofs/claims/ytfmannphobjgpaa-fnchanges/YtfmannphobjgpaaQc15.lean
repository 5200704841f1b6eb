/- CnStep -/
import Derived.Test.YtfmannphobjgpaaRows
import Derived.Test.YtfmannphobjgpaaQc14
import Derived.Test.YtfmannphobjgpaaQc9
import Derived.Handy
import Derived.Deep.RegionHeld3
import Derived.Deep.CutRange
import Derived.Deep.Cut
open List (setIfInBounds_toArray set_cons_zero set_cons_succ)
namespace Go.Proofs.Ytfmannphobjgpaa
open Go.ChangeShapes Go.WideShapes Go.ChangeAt Go.RowKit Go.PlainAid
set_option linter.unusedVariables false
theorem WalO.alloc {w : World} {base : Nat} {v : Value} {x : Wl} (h : WalO w base v x) (o : Obj) : WalO (w.alloc o) base v x := by
 obtain ⟨u, e, hO⟩ := h
 exact ⟨u, e, hO.alloc o⟩
theorem WalO.own_lt {w : World} {base : Nat} {v : Value} {x : Wl} (h : WalO w base v x) (g : Nat) (e : walOwn v = some g) : g < w.heap.size := by
 obtain ⟨u, rfl, hO⟩ := h
 exact (hO.lt _ e).2
theorem WalO.own_ge {w : World} {base : Nat} {v : Value} {x : Wl} (h : WalO w base v x) (g : Nat) (e : walOwn v = some g) : base ≤ g := by
 obtain ⟨u, rfl, hO⟩ := h
 exact (hO.lt _ e).1
set_option maxRecDepth 20000 in
set_option maxHeartbeats 8000000 in
theorem implWalStepY (x : Wl) (r : Rcd) (v : Value) (w : World) (B : Nat) (hv : WalV w B v x) (hf : FitsW x) (hx : walOk x = true) (hr : recOk r = true) (hfit : recFits x r = true) (hdd : ∀ e ∈ x.ents, e.data.size ≤ 1048576) (hB : B ≤ w.heap.size) :
  Calls Try.prog 8 #[v, vRcd r] w fun e w' => ∃ u, e = .returned (.tuple #[u, .bool true]) ∧ WalO w' w.heap.size u (stepTo x r) ∧ Below w.heap.size w w' := by
 have HV : Hid (WalV w B v x) := hv
 have HF : Hid (FitsW x) := hf
 have HB : Hid (B ≤ w.heap.size) := hB
 have HX : Hid (walOk x = true) := hx
 have HR : Hid (stepR x r = (stepTo x r, true)) := by unfold Hid stepR; rw [hr, hfit]; rfl
 have HD : Hid (r.data.size ≤ 900) := recOk_data r hr
 have HDD : Hid (∀ e ∈ x.ents, e.data.size ≤ 1048576) := hdd
 obtain ⟨n60, nb1, nb2⟩ := walOk_in x hx
 have HN60 : Hid (x.ents.length ≤ 60) := n60
 have HL : Hid (x.ents.length ≤ 1048576) := by unfold Hid; omega
 have HB1 : Hid (0 ≤ x.base) := nb1
 have HB2 : Hid (x.base ≤ 100000) := nb2
 obtain ⟨u, rfl, hl⟩ := hv
 unfold vRcd
 clear hl hf hB hx hr hfit hdd n60 nb1 nb2
 have B0 : Hid (Below w.heap.size w (((w.alloc (.cells #[.int .i64 x.term, .int .i64 x.vote, .int .i64 x.base, .int .i64 x.bterm, u] 26)).alloc (.cells #[.int .i64 r.kind, .int .i64 r.term, .int .i64 r.index, .int .i64 r.vote, .string r.data] 35)).alloc (.cells #[.int .i64 0, .int .i64 0, .int .i64 0, .int .i64 0, .slice none 0 0] 26))) := (((Below.refl _ w).alloc (Nat.le_refl _) _).alloc (by simp) _).alloc (by simp; omega) _
 have KP0 : Hid (Blk (((w.alloc (.cells #[.int .i64 x.term, .int .i64 x.vote, .int .i64 x.base, .int .i64 x.bterm, u] 26)).alloc (.cells #[.int .i64 r.kind, .int .i64 r.term, .int .i64 r.index, .int .i64 r.vote, .string r.data] 35)).alloc (.cells #[.int .i64 0, .int .i64 0, .int .i64 0, .int .i64 0, .slice none 0 0] 26)) w.heap.size #[.int .i64 x.term, .int .i64 x.vote, .int .i64 x.base, .int .i64 x.bterm, u] 26) := ((Blk.new w _ _).alloc _).alloc _
 have KQ0 : Hid (Blk (((w.alloc (.cells #[.int .i64 x.term, .int .i64 x.vote, .int .i64 x.base, .int .i64 x.bterm, u] 26)).alloc (.cells #[.int .i64 r.kind, .int .i64 r.term, .int .i64 r.index, .int .i64 r.vote, .string r.data] 35)).alloc (.cells #[.int .i64 0, .int .i64 0, .int .i64 0, .int .i64 0, .slice none 0 0] 26)) (w.heap.size + 1) #[.int .i64 r.kind, .int .i64 r.term, .int .i64 r.index, .int .i64 r.vote, .string r.data] 35) := by
  have := (Blk.new (w.alloc (.cells #[.int .i64 x.term, .int .i64 x.vote, .int .i64 x.base, .int .i64 x.bterm, u] 26)) #[.int .i64 r.kind, .int .i64 r.term, .int .i64 r.index, .int .i64 r.vote, .string r.data] 35).alloc (.cells #[.int .i64 0, .int .i64 0, .int .i64 0, .int .i64 0, .slice none 0 0] 26)
  simp only [World.size_alloc] at this
  exact this
 have KR0 : Hid (Blk (((w.alloc (.cells #[.int .i64 x.term, .int .i64 x.vote, .int .i64 x.base, .int .i64 x.bterm, u] 26)).alloc (.cells #[.int .i64 r.kind, .int .i64 r.term, .int .i64 r.index, .int .i64 r.vote, .string r.data] 35)).alloc (.cells #[.int .i64 0, .int .i64 0, .int .i64 0, .int .i64 0, .slice none 0 0] 26)) (w.heap.size + 1 + 1) #[.int .i64 0, .int .i64 0, .int .i64 0, .int .i64 0, .slice none 0 0] 26) := by
  have := Blk.new ((w.alloc (.cells #[.int .i64 x.term, .int .i64 x.vote, .int .i64 x.base, .int .i64 x.bterm, u] 26)).alloc (.cells #[.int .i64 r.kind, .int .i64 r.term, .int .i64 r.index, .int .i64 r.vote, .string r.data] 35)) #[.int .i64 0, .int .i64 0, .int .i64 0, .int .i64 0, .slice none 0 0] 26
  simp only [World.size_alloc] at this
  exact this
 have NB0 : Hid ((w.heap.size + 1 + 1 + 1) ≤ (((w.alloc (.cells #[.int .i64 x.term, .int .i64 x.vote, .int .i64 x.base, .int .i64 x.bterm, u] 26)).alloc (.cells #[.int .i64 r.kind, .int .i64 r.term, .int .i64 r.index, .int .i64 r.vote, .string r.data] 35)).alloc (.cells #[.int .i64 0, .int .i64 0, .int .i64 0, .int .i64 0, .slice none 0 0] 26)).heap.size) := by unfold Hid; simp
 go_enter Try.func8, Try.ntmps8
 go_upto_region 1 with fail
 generalize (((w.alloc (.cells #[.int .i64 x.term, .int .i64 x.vote, .int .i64 x.base, .int .i64 x.bterm, u] 26)).alloc (.cells #[.int .i64 r.kind, .int .i64 r.term, .int .i64 r.index, .int .i64 r.vote, .string r.data] 35)).alloc (.cells #[.int .i64 0, .int .i64 0, .int .i64 0, .int .i64 0, .slice none 0 0] 26)) = w0 at *
 go_cut [6, 7] from 8 to 15 (fun s6 s7 wc => ∃ g A n c, s6 = .pointer (some ⟨g, 0, none⟩) ∧ s7 = .bool true ∧ Blk wc g #[.int .i64 (stepTo x r).term, .int .i64 (stepTo x r).vote, .int .i64 (stepTo x r).base, .int .i64 (stepTo x r).bterm, .slice A n c] 26 ∧ Owns wc w.heap.size 58 2 (.slice A n c) (entR (stepTo x r).ents) ∧ Blk wc w.heap.size #[.int .i64 x.term, .int .i64 x.vote, .int .i64 x.base, .int .i64 x.bterm, u] 26 ∧ Blk wc (w.heap.size + 1 + 1) #[.int .i64 0, .int .i64 0, .int .i64 0, .int .i64 0, .slice none 0 0] 26 ∧ w.heap.size + 1 + 1 < g ∧ Below w.heap.size w wc)
 case first =>
  have S0 : Hid (w0.drew.cell? ⟨w.heap.size, 0, none⟩ = some (.int .i64 x.term) ∧ w0.drew.cell? ⟨w.heap.size, 1, none⟩ = some (.int .i64 x.vote) ∧ w0.drew.cell? ⟨w.heap.size, 2, none⟩ = some (.int .i64 x.base) ∧ w0.drew.cell? ⟨w.heap.size, 3, none⟩ = some (.int .i64 x.bterm) ∧ w0.drew.cell? ⟨w.heap.size, 4, none⟩ = some (u) ∧ w0.drew.cell? ⟨w.heap.size + 1, 0, none⟩ = some (.int .i64 r.kind) ∧ w0.drew.cell? ⟨w.heap.size + 1, 1, none⟩ = some (.int .i64 r.term) ∧ w0.drew.cell? ⟨w.heap.size + 1, 2, none⟩ = some (.int .i64 r.index) ∧ w0.drew.cell? ⟨w.heap.size + 1, 3, none⟩ = some (.int .i64 r.vote) ∧ w0.drew.cell? ⟨w.heap.size + 1, 4, none⟩ = some (.string r.data)) := ⟨KP0.out.cell 0 _ rfl, KP0.out.cell 1 _ rfl, KP0.out.cell 2 _ rfl, KP0.out.cell 3 _ rfl, KP0.out.cell 4 _ rfl, KQ0.out.cell 0 _ rfl, KQ0.out.cell 1 _ rfl, KQ0.out.cell 2 _ rfl, KQ0.out.cell 3 _ rfl, KQ0.out.cell 4 _ rfl⟩
  refine wp_region_until (fun w' => w'.cell? ⟨w.heap.size, 0, none⟩ = some (.int .i64 x.term) ∧ w'.cell? ⟨w.heap.size, 1, none⟩ = some (.int .i64 x.vote) ∧ w'.cell? ⟨w.heap.size, 2, none⟩ = some (.int .i64 x.base) ∧ w'.cell? ⟨w.heap.size, 3, none⟩ = some (.int .i64 x.bterm) ∧ w'.cell? ⟨w.heap.size, 4, none⟩ = some (u) ∧ w'.cell? ⟨w.heap.size + 1, 0, none⟩ = some (.int .i64 r.kind) ∧ w'.cell? ⟨w.heap.size + 1, 1, none⟩ = some (.int .i64 r.term) ∧ w'.cell? ⟨w.heap.size + 1, 2, none⟩ = some (.int .i64 r.index) ∧ w'.cell? ⟨w.heap.size + 1, 3, none⟩ = some (.int .i64 r.vote) ∧ w'.cell? ⟨w.heap.size + 1, 4, none⟩ = some (.string r.data)) (fun i => i == 9) 11 (by rfl) (by kernel_rfl) ?_
  have KPd : Hid (Blk w0.drew w.heap.size #[.int .i64 x.term, .int .i64 x.vote, .int .i64 x.base, .int .i64 x.bterm, u] 26) := KP0.out
  have KQd : Hid (Blk w0.drew (w.heap.size + 1) #[.int .i64 r.kind, .int .i64 r.term, .int .i64 r.index, .int .i64 r.vote, .string r.data] 35) := KQ0.out
  have KRd : Hid (Blk w0.drew (w.heap.size + 1 + 1) #[.int .i64 0, .int .i64 0, .int .i64 0, .int .i64 0, .slice none 0 0] 26) := KR0.out
  have Bd : Hid (Below w.heap.size w w0.drew) := B0.out.drew
  have NBd : Hid ((w.heap.size + 1 + 1 + 1) ≤ w0.drew.heap.size) := NB0.out
  clear KP0 KQ0 KR0 B0 NB0
  generalize w0.drew = W0 at *
  have KP0 := KPd
  have KQ0 := KQd
  have KR0 := KRd
  have B0 := Bd
  have NB0 := NBd
  refine until_take 0 (v := ?_) (by rfl) (by kernel_rfl) (by exact fun _ _ _ h => h) (by rfl) ?_ S0.out ?_
  rotate_left
  ·intro w hSw
   try dsimp only at hSw
   go_simp
   try with_reducible rfl
  try simp only [Act.put, setIfInBounds_toArray, set_cons_zero, set_cons_succ]
  refine until_take 2 (v := ?_) (by rfl) (by kernel_rfl) (by exact fun _ _ _ h => h) (by rfl) ?_ S0.out ?_
  rotate_left
  ·intro w hSw
   try dsimp only at hSw
   go_simp
   try with_reducible rfl
  try simp only [Act.put, setIfInBounds_toArray, set_cons_zero, set_cons_succ]
  refine until_two 1 8 (by rfl) (by rfl) (by kernel_rfl) (fun K hK => ?_) (fun K hK => ?_)
  ·skip
   go_simp
   refine (copyI x (.agg #[.int .i64 x.term, .int .i64 x.vote, .int .i64 x.base, .int .i64 x.bterm, u]) W0 B (HV.out.on (B0.out.mono HB.out)) HL.out HDD.out (Nat.le_trans HB.out B0.out.size)).mono ?_
   rintro e W1 ⟨u1, rfl, hO, hb⟩
   have O1 : Hid (WalO W1 (w.heap.size + 1 + 1 + 1) u1 x) := hO.mono NB0.out
   obtain ⟨s1, rfl, hs1⟩ := hO
   have KP1 : Hid (Blk W1 w.heap.size #[.int .i64 x.term, .int .i64 x.vote, .int .i64 x.base, .int .i64 x.bterm, u] 26) := KP0.out.on hb KP0.out.lt
   have KQ1 : Hid (Blk W1 (w.heap.size + 1) #[.int .i64 r.kind, .int .i64 r.term, .int .i64 r.index, .int .i64 r.vote, .string r.data] 35) := KQ0.out.on hb KQ0.out.lt
   have KR1 : Hid (Blk W1 (w.heap.size + 1 + 1) #[.int .i64 0, .int .i64 0, .int .i64 0, .int .i64 0, .slice none 0 0] 26) := KR0.out.on hb KR0.out.lt
   have B1 : Hid (Below w.heap.size w W1) := B0.out.trans (hb.mono B0.out.size)
   have NB1 : Hid ((w.heap.size + 1 + 1 + 1) ≤ W1.heap.size) := Nat.le_trans NB0.out hb.size
   clear hb hs1
   go_wp2_with fail
   refine hK.out _ _ (fun _ _ => ⟨KP1.out.cell 0 _ rfl, KP1.out.cell 1 _ rfl, KP1.out.cell 2 _ rfl, KP1.out.cell 3 _ rfl, KP1.out.cell 4 _ rfl, KQ1.out.cell 0 _ rfl, KQ1.out.cell 1 _ rfl, KQ1.out.cell 2 _ rfl, KQ1.out.cell 3 _ rfl, KQ1.out.cell 4 _ rfl⟩) ?_
   clear hK K
   try simp only [Act.put, setIfInBounds_toArray, set_cons_zero, set_cons_succ]
   refine until_two 3 8 (by rfl) (by rfl) (by kernel_rfl) (fun K hK => ?_) (fun K hK => ?_)
   ·skip
    go_simp
    refine (recordOfV r W1 (by have := HD.out; unfold maxLen; omega)).mono ?_
    rintro e W2 ⟨rfl, hb⟩
    have O2 : Hid (WalO W2 (w.heap.size + 1 + 1 + 1) (.agg #[.int .i64 x.term, .int .i64 x.vote, .int .i64 x.base, .int .i64 x.bterm, s1]) x) := O1.out.on hb
    have KP2 : Hid (Blk W2 w.heap.size #[.int .i64 x.term, .int .i64 x.vote, .int .i64 x.base, .int .i64 x.bterm, u] 26) := KP1.out.on hb KP1.out.lt
    have KQ2 : Hid (Blk W2 (w.heap.size + 1) #[.int .i64 r.kind, .int .i64 r.term, .int .i64 r.index, .int .i64 r.vote, .string r.data] 35) := KQ1.out.on hb KQ1.out.lt
    have KR2 : Hid (Blk W2 (w.heap.size + 1 + 1) #[.int .i64 0, .int .i64 0, .int .i64 0, .int .i64 0, .slice none 0 0] 26) := KR1.out.on hb KR1.out.lt
    have B2 : Hid (Below w.heap.size w W2) := B1.out.trans (hb.mono B1.out.size)
    have NB2 : Hid ((w.heap.size + 1 + 1 + 1) ≤ W2.heap.size) := Nat.le_trans NB1.out hb.size
    clear hb
    go_wp2_with fail
    refine hK.out _ _ (fun _ _ => ⟨KP2.out.cell 0 _ rfl, KP2.out.cell 1 _ rfl, KP2.out.cell 2 _ rfl, KP2.out.cell 3 _ rfl, KP2.out.cell 4 _ rfl, KQ2.out.cell 0 _ rfl, KQ2.out.cell 1 _ rfl, KQ2.out.cell 2 _ rfl, KQ2.out.cell 3 _ rfl, KQ2.out.cell 4 _ rfl⟩) ?_
    clear hK K
    try simp only [Act.put, setIfInBounds_toArray, set_cons_zero, set_cons_succ]
    refine until_two 4 8 (by rfl) (by rfl) (by kernel_rfl) (fun K hK => ?_) (fun K hK => ?_)
    ·skip
     go_simp
     refine (steppedV x r (.agg #[.int .i64 x.term, .int .i64 x.vote, .int .i64 x.base, .int .i64 x.bterm, s1]) W2 (w.heap.size + 1 + 1 + 1) O2.out HN60.out HB1.out HB2.out NB2.out (by have := HD.out; omega)).mono ?_
     rintro e W3 ⟨u2, b2, rfl, ⟨hO, rfl⟩, hb⟩
     rw [HR.out] at hO ⊢
     dsimp only at hO ⊢
     obtain ⟨s2, rfl, hs2⟩ := hO
     obtain ⟨A2, n2, c2, rfl⟩ := hs2.shape
     have O3 : Hid (Owns W3 (w.heap.size + 1 + 1 + 1) 58 2 (.slice A2 n2 c2) (entR (stepTo x r).ents)) := hs2
     have KP3 : Hid (Blk W3 w.heap.size #[.int .i64 x.term, .int .i64 x.vote, .int .i64 x.base, .int .i64 x.bterm, u] 26) := KP2.out.on hb.below (by omega)
     have KQ3 : Hid (Blk W3 (w.heap.size + 1) #[.int .i64 r.kind, .int .i64 r.term, .int .i64 r.index, .int .i64 r.vote, .string r.data] 35) := KQ2.out.on hb.below (by omega)
     have KR3 : Hid (Blk W3 (w.heap.size + 1 + 1) #[.int .i64 0, .int .i64 0, .int .i64 0, .int .i64 0, .slice none 0 0] 26) := KR2.out.on hb.below (by omega)
     have B3 : Hid (Below w.heap.size w W3) := B2.out.trans (hb.below.mono (by omega))
     have NB3 : Hid ((w.heap.size + 1 + 1 + 1) ≤ W3.heap.size) := Nat.le_trans NB2.out hb.below.size
     clear hb hs2
     go_wp2_with fail
     refine hK.out _ _ (fun _ _ => ⟨KP3.out.cell 0 _ rfl, KP3.out.cell 1 _ rfl, KP3.out.cell 2 _ rfl, KP3.out.cell 3 _ rfl, KP3.out.cell 4 _ rfl, KQ3.out.cell 0 _ rfl, KQ3.out.cell 1 _ rfl, KQ3.out.cell 2 _ rfl, KQ3.out.cell 3 _ rfl, KQ3.out.cell 4 _ rfl⟩) ?_
     clear hK K
     try simp only [Act.put, setIfInBounds_toArray, set_cons_zero, set_cons_succ]
     refine until_pure 5 (v := ?_) (by rfl) (by kernel_rfl) (by exact fun _ _ _ h => h) (by rfl) ?_ ?_
     rotate_left
     ·intro w
      go_simp
      try with_reducible rfl
     try simp only [Act.put, setIfInBounds_toArray, set_cons_zero, set_cons_succ]
     refine until_pure 6 (v := ?_) (by rfl) (by kernel_rfl) (by exact fun _ _ _ h => h) (by rfl) ?_ ?_
     rotate_left
     ·intro w
      go_simp
      try with_reducible rfl
     try simp only [Act.put, setIfInBounds_toArray, set_cons_zero, set_cons_succ]
     refine until_pure 7 (v := ?_) (by rfl) (by kernel_rfl) (by exact fun _ _ _ h => h) (by rfl) ?_ ?_
     rotate_left
     ·intro w
      go_simp
      try with_reducible rfl
     try simp only [Act.put, setIfInBounds_toArray, set_cons_zero, set_cons_succ]
     refine until_one 8 (by rfl) (by kernel_rfl) (fun K hK => ?_)
     go_simp
     have KP4 : Hid (Blk (W3.alloc (.cells #[.int .i64 0, .int .i64 0, .int .i64 0, .int .i64 0, .slice none 0 0] 26)) w.heap.size #[.int .i64 x.term, .int .i64 x.vote, .int .i64 x.base, .int .i64 x.bterm, u] 26) := KP3.out.alloc _
     have KQ4 : Hid (Blk (W3.alloc (.cells #[.int .i64 0, .int .i64 0, .int .i64 0, .int .i64 0, .slice none 0 0] 26)) (w.heap.size + 1) #[.int .i64 r.kind, .int .i64 r.term, .int .i64 r.index, .int .i64 r.vote, .string r.data] 35) := KQ3.out.alloc _
     have KR4 : Hid (Blk (W3.alloc (.cells #[.int .i64 0, .int .i64 0, .int .i64 0, .int .i64 0, .slice none 0 0] 26)) (w.heap.size + 1 + 1) #[.int .i64 0, .int .i64 0, .int .i64 0, .int .i64 0, .slice none 0 0] 26) := KR3.out.alloc _
     have G4 : Hid (Blk (W3.alloc (.cells #[.int .i64 0, .int .i64 0, .int .i64 0, .int .i64 0, .slice none 0 0] 26)) W3.heap.size #[.int .i64 0, .int .i64 0, .int .i64 0, .int .i64 0, .slice none 0 0] 26) := Blk.new _ _ _
     have B4 : Hid (Below w.heap.size w (W3.alloc (.cells #[.int .i64 0, .int .i64 0, .int .i64 0, .int .i64 0, .slice none 0 0] 26))) := B3.out.alloc B3.out.size _
     have O4 : Hid (Owns (W3.alloc (.cells #[.int .i64 0, .int .i64 0, .int .i64 0, .int .i64 0, .slice none 0 0] 26)) (w.heap.size + 1 + 1 + 1) 58 2 (.slice A2 n2 c2) (entR (stepTo x r).ents)) := O3.out.alloc _
     have NB4 : Hid ((w.heap.size + 1 + 1 + 1) ≤ (W3.alloc (.cells #[.int .i64 0, .int .i64 0, .int .i64 0, .int .i64 0, .slice none 0 0] 26)).heap.size) := Nat.le_trans NB3.out (by simp)
     have GG4 : Hid ((w.heap.size + 1 + 1 + 1) ≤ W3.heap.size) := NB3.out
     refine hK.out _ _ (fun _ _ => ⟨KP4.out.cell 0 _ rfl, KP4.out.cell 1 _ rfl, KP4.out.cell 2 _ rfl, KP4.out.cell 3 _ rfl, KP4.out.cell 4 _ rfl, KQ4.out.cell 0 _ rfl, KQ4.out.cell 1 _ rfl, KQ4.out.cell 2 _ rfl, KQ4.out.cell 3 _ rfl, KQ4.out.cell 4 _ rfl⟩) ?_
     clear hK K
     try simp only [Act.put, setIfInBounds_toArray, set_cons_zero, set_cons_succ]
     generalize hNW : W3.alloc (.cells #[.int .i64 0, .int .i64 0, .int .i64 0, .int .i64 0, .slice none 0 0] 26) = W4 at *
     generalize W3.heap.size = g at *
     clear hNW
     have r0 := G4.out
     have r1 := r0.set 0 (.int .i64 (stepTo x r).term)
     have r2 := r1.set 1 (.int .i64 (stepTo x r).vote)
     have r3 := r2.set 2 (.int .i64 (stepTo x r).base)
     have r4 := r3.set 3 (.int .i64 (stepTo x r).bterm)
     have r5 := r4.set 4 (.slice A2 n2 c2)
     have y0 := r0.cell 0 _ rfl
     have f0 := r0.free 0
     have y1 := r1.cell 1 _ rfl
     have f1 := r1.free 1
     have y2 := r2.cell 2 _ rfl
     have f2 := r2.free 2
     have y3 := r3.cell 3 _ rfl
     have f3 := r3.free 3
     have y4 := r4.cell 4 _ rfl
     have f4 := r4.free 4
     have hne := O4.out.notBlk G4.out (by decide)
     have hg := GG4.out
     have OF : Hid (Owns (((((W4.setCell ⟨g, 0, none⟩ (.int .i64 (stepTo x r).term)).setCell ⟨g, 1, none⟩ (.int .i64 (stepTo x r).vote)).setCell ⟨g, 2, none⟩ (.int .i64 (stepTo x r).base)).setCell ⟨g, 3, none⟩ (.int .i64 (stepTo x r).bterm)).setCell ⟨g, 4, none⟩ (.slice A2 n2 c2)) w.heap.size 58 2 (.slice A2 n2 c2) (entR (stepTo x r).ents)) := (((((O4.out.mono (show w.heap.size ≤ w.heap.size + 1 + 1 + 1 by omega)).other hne _ _).other hne _ _).other hne _ _).other hne _ _).other hne _ _
     have RF : Hid (Blk (((((W4.setCell ⟨g, 0, none⟩ (.int .i64 (stepTo x r).term)).setCell ⟨g, 1, none⟩ (.int .i64 (stepTo x r).vote)).setCell ⟨g, 2, none⟩ (.int .i64 (stepTo x r).base)).setCell ⟨g, 3, none⟩ (.int .i64 (stepTo x r).bterm)).setCell ⟨g, 4, none⟩ (.slice A2 n2 c2)) g #[.int .i64 (stepTo x r).term, .int .i64 (stepTo x r).vote, .int .i64 (stepTo x r).base, .int .i64 (stepTo x r).bterm, .slice A2 n2 c2] 26) := r5
     have KF : Hid (Blk (((((W4.setCell ⟨g, 0, none⟩ (.int .i64 (stepTo x r).term)).setCell ⟨g, 1, none⟩ (.int .i64 (stepTo x r).vote)).setCell ⟨g, 2, none⟩ (.int .i64 (stepTo x r).base)).setCell ⟨g, 3, none⟩ (.int .i64 (stepTo x r).bterm)).setCell ⟨g, 4, none⟩ (.slice A2 n2 c2)) w.heap.size #[.int .i64 x.term, .int .i64 x.vote, .int .i64 x.base, .int .i64 x.bterm, u] 26) := ((((KP4.out.other (show w.heap.size ≠ g by omega) _ _).other (show w.heap.size ≠ g by omega) _ _).other (show w.heap.size ≠ g by omega) _ _).other (show w.heap.size ≠ g by omega) _ _).other (show w.heap.size ≠ g by omega) _ _
     have ZF : Hid (Blk (((((W4.setCell ⟨g, 0, none⟩ (.int .i64 (stepTo x r).term)).setCell ⟨g, 1, none⟩ (.int .i64 (stepTo x r).vote)).setCell ⟨g, 2, none⟩ (.int .i64 (stepTo x r).base)).setCell ⟨g, 3, none⟩ (.int .i64 (stepTo x r).bterm)).setCell ⟨g, 4, none⟩ (.slice A2 n2 c2)) (w.heap.size + 1 + 1) #[.int .i64 0, .int .i64 0, .int .i64 0, .int .i64 0, .slice none 0 0] 26) := ((((KR4.out.other (show w.heap.size + 1 + 1 ≠ g by omega) _ _).other (show w.heap.size + 1 + 1 ≠ g by omega) _ _).other (show w.heap.size + 1 + 1 ≠ g by omega) _ _).other (show w.heap.size + 1 + 1 ≠ g by omega) _ _).other (show w.heap.size + 1 + 1 ≠ g by omega) _ _
     have BF : Hid (Below w.heap.size w (((((W4.setCell ⟨g, 0, none⟩ (.int .i64 (stepTo x r).term)).setCell ⟨g, 1, none⟩ (.int .i64 (stepTo x r).vote)).setCell ⟨g, 2, none⟩ (.int .i64 (stepTo x r).base)).setCell ⟨g, 3, none⟩ (.int .i64 (stepTo x r).bterm)).setCell ⟨g, 4, none⟩ (.slice A2 n2 c2))) := (((((B4.out.setCell (show w.heap.size ≤ g by omega) _).setCell (show w.heap.size ≤ g by omega) _).setCell (show w.heap.size ≤ g by omega) _).setCell (show w.heap.size ≤ g by omega) _).setCell (show w.heap.size ≤ g by omega) _)
     clear r0 r1 r2 r3 r4 r5 hne
     refine until_one 9 (by rfl) (by kernel_rfl) (fun K hK => ?_)
     go_simp
     refine hK.out _ _ (fun h => by cases h) ?_
     clear hK K
     try simp only [Act.put, setIfInBounds_toArray, set_cons_zero, set_cons_succ]
     refine until_pure 10 (v := ?_) (by rfl) (by kernel_rfl) (by exact fun _ _ _ h => h) (by rfl) ?_ ?_
     rotate_left
     ·intro w
      go_simp
      try with_reducible rfl
     try simp only [Act.put, setIfInBounds_toArray, set_cons_zero, set_cons_succ]
     refine until_done (by kernel_rfl) ?_ _
     go_wp2_with fail
     go_meet
     exact ⟨g, A2, n2, c2, rfl, rfl, RF.out, OF.out, KF.out, ZF.out, by omega, BF.out⟩
    ·skip
     go_simp
     have KP3 : Hid (Blk (W2.alloc (.cells #[.int .i64 0, .int .i64 0, .int .i64 0, .int .i64 0, .slice none 0 0] 26)) w.heap.size #[.int .i64 x.term, .int .i64 x.vote, .int .i64 x.base, .int .i64 x.bterm, u] 26) := KP2.out.alloc _
     have KQ3 : Hid (Blk (W2.alloc (.cells #[.int .i64 0, .int .i64 0, .int .i64 0, .int .i64 0, .slice none 0 0] 26)) (w.heap.size + 1) #[.int .i64 r.kind, .int .i64 r.term, .int .i64 r.index, .int .i64 r.vote, .string r.data] 35) := KQ2.out.alloc _
     have KR3 : Hid (Blk (W2.alloc (.cells #[.int .i64 0, .int .i64 0, .int .i64 0, .int .i64 0, .slice none 0 0] 26)) (w.heap.size + 1 + 1) #[.int .i64 0, .int .i64 0, .int .i64 0, .int .i64 0, .slice none 0 0] 26) := KR2.out.alloc _
     have G3 : Hid (Blk (W2.alloc (.cells #[.int .i64 0, .int .i64 0, .int .i64 0, .int .i64 0, .slice none 0 0] 26)) W2.heap.size #[.int .i64 0, .int .i64 0, .int .i64 0, .int .i64 0, .slice none 0 0] 26) := Blk.new _ _ _
     have B3 : Hid (Below w.heap.size w (W2.alloc (.cells #[.int .i64 0, .int .i64 0, .int .i64 0, .int .i64 0, .slice none 0 0] 26))) := B2.out.alloc B2.out.size _
     have O3 : Hid (WalO (W2.alloc (.cells #[.int .i64 0, .int .i64 0, .int .i64 0, .int .i64 0, .slice none 0 0] 26)) (w.heap.size + 1 + 1 + 1) (.agg #[.int .i64 x.term, .int .i64 x.vote, .int .i64 x.base, .int .i64 x.bterm, s1]) x) := O2.out.alloc _
     have NG3 : Hid (walOwn (.agg #[.int .i64 x.term, .int .i64 x.vote, .int .i64 x.base, .int .i64 x.bterm, s1]) ≠ some W2.heap.size) := fun e => by have := O2.out.own_lt _ e; omega
     have NB3 : Hid ((w.heap.size + 1 + 1 + 1) ≤ (W2.alloc (.cells #[.int .i64 0, .int .i64 0, .int .i64 0, .int .i64 0, .slice none 0 0] 26)).heap.size) := Nat.le_trans NB2.out (by simp)
     have GG3 : Hid ((w.heap.size + 1 + 1 + 1) ≤ W2.heap.size) := NB2.out
     refine hK.out _ _ (fun _ _ => ⟨KP3.out.cell 0 _ rfl, KP3.out.cell 1 _ rfl, KP3.out.cell 2 _ rfl, KP3.out.cell 3 _ rfl, KP3.out.cell 4 _ rfl, KQ3.out.cell 0 _ rfl, KQ3.out.cell 1 _ rfl, KQ3.out.cell 2 _ rfl, KQ3.out.cell 3 _ rfl, KQ3.out.cell 4 _ rfl⟩) ?_
     clear hK K
     try simp only [Act.put, setIfInBounds_toArray, set_cons_zero, set_cons_succ]
     generalize hNW : W2.alloc (.cells #[.int .i64 0, .int .i64 0, .int .i64 0, .int .i64 0, .slice none 0 0] 26) = W3 at *
     generalize W2.heap.size = g at *
     clear hNW
     refine until_one 4 (by rfl) (by kernel_rfl) (fun K hK => ?_)
     go_simp
     refine (steppedV x r (.agg #[.int .i64 x.term, .int .i64 x.vote, .int .i64 x.base, .int .i64 x.bterm, s1]) W3 (w.heap.size + 1 + 1 + 1) O3.out HN60.out HB1.out HB2.out NB3.out (by have := HD.out; omega)).mono ?_
     rintro e W4 ⟨u2, b2, rfl, ⟨hO, rfl⟩, hb⟩
     rw [HR.out] at hO ⊢
     dsimp only at hO ⊢
     obtain ⟨s2, rfl, hs2⟩ := hO
     obtain ⟨A2, n2, c2, rfl⟩ := hs2.shape
     have O4 : Hid (Owns W4 (w.heap.size + 1 + 1 + 1) 58 2 (.slice A2 n2 c2) (entR (stepTo x r).ents)) := hs2
     have KP4 : Hid (Blk W4 w.heap.size #[.int .i64 x.term, .int .i64 x.vote, .int .i64 x.base, .int .i64 x.bterm, u] 26) := KP3.out.on hb.below (by omega)
     have KQ4 : Hid (Blk W4 (w.heap.size + 1) #[.int .i64 r.kind, .int .i64 r.term, .int .i64 r.index, .int .i64 r.vote, .string r.data] 35) := KQ3.out.on hb.below (by omega)
     have KR4 : Hid (Blk W4 (w.heap.size + 1 + 1) #[.int .i64 0, .int .i64 0, .int .i64 0, .int .i64 0, .slice none 0 0] 26) := KR3.out.on hb.below (by omega)
     have G4 : Hid (Blk W4 g #[.int .i64 0, .int .i64 0, .int .i64 0, .int .i64 0, .slice none 0 0] 26) := (hb.rest g G3.out.lt NG3.out).trans G3.out
     have GG4 : Hid ((w.heap.size + 1 + 1 + 1) ≤ g) := GG3.out
     have B4 : Hid (Below w.heap.size w W4) := B3.out.trans (hb.below.mono (by omega))
     have NB4 : Hid ((w.heap.size + 1 + 1 + 1) ≤ W4.heap.size) := Nat.le_trans NB3.out hb.below.size
     clear hb hs2
     go_wp2_with fail
     refine hK.out _ _ (fun _ _ => ⟨KP4.out.cell 0 _ rfl, KP4.out.cell 1 _ rfl, KP4.out.cell 2 _ rfl, KP4.out.cell 3 _ rfl, KP4.out.cell 4 _ rfl, KQ4.out.cell 0 _ rfl, KQ4.out.cell 1 _ rfl, KQ4.out.cell 2 _ rfl, KQ4.out.cell 3 _ rfl, KQ4.out.cell 4 _ rfl⟩) ?_
     clear hK K
     try simp only [Act.put, setIfInBounds_toArray, set_cons_zero, set_cons_succ]
     refine until_pure 5 (v := ?_) (by rfl) (by kernel_rfl) (by exact fun _ _ _ h => h) (by rfl) ?_ ?_
     rotate_left
     ·intro w
      go_simp
      try with_reducible rfl
     try simp only [Act.put, setIfInBounds_toArray, set_cons_zero, set_cons_succ]
     refine until_pure 6 (v := ?_) (by rfl) (by kernel_rfl) (by exact fun _ _ _ h => h) (by rfl) ?_ ?_
     rotate_left
     ·intro w
      go_simp
      try with_reducible rfl
     try simp only [Act.put, setIfInBounds_toArray, set_cons_zero, set_cons_succ]
     refine until_pure 7 (v := ?_) (by rfl) (by kernel_rfl) (by exact fun _ _ _ h => h) (by rfl) ?_ ?_
     rotate_left
     ·intro w
      go_simp
      try with_reducible rfl
     try simp only [Act.put, setIfInBounds_toArray, set_cons_zero, set_cons_succ]
     have r0 := G4.out
     have r1 := r0.set 0 (.int .i64 (stepTo x r).term)
     have r2 := r1.set 1 (.int .i64 (stepTo x r).vote)
     have r3 := r2.set 2 (.int .i64 (stepTo x r).base)
     have r4 := r3.set 3 (.int .i64 (stepTo x r).bterm)
     have r5 := r4.set 4 (.slice A2 n2 c2)
     have y0 := r0.cell 0 _ rfl
     have f0 := r0.free 0
     have y1 := r1.cell 1 _ rfl
     have f1 := r1.free 1
     have y2 := r2.cell 2 _ rfl
     have f2 := r2.free 2
     have y3 := r3.cell 3 _ rfl
     have f3 := r3.free 3
     have y4 := r4.cell 4 _ rfl
     have f4 := r4.free 4
     have hne := O4.out.notBlk G4.out (by decide)
     have hg := GG4.out
     have OF : Hid (Owns (((((W4.setCell ⟨g, 0, none⟩ (.int .i64 (stepTo x r).term)).setCell ⟨g, 1, none⟩ (.int .i64 (stepTo x r).vote)).setCell ⟨g, 2, none⟩ (.int .i64 (stepTo x r).base)).setCell ⟨g, 3, none⟩ (.int .i64 (stepTo x r).bterm)).setCell ⟨g, 4, none⟩ (.slice A2 n2 c2)) w.heap.size 58 2 (.slice A2 n2 c2) (entR (stepTo x r).ents)) := (((((O4.out.mono (show w.heap.size ≤ w.heap.size + 1 + 1 + 1 by omega)).other hne _ _).other hne _ _).other hne _ _).other hne _ _).other hne _ _
     have RF : Hid (Blk (((((W4.setCell ⟨g, 0, none⟩ (.int .i64 (stepTo x r).term)).setCell ⟨g, 1, none⟩ (.int .i64 (stepTo x r).vote)).setCell ⟨g, 2, none⟩ (.int .i64 (stepTo x r).base)).setCell ⟨g, 3, none⟩ (.int .i64 (stepTo x r).bterm)).setCell ⟨g, 4, none⟩ (.slice A2 n2 c2)) g #[.int .i64 (stepTo x r).term, .int .i64 (stepTo x r).vote, .int .i64 (stepTo x r).base, .int .i64 (stepTo x r).bterm, .slice A2 n2 c2] 26) := r5
     have KF : Hid (Blk (((((W4.setCell ⟨g, 0, none⟩ (.int .i64 (stepTo x r).term)).setCell ⟨g, 1, none⟩ (.int .i64 (stepTo x r).vote)).setCell ⟨g, 2, none⟩ (.int .i64 (stepTo x r).base)).setCell ⟨g, 3, none⟩ (.int .i64 (stepTo x r).bterm)).setCell ⟨g, 4, none⟩ (.slice A2 n2 c2)) w.heap.size #[.int .i64 x.term, .int .i64 x.vote, .int .i64 x.base, .int .i64 x.bterm, u] 26) := ((((KP4.out.other (show w.heap.size ≠ g by omega) _ _).other (show w.heap.size ≠ g by omega) _ _).other (show w.heap.size ≠ g by omega) _ _).other (show w.heap.size ≠ g by omega) _ _).other (show w.heap.size ≠ g by omega) _ _
     have ZF : Hid (Blk (((((W4.setCell ⟨g, 0, none⟩ (.int .i64 (stepTo x r).term)).setCell ⟨g, 1, none⟩ (.int .i64 (stepTo x r).vote)).setCell ⟨g, 2, none⟩ (.int .i64 (stepTo x r).base)).setCell ⟨g, 3, none⟩ (.int .i64 (stepTo x r).bterm)).setCell ⟨g, 4, none⟩ (.slice A2 n2 c2)) (w.heap.size + 1 + 1) #[.int .i64 0, .int .i64 0, .int .i64 0, .int .i64 0, .slice none 0 0] 26) := ((((KR4.out.other (show w.heap.size + 1 + 1 ≠ g by omega) _ _).other (show w.heap.size + 1 + 1 ≠ g by omega) _ _).other (show w.heap.size + 1 + 1 ≠ g by omega) _ _).other (show w.heap.size + 1 + 1 ≠ g by omega) _ _).other (show w.heap.size + 1 + 1 ≠ g by omega) _ _
     have BF : Hid (Below w.heap.size w (((((W4.setCell ⟨g, 0, none⟩ (.int .i64 (stepTo x r).term)).setCell ⟨g, 1, none⟩ (.int .i64 (stepTo x r).vote)).setCell ⟨g, 2, none⟩ (.int .i64 (stepTo x r).base)).setCell ⟨g, 3, none⟩ (.int .i64 (stepTo x r).bterm)).setCell ⟨g, 4, none⟩ (.slice A2 n2 c2))) := (((((B4.out.setCell (show w.heap.size ≤ g by omega) _).setCell (show w.heap.size ≤ g by omega) _).setCell (show w.heap.size ≤ g by omega) _).setCell (show w.heap.size ≤ g by omega) _).setCell (show w.heap.size ≤ g by omega) _)
     clear r0 r1 r2 r3 r4 r5 hne
     refine until_one 9 (by rfl) (by kernel_rfl) (fun K hK => ?_)
     go_simp
     refine hK.out _ _ (fun h => by cases h) ?_
     clear hK K
     try simp only [Act.put, setIfInBounds_toArray, set_cons_zero, set_cons_succ]
     refine until_pure 10 (v := ?_) (by rfl) (by kernel_rfl) (by exact fun _ _ _ h => h) (by rfl) ?_ ?_
     rotate_left
     ·intro w
      go_simp
      try with_reducible rfl
     try simp only [Act.put, setIfInBounds_toArray, set_cons_zero, set_cons_succ]
     refine until_done (by kernel_rfl) ?_ _
     go_wp2_with fail
     go_meet
     exact ⟨g, A2, n2, c2, rfl, rfl, RF.out, OF.out, KF.out, ZF.out, by omega, BF.out⟩
   ·skip
    go_simp
    have KP2 : Hid (Blk (W1.alloc (.cells #[.int .i64 0, .int .i64 0, .int .i64 0, .int .i64 0, .slice none 0 0] 26)) w.heap.size #[.int .i64 x.term, .int .i64 x.vote, .int .i64 x.base, .int .i64 x.bterm, u] 26) := KP1.out.alloc _
    have KQ2 : Hid (Blk (W1.alloc (.cells #[.int .i64 0, .int .i64 0, .int .i64 0, .int .i64 0, .slice none 0 0] 26)) (w.heap.size + 1) #[.int .i64 r.kind, .int .i64 r.term, .int .i64 r.index, .int .i64 r.vote, .string r.data] 35) := KQ1.out.alloc _
    have KR2 : Hid (Blk (W1.alloc (.cells #[.int .i64 0, .int .i64 0, .int .i64 0, .int .i64 0, .slice none 0 0] 26)) (w.heap.size + 1 + 1) #[.int .i64 0, .int .i64 0, .int .i64 0, .int .i64 0, .slice none 0 0] 26) := KR1.out.alloc _
    have G2 : Hid (Blk (W1.alloc (.cells #[.int .i64 0, .int .i64 0, .int .i64 0, .int .i64 0, .slice none 0 0] 26)) W1.heap.size #[.int .i64 0, .int .i64 0, .int .i64 0, .int .i64 0, .slice none 0 0] 26) := Blk.new _ _ _
    have B2 : Hid (Below w.heap.size w (W1.alloc (.cells #[.int .i64 0, .int .i64 0, .int .i64 0, .int .i64 0, .slice none 0 0] 26))) := B1.out.alloc B1.out.size _
    have O2 : Hid (WalO (W1.alloc (.cells #[.int .i64 0, .int .i64 0, .int .i64 0, .int .i64 0, .slice none 0 0] 26)) (w.heap.size + 1 + 1 + 1) (.agg #[.int .i64 x.term, .int .i64 x.vote, .int .i64 x.base, .int .i64 x.bterm, s1]) x) := O1.out.alloc _
    have NG2 : Hid (walOwn (.agg #[.int .i64 x.term, .int .i64 x.vote, .int .i64 x.base, .int .i64 x.bterm, s1]) ≠ some W1.heap.size) := fun e => by have := O1.out.own_lt _ e; omega
    have NB2 : Hid ((w.heap.size + 1 + 1 + 1) ≤ (W1.alloc (.cells #[.int .i64 0, .int .i64 0, .int .i64 0, .int .i64 0, .slice none 0 0] 26)).heap.size) := Nat.le_trans NB1.out (by simp)
    have GG2 : Hid ((w.heap.size + 1 + 1 + 1) ≤ W1.heap.size) := NB1.out
    refine hK.out _ _ (fun _ _ => ⟨KP2.out.cell 0 _ rfl, KP2.out.cell 1 _ rfl, KP2.out.cell 2 _ rfl, KP2.out.cell 3 _ rfl, KP2.out.cell 4 _ rfl, KQ2.out.cell 0 _ rfl, KQ2.out.cell 1 _ rfl, KQ2.out.cell 2 _ rfl, KQ2.out.cell 3 _ rfl, KQ2.out.cell 4 _ rfl⟩) ?_
    clear hK K
    try simp only [Act.put, setIfInBounds_toArray, set_cons_zero, set_cons_succ]
    generalize hNW : W1.alloc (.cells #[.int .i64 0, .int .i64 0, .int .i64 0, .int .i64 0, .slice none 0 0] 26) = W2 at *
    generalize W1.heap.size = g at *
    clear hNW
    refine until_one 3 (by rfl) (by kernel_rfl) (fun K hK => ?_)
    go_simp
    refine (recordOfV r W2 (by have := HD.out; unfold maxLen; omega)).mono ?_
    rintro e W3 ⟨rfl, hb⟩
    have O3 : Hid (WalO W3 (w.heap.size + 1 + 1 + 1) (.agg #[.int .i64 x.term, .int .i64 x.vote, .int .i64 x.base, .int .i64 x.bterm, s1]) x) := O2.out.on hb
    have NG3 : Hid (walOwn (.agg #[.int .i64 x.term, .int .i64 x.vote, .int .i64 x.base, .int .i64 x.bterm, s1]) ≠ some g) := NG2.out
    have KP3 : Hid (Blk W3 w.heap.size #[.int .i64 x.term, .int .i64 x.vote, .int .i64 x.base, .int .i64 x.bterm, u] 26) := KP2.out.on hb KP2.out.lt
    have KQ3 : Hid (Blk W3 (w.heap.size + 1) #[.int .i64 r.kind, .int .i64 r.term, .int .i64 r.index, .int .i64 r.vote, .string r.data] 35) := KQ2.out.on hb KQ2.out.lt
    have KR3 : Hid (Blk W3 (w.heap.size + 1 + 1) #[.int .i64 0, .int .i64 0, .int .i64 0, .int .i64 0, .slice none 0 0] 26) := KR2.out.on hb KR2.out.lt
    have G3 : Hid (Blk W3 g #[.int .i64 0, .int .i64 0, .int .i64 0, .int .i64 0, .slice none 0 0] 26) := G2.out.on hb G2.out.lt
    have GG3 : Hid ((w.heap.size + 1 + 1 + 1) ≤ g) := GG2.out
    have B3 : Hid (Below w.heap.size w W3) := B2.out.trans (hb.mono B2.out.size)
    have NB3 : Hid ((w.heap.size + 1 + 1 + 1) ≤ W3.heap.size) := Nat.le_trans NB2.out hb.size
    clear hb
    go_wp2_with fail
    refine hK.out _ _ (fun _ _ => ⟨KP3.out.cell 0 _ rfl, KP3.out.cell 1 _ rfl, KP3.out.cell 2 _ rfl, KP3.out.cell 3 _ rfl, KP3.out.cell 4 _ rfl, KQ3.out.cell 0 _ rfl, KQ3.out.cell 1 _ rfl, KQ3.out.cell 2 _ rfl, KQ3.out.cell 3 _ rfl, KQ3.out.cell 4 _ rfl⟩) ?_
    clear hK K
    try simp only [Act.put, setIfInBounds_toArray, set_cons_zero, set_cons_succ]
    refine until_one 4 (by rfl) (by kernel_rfl) (fun K hK => ?_)
    go_simp
    refine (steppedV x r (.agg #[.int .i64 x.term, .int .i64 x.vote, .int .i64 x.base, .int .i64 x.bterm, s1]) W3 (w.heap.size + 1 + 1 + 1) O3.out HN60.out HB1.out HB2.out NB3.out (by have := HD.out; omega)).mono ?_
    rintro e W4 ⟨u2, b2, rfl, ⟨hO, rfl⟩, hb⟩
    rw [HR.out] at hO ⊢
    dsimp only at hO ⊢
    obtain ⟨s2, rfl, hs2⟩ := hO
    obtain ⟨A2, n2, c2, rfl⟩ := hs2.shape
    have O4 : Hid (Owns W4 (w.heap.size + 1 + 1 + 1) 58 2 (.slice A2 n2 c2) (entR (stepTo x r).ents)) := hs2
    have KP4 : Hid (Blk W4 w.heap.size #[.int .i64 x.term, .int .i64 x.vote, .int .i64 x.base, .int .i64 x.bterm, u] 26) := KP3.out.on hb.below (by omega)
    have KQ4 : Hid (Blk W4 (w.heap.size + 1) #[.int .i64 r.kind, .int .i64 r.term, .int .i64 r.index, .int .i64 r.vote, .string r.data] 35) := KQ3.out.on hb.below (by omega)
    have KR4 : Hid (Blk W4 (w.heap.size + 1 + 1) #[.int .i64 0, .int .i64 0, .int .i64 0, .int .i64 0, .slice none 0 0] 26) := KR3.out.on hb.below (by omega)
    have G4 : Hid (Blk W4 g #[.int .i64 0, .int .i64 0, .int .i64 0, .int .i64 0, .slice none 0 0] 26) := (hb.rest g G3.out.lt NG3.out).trans G3.out
    have GG4 : Hid ((w.heap.size + 1 + 1 + 1) ≤ g) := GG3.out
    have B4 : Hid (Below w.heap.size w W4) := B3.out.trans (hb.below.mono (by omega))
    have NB4 : Hid ((w.heap.size + 1 + 1 + 1) ≤ W4.heap.size) := Nat.le_trans NB3.out hb.below.size
    clear hb hs2
    go_wp2_with fail
    refine hK.out _ _ (fun _ _ => ⟨KP4.out.cell 0 _ rfl, KP4.out.cell 1 _ rfl, KP4.out.cell 2 _ rfl, KP4.out.cell 3 _ rfl, KP4.out.cell 4 _ rfl, KQ4.out.cell 0 _ rfl, KQ4.out.cell 1 _ rfl, KQ4.out.cell 2 _ rfl, KQ4.out.cell 3 _ rfl, KQ4.out.cell 4 _ rfl⟩) ?_
    clear hK K
    try simp only [Act.put, setIfInBounds_toArray, set_cons_zero, set_cons_succ]
    refine until_pure 5 (v := ?_) (by rfl) (by kernel_rfl) (by exact fun _ _ _ h => h) (by rfl) ?_ ?_
    rotate_left
    ·intro w
     go_simp
     try with_reducible rfl
    try simp only [Act.put, setIfInBounds_toArray, set_cons_zero, set_cons_succ]
    refine until_pure 6 (v := ?_) (by rfl) (by kernel_rfl) (by exact fun _ _ _ h => h) (by rfl) ?_ ?_
    rotate_left
    ·intro w
     go_simp
     try with_reducible rfl
    try simp only [Act.put, setIfInBounds_toArray, set_cons_zero, set_cons_succ]
    refine until_pure 7 (v := ?_) (by rfl) (by kernel_rfl) (by exact fun _ _ _ h => h) (by rfl) ?_ ?_
    rotate_left
    ·intro w
     go_simp
     try with_reducible rfl
    try simp only [Act.put, setIfInBounds_toArray, set_cons_zero, set_cons_succ]
    have r0 := G4.out
    have r1 := r0.set 0 (.int .i64 (stepTo x r).term)
    have r2 := r1.set 1 (.int .i64 (stepTo x r).vote)
    have r3 := r2.set 2 (.int .i64 (stepTo x r).base)
    have r4 := r3.set 3 (.int .i64 (stepTo x r).bterm)
    have r5 := r4.set 4 (.slice A2 n2 c2)
    have y0 := r0.cell 0 _ rfl
    have f0 := r0.free 0
    have y1 := r1.cell 1 _ rfl
    have f1 := r1.free 1
    have y2 := r2.cell 2 _ rfl
    have f2 := r2.free 2
    have y3 := r3.cell 3 _ rfl
    have f3 := r3.free 3
    have y4 := r4.cell 4 _ rfl
    have f4 := r4.free 4
    have hne := O4.out.notBlk G4.out (by decide)
    have hg := GG4.out
    have OF : Hid (Owns (((((W4.setCell ⟨g, 0, none⟩ (.int .i64 (stepTo x r).term)).setCell ⟨g, 1, none⟩ (.int .i64 (stepTo x r).vote)).setCell ⟨g, 2, none⟩ (.int .i64 (stepTo x r).base)).setCell ⟨g, 3, none⟩ (.int .i64 (stepTo x r).bterm)).setCell ⟨g, 4, none⟩ (.slice A2 n2 c2)) w.heap.size 58 2 (.slice A2 n2 c2) (entR (stepTo x r).ents)) := (((((O4.out.mono (show w.heap.size ≤ w.heap.size + 1 + 1 + 1 by omega)).other hne _ _).other hne _ _).other hne _ _).other hne _ _).other hne _ _
    have RF : Hid (Blk (((((W4.setCell ⟨g, 0, none⟩ (.int .i64 (stepTo x r).term)).setCell ⟨g, 1, none⟩ (.int .i64 (stepTo x r).vote)).setCell ⟨g, 2, none⟩ (.int .i64 (stepTo x r).base)).setCell ⟨g, 3, none⟩ (.int .i64 (stepTo x r).bterm)).setCell ⟨g, 4, none⟩ (.slice A2 n2 c2)) g #[.int .i64 (stepTo x r).term, .int .i64 (stepTo x r).vote, .int .i64 (stepTo x r).base, .int .i64 (stepTo x r).bterm, .slice A2 n2 c2] 26) := r5
    have KF : Hid (Blk (((((W4.setCell ⟨g, 0, none⟩ (.int .i64 (stepTo x r).term)).setCell ⟨g, 1, none⟩ (.int .i64 (stepTo x r).vote)).setCell ⟨g, 2, none⟩ (.int .i64 (stepTo x r).base)).setCell ⟨g, 3, none⟩ (.int .i64 (stepTo x r).bterm)).setCell ⟨g, 4, none⟩ (.slice A2 n2 c2)) w.heap.size #[.int .i64 x.term, .int .i64 x.vote, .int .i64 x.base, .int .i64 x.bterm, u] 26) := ((((KP4.out.other (show w.heap.size ≠ g by omega) _ _).other (show w.heap.size ≠ g by omega) _ _).other (show w.heap.size ≠ g by omega) _ _).other (show w.heap.size ≠ g by omega) _ _).other (show w.heap.size ≠ g by omega) _ _
    have ZF : Hid (Blk (((((W4.setCell ⟨g, 0, none⟩ (.int .i64 (stepTo x r).term)).setCell ⟨g, 1, none⟩ (.int .i64 (stepTo x r).vote)).setCell ⟨g, 2, none⟩ (.int .i64 (stepTo x r).base)).setCell ⟨g, 3, none⟩ (.int .i64 (stepTo x r).bterm)).setCell ⟨g, 4, none⟩ (.slice A2 n2 c2)) (w.heap.size + 1 + 1) #[.int .i64 0, .int .i64 0, .int .i64 0, .int .i64 0, .slice none 0 0] 26) := ((((KR4.out.other (show w.heap.size + 1 + 1 ≠ g by omega) _ _).other (show w.heap.size + 1 + 1 ≠ g by omega) _ _).other (show w.heap.size + 1 + 1 ≠ g by omega) _ _).other (show w.heap.size + 1 + 1 ≠ g by omega) _ _).other (show w.heap.size + 1 + 1 ≠ g by omega) _ _
    have BF : Hid (Below w.heap.size w (((((W4.setCell ⟨g, 0, none⟩ (.int .i64 (stepTo x r).term)).setCell ⟨g, 1, none⟩ (.int .i64 (stepTo x r).vote)).setCell ⟨g, 2, none⟩ (.int .i64 (stepTo x r).base)).setCell ⟨g, 3, none⟩ (.int .i64 (stepTo x r).bterm)).setCell ⟨g, 4, none⟩ (.slice A2 n2 c2))) := (((((B4.out.setCell (show w.heap.size ≤ g by omega) _).setCell (show w.heap.size ≤ g by omega) _).setCell (show w.heap.size ≤ g by omega) _).setCell (show w.heap.size ≤ g by omega) _).setCell (show w.heap.size ≤ g by omega) _)
    clear r0 r1 r2 r3 r4 r5 hne
    refine until_one 9 (by rfl) (by kernel_rfl) (fun K hK => ?_)
    go_simp
    refine hK.out _ _ (fun h => by cases h) ?_
    clear hK K
    try simp only [Act.put, setIfInBounds_toArray, set_cons_zero, set_cons_succ]
    refine until_pure 10 (v := ?_) (by rfl) (by kernel_rfl) (by exact fun _ _ _ h => h) (by rfl) ?_ ?_
    rotate_left
    ·intro w
     go_simp
     try with_reducible rfl
    try simp only [Act.put, setIfInBounds_toArray, set_cons_zero, set_cons_succ]
    refine until_done (by kernel_rfl) ?_ _
    go_wp2_with fail
    go_meet
    exact ⟨g, A2, n2, c2, rfl, rfl, RF.out, OF.out, KF.out, ZF.out, by omega, BF.out⟩
  ·skip
   go_simp
   have KP1 : Hid (Blk (W0.alloc (.cells #[.int .i64 0, .int .i64 0, .int .i64 0, .int .i64 0, .slice none 0 0] 26)) w.heap.size #[.int .i64 x.term, .int .i64 x.vote, .int .i64 x.base, .int .i64 x.bterm, u] 26) := KP0.out.alloc _
   have KQ1 : Hid (Blk (W0.alloc (.cells #[.int .i64 0, .int .i64 0, .int .i64 0, .int .i64 0, .slice none 0 0] 26)) (w.heap.size + 1) #[.int .i64 r.kind, .int .i64 r.term, .int .i64 r.index, .int .i64 r.vote, .string r.data] 35) := KQ0.out.alloc _
   have KR1 : Hid (Blk (W0.alloc (.cells #[.int .i64 0, .int .i64 0, .int .i64 0, .int .i64 0, .slice none 0 0] 26)) (w.heap.size + 1 + 1) #[.int .i64 0, .int .i64 0, .int .i64 0, .int .i64 0, .slice none 0 0] 26) := KR0.out.alloc _
   have G1 : Hid (Blk (W0.alloc (.cells #[.int .i64 0, .int .i64 0, .int .i64 0, .int .i64 0, .slice none 0 0] 26)) W0.heap.size #[.int .i64 0, .int .i64 0, .int .i64 0, .int .i64 0, .slice none 0 0] 26) := Blk.new _ _ _
   have B1 : Hid (Below w.heap.size w (W0.alloc (.cells #[.int .i64 0, .int .i64 0, .int .i64 0, .int .i64 0, .slice none 0 0] 26))) := B0.out.alloc B0.out.size _
   have NB1 : Hid ((w.heap.size + 1 + 1 + 1) ≤ (W0.alloc (.cells #[.int .i64 0, .int .i64 0, .int .i64 0, .int .i64 0, .slice none 0 0] 26)).heap.size) := Nat.le_trans NB0.out (by simp)
   have GB1 : Hid ((w.heap.size + 1 + 1 + 1) ≤ W0.heap.size) := NB0.out
   have GG1 : Hid ((w.heap.size + 1 + 1 + 1) ≤ W0.heap.size) := NB0.out
   refine hK.out _ _ (fun _ _ => ⟨KP1.out.cell 0 _ rfl, KP1.out.cell 1 _ rfl, KP1.out.cell 2 _ rfl, KP1.out.cell 3 _ rfl, KP1.out.cell 4 _ rfl, KQ1.out.cell 0 _ rfl, KQ1.out.cell 1 _ rfl, KQ1.out.cell 2 _ rfl, KQ1.out.cell 3 _ rfl, KQ1.out.cell 4 _ rfl⟩) ?_
   clear hK K
   try simp only [Act.put, setIfInBounds_toArray, set_cons_zero, set_cons_succ]
   generalize hNW : W0.alloc (.cells #[.int .i64 0, .int .i64 0, .int .i64 0, .int .i64 0, .slice none 0 0] 26) = W1 at *
   generalize W0.heap.size = g at *
   clear hNW
   refine until_one 1 (by rfl) (by kernel_rfl) (fun K hK => ?_)
   go_simp
   refine (copyI x (.agg #[.int .i64 x.term, .int .i64 x.vote, .int .i64 x.base, .int .i64 x.bterm, u]) W1 B (HV.out.on (B1.out.mono HB.out)) HL.out HDD.out (Nat.le_trans HB.out B1.out.size)).mono ?_
   rintro e W2 ⟨u1, rfl, hO, hb⟩
   have O2 : Hid (WalO W2 (w.heap.size + 1 + 1 + 1) u1 x) := hO.mono NB1.out
   have NG2 : Hid (walOwn u1 ≠ some g) := fun e => by have := hO.own_ge _ e; have := G1.out.lt; omega
   obtain ⟨s1, rfl, hs1⟩ := hO
   have KP2 : Hid (Blk W2 w.heap.size #[.int .i64 x.term, .int .i64 x.vote, .int .i64 x.base, .int .i64 x.bterm, u] 26) := KP1.out.on hb KP1.out.lt
   have KQ2 : Hid (Blk W2 (w.heap.size + 1) #[.int .i64 r.kind, .int .i64 r.term, .int .i64 r.index, .int .i64 r.vote, .string r.data] 35) := KQ1.out.on hb KQ1.out.lt
   have KR2 : Hid (Blk W2 (w.heap.size + 1 + 1) #[.int .i64 0, .int .i64 0, .int .i64 0, .int .i64 0, .slice none 0 0] 26) := KR1.out.on hb KR1.out.lt
   have G2 : Hid (Blk W2 g #[.int .i64 0, .int .i64 0, .int .i64 0, .int .i64 0, .slice none 0 0] 26) := G1.out.on hb G1.out.lt
   have GG2 : Hid ((w.heap.size + 1 + 1 + 1) ≤ g) := GG1.out
   have B2 : Hid (Below w.heap.size w W2) := B1.out.trans (hb.mono B1.out.size)
   have NB2 : Hid ((w.heap.size + 1 + 1 + 1) ≤ W2.heap.size) := Nat.le_trans NB1.out hb.size
   clear hb hs1
   go_wp2_with fail
   refine hK.out _ _ (fun _ _ => ⟨KP2.out.cell 0 _ rfl, KP2.out.cell 1 _ rfl, KP2.out.cell 2 _ rfl, KP2.out.cell 3 _ rfl, KP2.out.cell 4 _ rfl, KQ2.out.cell 0 _ rfl, KQ2.out.cell 1 _ rfl, KQ2.out.cell 2 _ rfl, KQ2.out.cell 3 _ rfl, KQ2.out.cell 4 _ rfl⟩) ?_
   clear hK K
   try simp only [Act.put, setIfInBounds_toArray, set_cons_zero, set_cons_succ]
   refine until_one 3 (by rfl) (by kernel_rfl) (fun K hK => ?_)
   go_simp
   refine (recordOfV r W2 (by have := HD.out; unfold maxLen; omega)).mono ?_
   rintro e W3 ⟨rfl, hb⟩
   have O3 : Hid (WalO W3 (w.heap.size + 1 + 1 + 1) (.agg #[.int .i64 x.term, .int .i64 x.vote, .int .i64 x.base, .int .i64 x.bterm, s1]) x) := O2.out.on hb
   have NG3 : Hid (walOwn (.agg #[.int .i64 x.term, .int .i64 x.vote, .int .i64 x.base, .int .i64 x.bterm, s1]) ≠ some g) := NG2.out
   have KP3 : Hid (Blk W3 w.heap.size #[.int .i64 x.term, .int .i64 x.vote, .int .i64 x.base, .int .i64 x.bterm, u] 26) := KP2.out.on hb KP2.out.lt
   have KQ3 : Hid (Blk W3 (w.heap.size + 1) #[.int .i64 r.kind, .int .i64 r.term, .int .i64 r.index, .int .i64 r.vote, .string r.data] 35) := KQ2.out.on hb KQ2.out.lt
   have KR3 : Hid (Blk W3 (w.heap.size + 1 + 1) #[.int .i64 0, .int .i64 0, .int .i64 0, .int .i64 0, .slice none 0 0] 26) := KR2.out.on hb KR2.out.lt
   have G3 : Hid (Blk W3 g #[.int .i64 0, .int .i64 0, .int .i64 0, .int .i64 0, .slice none 0 0] 26) := G2.out.on hb G2.out.lt
   have GG3 : Hid ((w.heap.size + 1 + 1 + 1) ≤ g) := GG2.out
   have B3 : Hid (Below w.heap.size w W3) := B2.out.trans (hb.mono B2.out.size)
   have NB3 : Hid ((w.heap.size + 1 + 1 + 1) ≤ W3.heap.size) := Nat.le_trans NB2.out hb.size
   clear hb
   go_wp2_with fail
   refine hK.out _ _ (fun _ _ => ⟨KP3.out.cell 0 _ rfl, KP3.out.cell 1 _ rfl, KP3.out.cell 2 _ rfl, KP3.out.cell 3 _ rfl, KP3.out.cell 4 _ rfl, KQ3.out.cell 0 _ rfl, KQ3.out.cell 1 _ rfl, KQ3.out.cell 2 _ rfl, KQ3.out.cell 3 _ rfl, KQ3.out.cell 4 _ rfl⟩) ?_
   clear hK K
   try simp only [Act.put, setIfInBounds_toArray, set_cons_zero, set_cons_succ]
   refine until_one 4 (by rfl) (by kernel_rfl) (fun K hK => ?_)
   go_simp
   refine (steppedV x r (.agg #[.int .i64 x.term, .int .i64 x.vote, .int .i64 x.base, .int .i64 x.bterm, s1]) W3 (w.heap.size + 1 + 1 + 1) O3.out HN60.out HB1.out HB2.out NB3.out (by have := HD.out; omega)).mono ?_
   rintro e W4 ⟨u2, b2, rfl, ⟨hO, rfl⟩, hb⟩
   rw [HR.out] at hO ⊢
   dsimp only at hO ⊢
   obtain ⟨s2, rfl, hs2⟩ := hO
   obtain ⟨A2, n2, c2, rfl⟩ := hs2.shape
   have O4 : Hid (Owns W4 (w.heap.size + 1 + 1 + 1) 58 2 (.slice A2 n2 c2) (entR (stepTo x r).ents)) := hs2
   have KP4 : Hid (Blk W4 w.heap.size #[.int .i64 x.term, .int .i64 x.vote, .int .i64 x.base, .int .i64 x.bterm, u] 26) := KP3.out.on hb.below (by omega)
   have KQ4 : Hid (Blk W4 (w.heap.size + 1) #[.int .i64 r.kind, .int .i64 r.term, .int .i64 r.index, .int .i64 r.vote, .string r.data] 35) := KQ3.out.on hb.below (by omega)
   have KR4 : Hid (Blk W4 (w.heap.size + 1 + 1) #[.int .i64 0, .int .i64 0, .int .i64 0, .int .i64 0, .slice none 0 0] 26) := KR3.out.on hb.below (by omega)
   have G4 : Hid (Blk W4 g #[.int .i64 0, .int .i64 0, .int .i64 0, .int .i64 0, .slice none 0 0] 26) := (hb.rest g G3.out.lt NG3.out).trans G3.out
   have GG4 : Hid ((w.heap.size + 1 + 1 + 1) ≤ g) := GG3.out
   have B4 : Hid (Below w.heap.size w W4) := B3.out.trans (hb.below.mono (by omega))
   have NB4 : Hid ((w.heap.size + 1 + 1 + 1) ≤ W4.heap.size) := Nat.le_trans NB3.out hb.below.size
   clear hb hs2
   go_wp2_with fail
   refine hK.out _ _ (fun _ _ => ⟨KP4.out.cell 0 _ rfl, KP4.out.cell 1 _ rfl, KP4.out.cell 2 _ rfl, KP4.out.cell 3 _ rfl, KP4.out.cell 4 _ rfl, KQ4.out.cell 0 _ rfl, KQ4.out.cell 1 _ rfl, KQ4.out.cell 2 _ rfl, KQ4.out.cell 3 _ rfl, KQ4.out.cell 4 _ rfl⟩) ?_
   clear hK K
   try simp only [Act.put, setIfInBounds_toArray, set_cons_zero, set_cons_succ]
   refine until_pure 5 (v := ?_) (by rfl) (by kernel_rfl) (by exact fun _ _ _ h => h) (by rfl) ?_ ?_
   rotate_left
   ·intro w
    go_simp
    try with_reducible rfl
   try simp only [Act.put, setIfInBounds_toArray, set_cons_zero, set_cons_succ]
   refine until_pure 6 (v := ?_) (by rfl) (by kernel_rfl) (by exact fun _ _ _ h => h) (by rfl) ?_ ?_
   rotate_left
   ·intro w
    go_simp
    try with_reducible rfl
   try simp only [Act.put, setIfInBounds_toArray, set_cons_zero, set_cons_succ]
   refine until_pure 7 (v := ?_) (by rfl) (by kernel_rfl) (by exact fun _ _ _ h => h) (by rfl) ?_ ?_
   rotate_left
   ·intro w
    go_simp
    try with_reducible rfl
   try simp only [Act.put, setIfInBounds_toArray, set_cons_zero, set_cons_succ]
   have r0 := G4.out
   have r1 := r0.set 0 (.int .i64 (stepTo x r).term)
   have r2 := r1.set 1 (.int .i64 (stepTo x r).vote)
   have r3 := r2.set 2 (.int .i64 (stepTo x r).base)
   have r4 := r3.set 3 (.int .i64 (stepTo x r).bterm)
   have r5 := r4.set 4 (.slice A2 n2 c2)
   have y0 := r0.cell 0 _ rfl
   have f0 := r0.free 0
   have y1 := r1.cell 1 _ rfl
   have f1 := r1.free 1
   have y2 := r2.cell 2 _ rfl
   have f2 := r2.free 2
   have y3 := r3.cell 3 _ rfl
   have f3 := r3.free 3
   have y4 := r4.cell 4 _ rfl
   have f4 := r4.free 4
   have hne := O4.out.notBlk G4.out (by decide)
   have hg := GG4.out
   have OF : Hid (Owns (((((W4.setCell ⟨g, 0, none⟩ (.int .i64 (stepTo x r).term)).setCell ⟨g, 1, none⟩ (.int .i64 (stepTo x r).vote)).setCell ⟨g, 2, none⟩ (.int .i64 (stepTo x r).base)).setCell ⟨g, 3, none⟩ (.int .i64 (stepTo x r).bterm)).setCell ⟨g, 4, none⟩ (.slice A2 n2 c2)) w.heap.size 58 2 (.slice A2 n2 c2) (entR (stepTo x r).ents)) := (((((O4.out.mono (show w.heap.size ≤ w.heap.size + 1 + 1 + 1 by omega)).other hne _ _).other hne _ _).other hne _ _).other hne _ _).other hne _ _
   have RF : Hid (Blk (((((W4.setCell ⟨g, 0, none⟩ (.int .i64 (stepTo x r).term)).setCell ⟨g, 1, none⟩ (.int .i64 (stepTo x r).vote)).setCell ⟨g, 2, none⟩ (.int .i64 (stepTo x r).base)).setCell ⟨g, 3, none⟩ (.int .i64 (stepTo x r).bterm)).setCell ⟨g, 4, none⟩ (.slice A2 n2 c2)) g #[.int .i64 (stepTo x r).term, .int .i64 (stepTo x r).vote, .int .i64 (stepTo x r).base, .int .i64 (stepTo x r).bterm, .slice A2 n2 c2] 26) := r5
   have KF : Hid (Blk (((((W4.setCell ⟨g, 0, none⟩ (.int .i64 (stepTo x r).term)).setCell ⟨g, 1, none⟩ (.int .i64 (stepTo x r).vote)).setCell ⟨g, 2, none⟩ (.int .i64 (stepTo x r).base)).setCell ⟨g, 3, none⟩ (.int .i64 (stepTo x r).bterm)).setCell ⟨g, 4, none⟩ (.slice A2 n2 c2)) w.heap.size #[.int .i64 x.term, .int .i64 x.vote, .int .i64 x.base, .int .i64 x.bterm, u] 26) := ((((KP4.out.other (show w.heap.size ≠ g by omega) _ _).other (show w.heap.size ≠ g by omega) _ _).other (show w.heap.size ≠ g by omega) _ _).other (show w.heap.size ≠ g by omega) _ _).other (show w.heap.size ≠ g by omega) _ _
   have ZF : Hid (Blk (((((W4.setCell ⟨g, 0, none⟩ (.int .i64 (stepTo x r).term)).setCell ⟨g, 1, none⟩ (.int .i64 (stepTo x r).vote)).setCell ⟨g, 2, none⟩ (.int .i64 (stepTo x r).base)).setCell ⟨g, 3, none⟩ (.int .i64 (stepTo x r).bterm)).setCell ⟨g, 4, none⟩ (.slice A2 n2 c2)) (w.heap.size + 1 + 1) #[.int .i64 0, .int .i64 0, .int .i64 0, .int .i64 0, .slice none 0 0] 26) := ((((KR4.out.other (show w.heap.size + 1 + 1 ≠ g by omega) _ _).other (show w.heap.size + 1 + 1 ≠ g by omega) _ _).other (show w.heap.size + 1 + 1 ≠ g by omega) _ _).other (show w.heap.size + 1 + 1 ≠ g by omega) _ _).other (show w.heap.size + 1 + 1 ≠ g by omega) _ _
   have BF : Hid (Below w.heap.size w (((((W4.setCell ⟨g, 0, none⟩ (.int .i64 (stepTo x r).term)).setCell ⟨g, 1, none⟩ (.int .i64 (stepTo x r).vote)).setCell ⟨g, 2, none⟩ (.int .i64 (stepTo x r).base)).setCell ⟨g, 3, none⟩ (.int .i64 (stepTo x r).bterm)).setCell ⟨g, 4, none⟩ (.slice A2 n2 c2))) := (((((B4.out.setCell (show w.heap.size ≤ g by omega) _).setCell (show w.heap.size ≤ g by omega) _).setCell (show w.heap.size ≤ g by omega) _).setCell (show w.heap.size ≤ g by omega) _).setCell (show w.heap.size ≤ g by omega) _)
   clear r0 r1 r2 r3 r4 r5 hne
   refine until_one 9 (by rfl) (by kernel_rfl) (fun K hK => ?_)
   go_simp
   refine hK.out _ _ (fun h => by cases h) ?_
   clear hK K
   try simp only [Act.put, setIfInBounds_toArray, set_cons_zero, set_cons_succ]
   refine until_pure 10 (v := ?_) (by rfl) (by kernel_rfl) (by exact fun _ _ _ h => h) (by rfl) ?_ ?_
   rotate_left
   ·intro w
    go_simp
    try with_reducible rfl
   try simp only [Act.put, setIfInBounds_toArray, set_cons_zero, set_cons_succ]
   refine until_done (by kernel_rfl) ?_ _
   go_wp2_with fail
   go_meet
   exact ⟨g, A2, n2, c2, rfl, rfl, RF.out, OF.out, KF.out, ZF.out, by omega, BF.out⟩
 case rest =>
  obtain ⟨g, A, n, c, rfl, rfl, hk, hO, hp, hz, hg, hb⟩ := hcut
  have KG : Hid (Blk wc g #[.int .i64 (stepTo x r).term, .int .i64 (stepTo x r).vote, .int .i64 (stepTo x r).base, .int .i64 (stepTo x r).bterm, .slice A n c] 26) := hk
  have OG : Hid (Owns wc w.heap.size 58 2 (.slice A n c) (entR (stepTo x r).ents)) := hO
  have KZ : Hid (Blk wc (w.heap.size + 1 + 1) #[.int .i64 0, .int .i64 0, .int .i64 0, .int .i64 0, .slice none 0 0] 26) := hz
  have BC : Hid (Below w.heap.size w wc) := hb
  have HGG : Hid (w.heap.size + 1 + 1 < g) := hg
  have cW := implWalOk x (.agg #[.int .i64 x.term, .int .i64 x.vote, .int .i64 x.base, .int .i64 x.bterm, u]) wc B (HV.out.on (hb.mono HB.out)) HF.out (Nat.le_trans HB.out hb.size)
  rw [HX.out] at cW
  have a0 := hp.cell 0 _ rfl
  have a1 := hp.cell 1 _ rfl
  have a2 := hp.cell 2 _ rfl
  have a3 := hp.cell 3 _ rfl
  have a4 := hp.cell 4 _ rfl
  clear hk hO hz hb hg hp KP0 KQ0 KR0 B0 NB0
  go_wp2_with fail
  refine cW.mono ?_
  rintro e w1 ⟨rfl, hb⟩
  have KG1 : Hid (Blk w1 g #[.int .i64 (stepTo x r).term, .int .i64 (stepTo x r).vote, .int .i64 (stepTo x r).base, .int .i64 (stepTo x r).bterm, .slice A n c] 26) := KG.out.on hb KG.out.lt
  have OG1 : Hid (Owns w1 w.heap.size 58 2 (.slice A n c) (entR (stepTo x r).ents)) := OG.out.on hb
  have r0 := KZ.out.on hb KZ.out.lt
  have BC1 : Hid (Below w.heap.size w w1) := BC.out.trans (hb.mono BC.out.size)
  clear a0 a1 a2 a3 a4 cW KG OG KZ BC hb
  have r1 := r0.set 0 (.int .i64 (stepTo x r).term)
  have r2 := r1.set 1 (.int .i64 (stepTo x r).vote)
  have r3 := r2.set 2 (.int .i64 (stepTo x r).base)
  have r4 := r3.set 3 (.int .i64 (stepTo x r).bterm)
  have r5 := r4.set 4 (.slice A n c)
  have y0 := r0.cell 0 _ rfl
  have f0 := r0.free 0
  have x0 := r5.cell 0 (.int .i64 (stepTo x r).term) rfl
  have k0 := KG1.out.cell 0 (.int .i64 (stepTo x r).term) rfl
  have y1 := r1.cell 1 _ rfl
  have f1 := r1.free 1
  have x1 := r5.cell 1 (.int .i64 (stepTo x r).vote) rfl
  have k1 := KG1.out.cell 1 (.int .i64 (stepTo x r).vote) rfl
  have y2 := r2.cell 2 _ rfl
  have f2 := r2.free 2
  have x2 := r5.cell 2 (.int .i64 (stepTo x r).base) rfl
  have k2 := KG1.out.cell 2 (.int .i64 (stepTo x r).base) rfl
  have y3 := r3.cell 3 _ rfl
  have f3 := r3.free 3
  have x3 := r5.cell 3 (.int .i64 (stepTo x r).bterm) rfl
  have k3 := KG1.out.cell 3 (.int .i64 (stepTo x r).bterm) rfl
  have y4 := r4.cell 4 _ rfl
  have f4 := r4.free 4
  have x4 := r5.cell 4 (.slice A n c) rfl
  have k4 := KG1.out.cell 4 (.slice A n c) rfl
  have hne := OG1.out.notBlk r0 (by decide)
  have OF : Hid (Owns (((((w1.setCell ⟨w.heap.size + 1 + 1, 0, none⟩ (.int .i64 (stepTo x r).term)).setCell ⟨w.heap.size + 1 + 1, 1, none⟩ (.int .i64 (stepTo x r).vote)).setCell ⟨w.heap.size + 1 + 1, 2, none⟩ (.int .i64 (stepTo x r).base)).setCell ⟨w.heap.size + 1 + 1, 3, none⟩ (.int .i64 (stepTo x r).bterm)).setCell ⟨w.heap.size + 1 + 1, 4, none⟩ (.slice A n c)) w.heap.size 58 2 (.slice A n c) (entR (stepTo x r).ents)) := ((((OG1.out.other hne _ _).other hne _ _).other hne _ _).other hne _ _).other hne _ _
  have BF : Hid (Below w.heap.size w (((((w1.setCell ⟨w.heap.size + 1 + 1, 0, none⟩ (.int .i64 (stepTo x r).term)).setCell ⟨w.heap.size + 1 + 1, 1, none⟩ (.int .i64 (stepTo x r).vote)).setCell ⟨w.heap.size + 1 + 1, 2, none⟩ (.int .i64 (stepTo x r).base)).setCell ⟨w.heap.size + 1 + 1, 3, none⟩ (.int .i64 (stepTo x r).bterm)).setCell ⟨w.heap.size + 1 + 1, 4, none⟩ (.slice A n c))) := (((((BC1.out.setCell (show w.heap.size ≤ w.heap.size + 1 + 1 by omega) _).setCell (show w.heap.size ≤ w.heap.size + 1 + 1 by omega) _).setCell (show w.heap.size ≤ w.heap.size + 1 + 1 by omega) _).setCell (show w.heap.size ≤ w.heap.size + 1 + 1 by omega) _).setCell (show w.heap.size ≤ w.heap.size + 1 + 1 by omega) _)
  clear r0 r1 r2 r3 r4 r5 hne
  go_wp2_with fail
  exact bodyPost_ret (v := .tuple #[.agg #[.int .i64 (stepTo x r).term, .int .i64 (stepTo x r).vote, .int .i64 (stepTo x r).base, .int .i64 (stepTo x r).bterm, .slice A n c], .bool true]) (by simp [results, Try.f8, go_sem, x0, x1, x2, x3, x4]) rfl ⟨_, rfl, ⟨_, rfl, OF.out⟩, BF.out⟩
end Go.Proofs.Ytfmannphobjgpaa
