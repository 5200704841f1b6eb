/- FlReadI FlMathS -/
import Derived.Test.YtpmgndgkmffcnaaGreatDoorQd26
import Derived.Test.YtpmgndgkmffcnaaGreatDoorQd29
import Derived.Test.YtpmgndgkmffcnaaGreatDoorQd24
import Derived.WalkKit
import Derived.ProofKit
import Derived.OpenShut
import Derived.Below
import Derived.WalkSmall
import Derived.BigQuiet
import Derived.Deep.QuietTactic
import Derived.Deep.RegionWith
import Derived.Handy
import Derived.Test.YtpmgndgkmffcnaaGreatDoorQd15
open List (setIfInBounds_toArray set_cons_zero set_cons_succ)
namespace Go.Proofs.YtpmgndgkmffcnaaGreatDoor
open Go.ChangeShapes Go.WideShapes Go.ChangeAt Go.RowKit Go.PlainAid
set_option linter.unusedVariables false
theorem spot_fits_at (s : ByteArray) (e : Nat) : ∀ f p, ∀ x ∈ idxA s e f p, x.at' ≤ 562949953421311 ∧ x.size ≤ 562949953421311 ∧ x.key.size ≤ s.size
 | 0, _, x, hx => by cases hx
 | f + 1, p, x, hx => by
  rw [idxA] at hx
  split at hx
  ·rcases List.mem_cons.1 hx with rfl | hx
   ·refine ⟨rvN_le _, rvN_le _, ?_⟩
    show (s.extract (tkP s p) (spK s p)).size ≤ s.size
    rw [ByteArray.size_extract]
    omega
   ·exact spot_fits_at s e f _ x hx
  ·cases hx
theorem spots_fit (s : ByteArray) : ∀ x ∈ spots s, x.at' ≤ 562949953421311 ∧ x.size ≤ 562949953421311 ∧ x.key.size ≤ s.size := by
 unfold spots
 split
 ·intro x hx; cases hx
 ·exact spot_fits_at s _ _ _
theorem serAll_take (s : ByteArray) (k : Nat) (h : k < (spots s).length) : ((spots s).take (k + 1)).map (serA s) = ((spots s).take k).map (serA s) ++ [serA s ((spots s).getD k default)] := by
 rw [take_getD _ k h, List.map_append]
 rfl
theorem serAll_short (s : ByteArray) : SShort (serAll s) := by
 refine ⟨by unfold serAll; rw [List.length_map]; have := spots_length s; omega, fun x hx => ?_⟩
 obtain ⟨y, _, rfl⟩ := List.mem_map.1 hx
 have := rbP_length (blkA s y)
 show (rbP (blkA s y)).length ≤ 1048576
 omega
theorem serAll_keys (s : ByteArray) (hs : s.size ≤ 1048576) : ∀ x ∈ serAll s, x.key.size ≤ maxLen := by
 intro x hx
 obtain ⟨y, hy, rfl⟩ := List.mem_map.1 hx
 have := (spots_fit s y hy).2.2
 show y.key.size ≤ maxLen
 unfold maxLen
 omega
theorem rf_yes {s : ByteArray} (h0 : serAll s ≠ []) (h : fileT (serAll s) = s) : RfAns s (serAll s) true := by
 refine .inl ⟨rfl, GoodF.of (List.length_pos_iff.2 h0) ?_ h⟩
 rcases Nat.lt_or_ge s.size 8 with h8 | h8
 ·exfalso
  apply h0
  unfold serAll spots
  rw [if_pos h8]
  rfl
 ·exact h8
theorem rf_no {s : ByteArray} (h : serAll s = [] ∨ fileT (serAll s) ≠ s) : RfAns s [] false := by
 refine .inr ⟨rfl, rfl, fun m hm => ?_⟩
 have e := hm.read.1
 rcases h with h | h
 ·rw [h] at e
  have := hm.1
  rw [← e] at this
  simp at this
 ·exact h (by rw [e]; exact hm.2.2)
theorem SerO.snoc {w1 w2 : World} {base : Nat} {v v' : Value} {L : List (Ser × Value)} {x : Ser} {u : Value} (ho : Owns w2 base 58 2 v' (srR L ++ [srC (x, u)])) (hL : ∀ p ∈ L, Owns w2 base 56 2 p.2 (ptR p.1.pts)) (hA : L.Pairwise fun p q => Apart p.2 q.2) (hu : Owns w2 base 56 2 u (ptR x.pts)) (hn : ∀ p ∈ L, Apart p.2 u) : SerO w2 base v' (L ++ [(x, u)]) := by
 refine ⟨by rw [srR_append]; exact ho, ?_, ?_⟩
 ·intro p hp
  rcases List.mem_append.1 hp with hp | hp
  ·exact hL p hp
  ·rw [List.mem_singleton.1 hp]
   exact hu
 ·rw [List.pairwise_append]
  refine ⟨hA, List.pairwise_singleton _ _, fun p hp q hq => ?_⟩
  rw [List.mem_singleton.1 hq]
  exact hn p hp
theorem SerO.others {w w' : World} {base g : Nat} {v : Value} {L : List (Ser × Value)} (h : SerO w base v L) (hk : KeptBut g w w') (hg : g < base) : SerO w' base v L :=
 ⟨hk.owns h.1 (h.1.below hg), fun p hp => hk.owns (h.2.1 p hp) ((h.2.1 p hp).below hg), h.2.2⟩
set_option maxHeartbeats 4000000 in
theorem implReadFile (s : ByteArray) (w : World) (hs : s.size ≤ 1048576) (hst : SumTab w) (a0 a1 a2 : Addr) (he : Errs w a0 a1 a2) : Calls Tryz.prog 108 #[.string s] w fun e w' => (∃ u L ok, RfAns s (L.map Prod.fst) ok ∧ e = .returned (.tuple #[u, .bool ok]) ∧ SerO w' w.heap.size u L) ∧ Below w.heap.size w w' := by
 have HS : Hid (s.size ≤ 1048576) := hs
 have ST : Hid (SumTab w) := hst
 have ER : Hid (Errs w a0 a1 a2) := he
 have C0 : Hid (CurB (w.alloc (.cells #[.string s, .int .i64 0] 154)) w.heap.size s 0 154) := Blk.new w _ _
 have B0 : Hid (Below w.heap.size w (w.alloc (.cells #[.string s, .int .i64 0] 154))) := (Below.refl _ w).alloc (Nat.le_refl _) _
 have HZ0 : Hid ((w.alloc (.cells #[.string s, .int .i64 0] 154)).heap.size = w.heap.size + 1) := World.size_alloc _ _
 have q0 : (s.size : Int) ≤ 1048576 := by omega
 clear hs hst he
 go_enter Tryz.func108, Tryz.ntmps108
 go_wp2_with fail
 refine (readerOfV s w).mono ?_
 rintro e W1 ⟨rfl, hW1⟩
 rw [← hW1] at C0 B0 HZ0
 clear hW1
 go_wp2_with fail
 refine (readIndexV s 0 w.heap.size W1 C0.out HS.out).mono ?_
 rintro e X1 ⟨⟨u11, rfl, hO⟩, ⟨p1, hC⟩, hk⟩
 rw [HZ0.out] at hO
 obtain ⟨A11, c11, e11, _⟩ := sp_look hO.lies
 have HN5 : Hid ((spots s).length ≤ 5) := spots_length s
 have C1 : Hid (CurB X1 w.heap.size s p1 154) := hC
 have B1 : Hid (Below w.heap.size w X1) := B0.out.trans hk.1
 have O1 : Hid (Owns X1 (w.heap.size + 1) 116 5 u11 (spR (spots s))) := hO
 generalize hn : (spots s).length = n at *
 have HNn : Hid ((spots s).length = n) := hn
 subst e11
 have q1 : (n : Int) ≤ 5 := by have := HN5.out; omega
 clear hO hC hk hn B0 C0 HZ0
 go_wp2_with fail
 go_loopw [5, 13] (fun v5 v13 wr => ∃ (k p : Nat) (L : List (Ser × Value)), k ≤ n ∧ v13 = .int .i64 (k : Int) ∧ L.map Prod.fst = ((spots s).take k).map (serA s) ∧ SerO wr (w.heap.size + 1) v5 L ∧ Owns wr (w.heap.size + 1) 116 5 (.slice A11 n c11) (spR (spots s)) ∧ CurB wr w.heap.size s p 154 ∧ Below w.heap.size w wr) (fun _ i _ => n - (intOf i).toNat)
 case atStart => exact ⟨0, p1, [], by omega, rfl, by simp, ⟨Owns.nil _ _ _ _, fun p hp => (by cases hp), List.Pairwise.nil⟩, O1.out, C1.out, B1.out⟩
 case round =>
  obtain ⟨k, p, L, hk, rfl, hLm, hO, hO11, hC, hb⟩ := hrel
  have HLM : Hid (L.map Prod.fst = ((spots s).take k).map (serA s)) := hLm
  have HLL : Hid (L.length = k) := by have := congrArg List.length hLm; rw [List.length_map, List.length_map, List.length_take] at this; have := HNn.out; unfold Hid; omega
  have HO : Hid (SerO wr (w.heap.size + 1) u5 L) := hO
  have HO11 : Hid (Owns wr (w.heap.size + 1) 116 5 (.slice A11 n c11) (spR (spots s))) := hO11
  have HC : Hid (CurB wr w.heap.size s p 154) := hC
  have HB1 : Hid (Below w.heap.size w wr) := hb
  clear hO hLm hO11 hC hb
  by_cases hlt : k < n
  ·have q4 : (k : Int) < (n : Int) := by omega
   obtain ⟨A5, c5, e5, hl5⟩ := sp_look HO11.out.lies
   rw [HNn.out] at e5 hl5
   cases e5
   obtain ⟨g5, o5, rfl, _, e0, e1, e2, e3, e4⟩ := hl5 k hlt
   clear hl5
   have HT : Hid (((spots s).take (k + 1)).map (serA s) = ((spots s).take k).map (serA s) ++ [serA s ((spots s).getD k default)]) := serAll_take s k (by rw [HNn.out]; exact hlt)
   have HFx : Hid (((spots s).getD k default).at' ≤ 562949953421311 ∧ ((spots s).getD k default).size ≤ 562949953421311 ∧ ((spots s).getD k default).key.size ≤ s.size) := spots_fit s _ (getD_mem _ k (by rw [HNn.out]; exact hlt))
   generalize hx : (spots s).getD k default = x at *
   clear hx
   obtain ⟨xk, xa, xz, xf, xl⟩ := x
   simp only at e0 e1 e2 e3 e4 HFx
   have KB0 : Hid (Blk (wr.alloc (.cells #[.string xk, .int .i64 (xa : Int), .int .i64 (xz : Int), .int .i64 (xf : Int), .int .i64 (xl : Int)] 116)).drew wr.heap.size #[.string xk, .int .i64 (xa : Int), .int .i64 (xz : Int), .int .i64 (xf : Int), .int .i64 (xl : Int)] 116) := Blk.new wr _ _
   have CB0 : Hid (CurB (wr.alloc (.cells #[.string xk, .int .i64 (xa : Int), .int .i64 (xz : Int), .int .i64 (xf : Int), .int .i64 (xl : Int)] 116)).drew w.heap.size s p 154) := Blk.alloc HC.out _
   have BB0 : Hid (Below w.heap.size w (wr.alloc (.cells #[.string xk, .int .i64 (xa : Int), .int .i64 (xz : Int), .int .i64 (xf : Int), .int .i64 (xl : Int)] 116)).drew) := (HB1.out.alloc HB1.out.size _).drew
   have OL0 : Hid (SerO (wr.alloc (.cells #[.string xk, .int .i64 (xa : Int), .int .i64 (xz : Int), .int .i64 (xf : Int), .int .i64 (xl : Int)] 116)).drew (w.heap.size + 1) u5 L) := HO.out.on ((Below.refl _ wr).alloc (Nat.le_refl _) _).drew
   have OS0 : Hid (Owns (wr.alloc (.cells #[.string xk, .int .i64 (xa : Int), .int .i64 (xz : Int), .int .i64 (xf : Int), .int .i64 (xl : Int)] 116)).drew (w.heap.size + 1) 116 5 (.slice (some ⟨g5, o5, none⟩) n c11) (spR (spots s))) := HO11.out.on ((Below.refl _ wr).alloc (Nat.le_refl _) _).drew
   have HHS : Hid (w.heap.size < wr.heap.size) := Blk.lt HC.out
   have S0 : Hid ((wr.alloc (.cells #[.string xk, .int .i64 (xa : Int), .int .i64 (xz : Int), .int .i64 (xf : Int), .int .i64 (xl : Int)] 116)).drew.cell? ⟨wr.heap.size, 0, none⟩ = some (.string xk) ∧ (wr.alloc (.cells #[.string xk, .int .i64 (xa : Int), .int .i64 (xz : Int), .int .i64 (xf : Int), .int .i64 (xl : Int)] 116)).drew.cell? ⟨wr.heap.size, 1, none⟩ = some (.int .i64 (xa : Int)) ∧ (wr.alloc (.cells #[.string xk, .int .i64 (xa : Int), .int .i64 (xz : Int), .int .i64 (xf : Int), .int .i64 (xl : Int)] 116)).drew.cell? ⟨wr.heap.size, 2, none⟩ = some (.int .i64 (xz : Int)) ∧ (wr.alloc (.cells #[.string xk, .int .i64 (xa : Int), .int .i64 (xz : Int), .int .i64 (xf : Int), .int .i64 (xl : Int)] 116)).drew.cell? ⟨wr.heap.size, 3, none⟩ = some (.int .i64 (xf : Int)) ∧ (wr.alloc (.cells #[.string xk, .int .i64 (xa : Int), .int .i64 (xz : Int), .int .i64 (xf : Int), .int .i64 (xl : Int)] 116)).drew.cell? ⟨wr.heap.size, 4, none⟩ = some (.int .i64 (xl : Int))) := ⟨KB0.out.cell 0 _ rfl, KB0.out.cell 1 _ rfl, KB0.out.cell 2 _ rfl, KB0.out.cell 3 _ rfl, KB0.out.cell 4 _ rfl⟩
   have cC := clone xk (wr.alloc (.cells #[.string xk, .int .i64 (xa : Int), .int .i64 (xz : Int), .int .i64 (xf : Int), .int .i64 (xl : Int)] 116)).drew (by have := HFx.out; have := HS.out; omega)
   go_wp2_with fail
   refine wp_region_until (fun w' => w'.cell? ⟨wr.heap.size, 0, none⟩ = some (.string xk) ∧ w'.cell? ⟨wr.heap.size, 1, none⟩ = some (.int .i64 (xa : Int)) ∧ w'.cell? ⟨wr.heap.size, 2, none⟩ = some (.int .i64 (xz : Int)) ∧ w'.cell? ⟨wr.heap.size, 3, none⟩ = some (.int .i64 (xf : Int)) ∧ w'.cell? ⟨wr.heap.size, 4, none⟩ = some (.int .i64 (xl : Int))) (fun i => i == 9 || i == 10) 11 (by rfl) (by kernel_rfl) ?_
   refine until_take 0 (v := ?_) (by rfl) (by kernel_rfl) (by exact fun _ _ _ h => h) (by rfl) ?_ S0.out ?_
   rotate_left
   ·intro w hSw
    try dsimp only at hSw
    go_simp
    try with_reducible rfl
   try simp only [Act.put, setIfInBounds_toArray, set_cons_zero, set_cons_succ]
   refine until_take 1 (v := ?_) (by rfl) (by kernel_rfl) (by exact fun _ _ _ h => h) (by rfl) ?_ S0.out ?_
   rotate_left
   ·intro w hSw
    try dsimp only at hSw
    go_simp
    try with_reducible rfl
   try simp only [Act.put, setIfInBounds_toArray, set_cons_zero, set_cons_succ]
   refine until_take 2 (v := ?_) (by rfl) (by kernel_rfl) (by exact fun _ _ _ h => h) (by rfl) ?_ S0.out ?_
   rotate_left
   ·intro w hSw
    try dsimp only at hSw
    go_simp
    try with_reducible rfl
   try simp only [Act.put, setIfInBounds_toArray, set_cons_zero, set_cons_succ]
   refine until_take 4 (v := ?_) (by rfl) (by kernel_rfl) (by exact fun _ _ _ h => h) (by rfl) ?_ S0.out ?_
   rotate_left
   ·intro w hSw
    try dsimp only at hSw
    go_simp
    try with_reducible rfl
   try simp only [Act.put, setIfInBounds_toArray, set_cons_zero, set_cons_succ]
   refine until_take 5 (v := ?_) (by rfl) (by kernel_rfl) (by exact fun _ _ _ h => h) (by rfl) ?_ S0.out ?_
   rotate_left
   ·intro w hSw
    try dsimp only at hSw
    go_simp
    try with_reducible rfl
   try simp only [Act.put, setIfInBounds_toArray, set_cons_zero, set_cons_succ]
   refine until_one 3 (by rfl) (by kernel_rfl) (fun K hK => ?_)
   go_simp
   refine cC.mono ?_
   rintro e X2 ⟨rfl, hb2⟩
   have KB2 : Hid (Blk X2 wr.heap.size #[.string xk, .int .i64 (xa : Int), .int .i64 (xz : Int), .int .i64 (xf : Int), .int .i64 (xl : Int)] 116) := KB0.out.on hb2 KB0.out.lt
   have CB2 : Hid (CurB X2 w.heap.size s p 154) := Blk.on CB0.out hb2 (Blk.lt CB0.out)
   have BB2 : Hid (Below w.heap.size w X2) := BB0.out.trans (hb2.mono BB0.out.size)
   have OL2 : Hid (SerO X2 (w.heap.size + 1) u5 L) := OL0.out.on hb2
   have OS2 : Hid (Owns X2 (w.heap.size + 1) 116 5 (.slice (some ⟨g5, o5, none⟩) n c11) (spR (spots s))) := OS0.out.on hb2
   clear hb2 cC KB0 CB0 BB0 OL0 OS0
   go_wp2_with fail
   refine hK.out _ _ (fun _ _ => ⟨KB2.out.cell 0 _ rfl, KB2.out.cell 1 _ rfl, KB2.out.cell 2 _ rfl, KB2.out.cell 3 _ rfl, KB2.out.cell 4 _ rfl⟩) ?_
   clear hK K
   try simp only [Act.put, setIfInBounds_toArray, set_cons_zero, set_cons_succ]
   refine until_one 6 (by rfl) (by kernel_rfl) (fun K hK => ?_)
   go_simp
   refine (readBlockV s p w.heap.size ⟨xk, xa, xz, xf, xl⟩ X2 w CB2.out HS.out ⟨HFx.out.1, HFx.out.2.1⟩ BB2.out (Nat.le_refl _) ST.out a0 a1 a2 ER.out).mono ?_
   rintro e X3 ⟨⟨u3, rfl, hO3⟩, ⟨p3, hC3⟩, hk3⟩
   obtain ⟨A3, n3, c3, rfl⟩ := hO3.shape
   have KB3 : Hid (Blk X3 wr.heap.size #[.string xk, .int .i64 (xa : Int), .int .i64 (xz : Int), .int .i64 (xf : Int), .int .i64 (xl : Int)] 116) := hk3.blk KB2.out (by have := HHS.out; omega)
   have CB3 : Hid (CurB X3 w.heap.size s p3 154) := hC3
   have BB3 : Hid (Below w.heap.size w X3) := BB2.out.trans hk3.1
   have OL3 : Hid (SerO X3 (w.heap.size + 1) u5 L) := OL2.out.others hk3 (by omega)
   have OS3 : Hid (Owns X3 (w.heap.size + 1) 116 5 (.slice (some ⟨g5, o5, none⟩) n c11) (spR (spots s))) := hk3.owns OS2.out (OS2.out.below (by omega))
   have UP3 : Hid (Owns X3 X2.heap.size 56 2 (.slice A3 n3 c3) (ptR (serA s ⟨xk, xa, xz, xf, xl⟩).pts)) := hO3
   have AP3 : Hid (∀ q ∈ L, Apart q.2 (.slice A3 n3 c3)) := fun q hq gg h1 h2 => by
    have := ((OL2.out.2.1 q hq).lt gg h1).2
    have := (hO3.lt gg h2).1
    omega
   have Z23 : Hid (w.heap.size + 1 ≤ X2.heap.size) := by have := Blk.lt CB2.out; unfold Hid; omega
   have Z3 : w.heap.size + 1 ≤ X3.heap.size := by have := Blk.lt CB3.out; omega
   clear hO3 hC3 hk3 KB2 CB2 BB2 OL2 OS2
   obtain ⟨nA, nm, nc, w5, r5, hO5, hb5, hk5, _⟩ := run_append_row (P := Tryz.prog) X3 28 28 58 (.agg #[.string ⟨#[]⟩, .slice none 0 0]) 2 40 Tryz.underlying28 Tryz.infoSr rfl (by omega) (w.heap.size + 1) u5 (srR L) OL3.out.1 [.string xk, .slice A3 n3 c3] rfl (by intro y hy; simp only [List.mem_cons, List.not_mem_nil, or_false] at hy; rcases hy with rfl | rfl <;> rfl) (by rw [srR_length, HLL.out]; omega) (by omega) Z3
   have hne5 : ∀ (v : Value) (b : Nat) (e : TypeId) (sz : Nat) (r : List (List Value)), Owns X3 b e sz v r → e ≠ 58 → Owns w5 b e sz v r := fun v b e sz r ho hne => ho.kept fun gg hg hv => hk5 gg hg (fun hu => ho.apartT OL3.out.1 hne gg hv hu)
   have CB5 : Hid (CurB w5 w.heap.size s p3 154) := (hk5 w.heap.size (Blk.lt CB3.out) (OL3.out.1.below (by omega))).trans CB3.out
   have BB5 : Hid (Below w.heap.size w w5) := BB3.out.trans (hb5.mono (by omega))
   have OS5 : Hid (Owns w5 (w.heap.size + 1) 116 5 (.slice (some ⟨g5, o5, none⟩) n c11) (spR (spots s))) := hne5 _ _ _ _ _ OS3.out (by decide)
   have OL5 : Hid (SerO w5 (w.heap.size + 1) (.slice nA nm nc) (L ++ [(serA s ⟨xk, xa, xz, xf, xl⟩, .slice A3 n3 c3)])) := SerO.snoc (w1 := X3) (v := u5) hO5 (fun q hq => hne5 _ _ _ _ _ (OL3.out.2.1 q hq) (by decide)) OL3.out.2.2 (hne5 _ _ _ _ _ (UP3.out.mono Z23.out) (by decide)) AP3.out
   have HLMn : Hid ((L ++ [(serA s ⟨xk, xa, xz, xf, xl⟩, Value.slice A3 n3 c3)]).map Prod.fst = ((spots s).take (k + 1)).map (serA s)) := by
    unfold Hid
    rw [HT.out, List.map_append, HLM.out]
    rfl
   clear hO5 hb5 hk5 hne5
   go_wp2_with fail
   refine hK.out _ _ (fun _ _ => ⟨KB3.out.cell 0 _ rfl, KB3.out.cell 1 _ rfl, KB3.out.cell 2 _ rfl, KB3.out.cell 3 _ rfl, KB3.out.cell 4 _ rfl⟩) ?_
   clear hK K
   try simp only [Act.put, setIfInBounds_toArray, set_cons_zero, set_cons_succ]
   refine until_pure 7 (v := ?_) (by rfl) (by kernel_rfl) (by exact fun _ _ _ h => h) (by rfl) ?_ ?_
   rotate_left
   ·intro w
    go_simp
    try with_reducible rfl
   try simp only [Act.put, setIfInBounds_toArray, set_cons_zero, set_cons_succ]
   refine until_one 8 (by rfl) (by kernel_rfl) (fun K hK => ?_)
   go_simp
   refine hK.out _ _ (fun _ h => ⟨cell_alloc_keep h.1 _, cell_alloc_keep h.2.1 _, cell_alloc_keep h.2.2.1 _, cell_alloc_keep h.2.2.2.1 _, cell_alloc_keep h.2.2.2.2 _⟩) ?_
   clear hK K
   try simp only [Act.put, setIfInBounds_toArray, set_cons_zero, set_cons_succ]
   refine until_one 9 (by rfl) (by kernel_rfl) (fun K hK => ?_)
   refine step_append_run (by rfl) (.tmp 17) (.tmp 25) 28 (by rfl) _ _ _ _ (by rfl) (by rfl) r5 ?_
   refine hK.out _ _ (fun h => by cases h) ?_
   clear hK K
   try simp only [Act.put, setIfInBounds_toArray, set_cons_zero, set_cons_succ]
   refine until_one 10 (by rfl) (by kernel_rfl) (fun K hK => ?_)
   go_simp
   refine hK.out _ _ (fun h => by cases h) ?_
   clear hK K
   try simp only [Act.put, setIfInBounds_toArray, set_cons_zero, set_cons_succ]
   refine until_done (by kernel_rfl) ?_ _
   go_wp2_with fail
   go_roundw
   case rel => exact ⟨k + 1, p3, _, by omega, by go_num, HLMn.out, OL5.out, OS5.out, CB5.out, BB5.out⟩
   case measure => simp [intOf]; omega
  ·obtain rfl : k = n := by omega
   have HA : Hid (L.map Prod.fst = serAll s) := by
    unfold Hid
    rw [HLM.out, List.take_of_length_le (by rw [HNn.out]; exact Nat.le_refl _)]
    rfl
   obtain ⟨A5, c5, e5, _⟩ := sr_look HO.out.lies.1
   rw [HLL.out] at e5
   subst e5
   by_cases h0 : k = 0
   ·subst h0
    have HE : Hid (serAll s = []) := by unfold Hid; rw [← HA.out, List.eq_nil_of_length_eq_zero HLL.out]; rfl
    go_wp2_with fail
    exact bodyPost_ret (results_tmp2 rfl _ _ _) rfl ⟨⟨_, [], _, rf_no (.inl HE.out), rfl, Owns.nil _ _ _ _, fun p hp => (by cases hp), List.Pairwise.nil⟩, HB1.out⟩
   have d0 : ((k : Int) == 0) = false := by rw [beq_eq_false_iff_ne]; omega
   have d1 : decide ((k : Int) = 0) = false := decide_eq_false (by omega)
   have HNE : Hid (serAll s ≠ []) := fun e => h0 (by rw [← HLL.out, ← List.length_map (f := Prod.fst), HA.out, e]; rfl)
   have cF := implFileText (serAll s) (.slice A5 k c5) wr wr.heap.size ⟨L, HA.out, HO.out.lies⟩ (serAll_short s) (serAll_keys s HS.out) (Nat.le_refl _) (ST.out.on HB1.out)
   by_cases hEq : fileT (serAll s) = s
   ·rw [hEq] at cF
    have HEQ : Hid (fileT (serAll s) = s) := hEq
    clear hEq
    go_wp2_with fail
    refine cF.mono ?_
    rintro e Y ⟨rfl, hbY⟩
    have BY : Hid (Below w.heap.size w Y) := HB1.out.trans (hbY.mono HB1.out.size)
    have OY : Hid (SerO Y w.heap.size (.slice A5 k c5) L) := (HO.out.on hbY).mono (by omega)
    clear hbY cF
    go_wp2_with fail
    exact bodyPost_ret (results_tmp2 rfl _ _ _) rfl ⟨⟨_, L, _, by rw [HA.out]; exact rf_yes HNE.out HEQ.out, rfl, OY.out⟩, BY.out⟩
   ·have HEQ : Hid (fileT (serAll s) ≠ s) := hEq
    have hne := bytes_ne hEq
    clear hEq
    go_wp2_with fail
    refine cF.mono ?_
    rintro e Y ⟨rfl, hbY⟩
    have BY : Hid (Below w.heap.size w Y) := HB1.out.trans (hbY.mono HB1.out.size)
    clear hbY cF
    go_wp2_with fail
    exact bodyPost_ret (results_tmp2 rfl _ _ _) rfl ⟨⟨_, [], _, rf_no (.inr HEQ.out), rfl, Owns.nil _ _ _ _, fun p hp => (by cases hp), List.Pairwise.nil⟩, BY.out⟩
end Go.Proofs.YtpmgndgkmffcnaaGreatDoor
namespace Go.Proofs.YtpmgndgkmffcnaaGreatDoor
open Go.RowKit Go.PlainAid
def fourN (l : List Ser) (j i : Nat) : Nat := if i = 0 then atB l j else if i = 1 then (blkB l j).length else if i = 2 then fT l j else lT l j
theorem four_cat (l : List Ser) (j : Nat) : cat (fun i => vF 6 (fourN l j i)) 4 = vF 6 (atB l j) ++ (vF 6 (blkB l j).length ++ (vF 6 (fT l j) ++ vF 6 (lT l j))) := by
 rw [cat_succ, cat_succ, cat_succ, cat_succ, cat_zero]
 simp only [fourN, List.nil_append, List.append_assoc]
 rfl
theorem GoodF.ends {s : ByteArray} {m : List Ser} (h : GoodF s m) : s.size - 8 = posF m m.length ∧ 12 ≤ s.size ∧ rdv (rest s (s.size - 8)) 4 = posF m 0 ∧ posF m 0 ≤ s.size - 8 := by
 have hp := posF_end h.2.1
 obtain ⟨h1, h2⟩ := begin_read h.2.1
 rw [h.text] at *
 have ee : (txt (fileB m)).size - 8 = posF m m.length := by rw [txt_size]; omega
 have h0 : posF m 0 = atB m m.length := by unfold posF idxB; rw [cat_zero]; rfl
 refine ⟨ee, h2, by rw [h1, h0], ?_⟩
 rw [ee]
 rcases Nat.eq_zero_or_pos m.length with h3 | h3
 ·rw [h3]; exact Nat.le_refl _
 ·exact Nat.le_of_lt (posF_lt h.2.1 0 h3)
theorem GoodF.more {s : ByteArray} {m : List Ser} (h : GoodF s m) (k : Nat) (hk : k ≤ m.length) (hp : posF m k < s.size - 8) : k < m.length := by
 rcases Nat.lt_or_ge k m.length with h1 | h1
 ·exact h1
 ·exfalso
  have : k = m.length := by omega
  subst this
  rw [h.ends.1] at hp
  omega
theorem GoodF.last {s : ByteArray} {m : List Ser} (h : GoodF s m) (k : Nat) (hk : k ≤ m.length) (hp : ¬ posF m k < s.size - 8) : k = m.length := by
 rcases Nat.lt_or_ge k m.length with h1 | h1
 ·exfalso
  rw [h.ends.1] at hp
  exact hp (posF_lt h.2.1 k h1)
 ·omega
theorem GoodF.step {s : ByteArray} {m : List Ser} (h : GoodF s m) (k : Nat) (hk : k < m.length) (p : Nat) (hp : p = posF m k) :
  rvN (s.extract p (s.size - 8)) = (sAt m k).key.size ∧ 1 ≤ rvK (s.extract p (s.size - 8)) ∧ p + rvK (s.extract p (s.size - 8)) + (sAt m k).key.size ≤ s.size - 8 ∧
  s.extract (p + rvK (s.extract p (s.size - 8))) (p + rvK (s.extract p (s.size - 8)) + (sAt m k).key.size) = (sAt m k).key ∧
  Rd (s.extract (p + rvK (s.extract p (s.size - 8)) + (sAt m k).key.size) (s.size - 8)) 4 (rowOf (fun i => (fourN m k i : Int)) 4) (cat (fun i => vF 6 (fourN m k i)) 4).length ∧
  p + rvK (s.extract p (s.size - 8)) + (sAt m k).key.size + (cat (fun i => vF 6 (fourN m k i)) 4).length = posF m (k + 1) ∧
  atB m k ≤ s.size ∧ (blkB m k).length ≤ s.size - atB m k ∧ s.extract (atB m k) (atB m k + (blkB m k).length) = showB (sAt m k).pts := by
 have hok := h.2.1
 obtain ⟨hend, h12, _, _⟩ := h.ends
 obtain ⟨a, b, hf, ha, hb⟩ := file_at m k hk
 obtain ⟨n1, n2, n3, n4, n5⟩ := nums_le hok k hk
 have hs := h.text
 have hblk := blk_read (l := m) k hk
 have hsp : spB m k = vF 6 (sAt m k).key.size ++ (bl (sAt m k).key ++ cat (fun i => vF 6 (fourN m k i)) 4) := by rw [four_cat]; rfl
 have hlen : posF m m.length = a.length + (spB m k ++ b).length := by
  rw [ha]
  unfold posF
  rw [hb]
  simp only [List.length_append]
  omega
 subst hp
 rw [← ha]
 generalize hK : (sAt m k).key = K at *
 generalize hC : cat (fun i => vF 6 (fourN m k i)) 4 = C at *
 generalize hT : low (atB m m.length) 4 ++ low (crc (txt (bodyF m))) 4 = T at *
 have e0 : fileB m = a ++ ((spB m k ++ b) ++ T) := by rw [hf]; simp only [List.append_assoc]
 have x0 : s.extract a.length (s.size - 8) = txt (vF 6 K.size ++ (bl K ++ (C ++ b))) := by
  rw [hend, hlen, hs, e0, extract_mid, hsp]
  simp only [List.append_assoc]
 have hr := rv_var K.size (bl K ++ (C ++ b)) n1
 rw [← x0] at hr
 rw [hr.1, hr.2]
 have hpos : 1 ≤ (vF 6 K.size).length := vF_pos _ _
 have hsl : (spB m k ++ b).length = (vF 6 K.size).length + (K.size + (C.length + b.length)) := by rw [hsp]; simp only [List.length_append, bl_length]; omega
 have e1 : fileB m = (a ++ vF 6 K.size) ++ (bl K ++ (C ++ b ++ T)) := by rw [e0, hsp]; simp only [List.append_assoc]
 have e2 : fileB m = (a ++ vF 6 K.size ++ bl K) ++ ((C ++ b) ++ T) := by rw [e0, hsp]; simp only [List.append_assoc]
 have x1 := extract_mid (a ++ vF 6 K.size) (bl K) (C ++ b ++ T)
 rw [← e1, ← hs, List.length_append, bl_length, txt_bl] at x1
 have x2 := extract_mid (a ++ vF 6 K.size ++ bl K) (C ++ b) T
 rw [← e2, ← hs, List.length_append, List.length_append, bl_length] at x2
 have e3 : a.length + (vF 6 K.size).length + K.size + (C ++ b).length = s.size - 8 := by rw [hend, hlen, hsl, List.length_append]; omega
 rw [e3] at x2
 have hrd := rd_cat (fourN m k) 4 (fun i _ => by unfold fourN; split; exact n2; split; exact n3; split; exact n4; exact n5) b 4 (Nat.le_refl _)
 rw [hC] at hrd
 have hat : atB m k + (blkB m k).length ≤ s.size := by
  obtain ⟨c, hc⟩ := cat_split (blkB m) k m.length hk
  have e4 : (blks m m.length).length = (blks m k).length + ((blkB m k).length + c.length) := by
   show (cat (blkB m) m.length).length = _
   rw [hc]
   simp only [List.length_append]
   rfl
  have := bodyF_length hok
  rw [hs, txt_size, fileB_length, this.1]
  unfold atB
  omega
 refine ⟨rfl, hpos, ?_, x1, ?_, ?_, by omega, by omega, ?_⟩
 ·rw [hend, hlen, hsl]
  omega
 ·rw [x2]
  exact hrd
 ·rw [posF_succ, ← ha, hsp]
  simp only [List.length_append, bl_length]
  omega
 ·rw [← hs] at hblk
  rw [← hblk]
  unfold blkA spotOf tk
  simp only
  rw [show min (atB m k) s.size = atB m k by omega, show min (atB m k + (blkB m k).length) s.size = atB m k + (blkB m k).length by omega]
theorem four_at (m : List Ser) (k : Nat) : (rowOf (fun i => (fourN m k i : Int)) 4).getD 0 0 = (atB m k : Int) ∧ (rowOf (fun i => (fourN m k i : Int)) 4).getD 1 0 = ((blkB m k).length : Int) := ⟨rfl, rfl⟩
theorem take_sAt {m : List Ser} (k : Nat) (hk : k < m.length) : m.take (k + 1) = m.take k ++ [sAt m k] := take_getD m k hk
theorem GoodF.pts {s : ByteArray} {m : List Ser} (h : GoodF s m) (k : Nat) (hk : k < m.length) : Good (showB (sAt m k).pts) (sAt m k).pts := ⟨(h.2.1.2 k hk).2.1, (h.2.1.2 k hk).2.2, rfl⟩
end Go.Proofs.YtpmgndgkmffcnaaGreatDoor
