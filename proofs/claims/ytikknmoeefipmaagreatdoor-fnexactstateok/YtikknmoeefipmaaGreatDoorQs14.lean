/- FlReadI StRow SeLaw BkLaw -/
import Derived.Test.YtikknmoeefipmaaGreatDoorQs12
import Derived.Test.YtikknmoeefipmaaGreatDoorQs13
import Derived.Test.YtikknmoeefipmaaGreatDoorQs11
import Derived.WalkKit
import Derived.ProofKit
import Derived.OpenShut
import Derived.Below
import Derived.WalkSmall
import Derived.BigQuiet
import Derived.Deep.QuietTactic
import Derived.Deep.RegionWith
import Derived.Handy
import Derived.Test.YtikknmoeefipmaaGreatDoorQs7
import Derived.Test.YtikknmoeefipmaaGreatDoorQs8
import Derived.Test.YtikknmoeefipmaaGreatDoorRows
import Derived.Test.YtikknmoeefipmaaGreatDoorQs1
import Derived.WalkLawsBesides
import Derived.Outline
import Derived.Test.YtikknmoeefipmaaGreatDoorQs2
open List (setIfInBounds_toArray set_cons_zero set_cons_succ)
namespace Go.Proofs.YtikknmoeefipmaaGreatDoor
open Go.ChangeShapes Go.WideShapes Go.ChangeAt Go.RowKit Go.PlainAid
set_option linter.unusedVariables false
theorem spot_fits_at (s : ByteArray) (e : Nat) : ∀ f p, ∀ x ∈ idxA s e f p, x.at' ≤ 562949953421311 ∧ x.size ≤ 562949953421311 ∧ x.key.size ≤ s.size
 | 0, _, x, hx => by cases hx
 | f + 1, p, x, hx => by
  rw [idxA] at hx
  split at hx
  ·rcases List.mem_cons.1 hx with rfl | hx
   ·refine ⟨rvN_le _, rvN_le _, ?_⟩
    show (s.extract (tkP s p) (spK s p)).size ≤ s.size
    rw [ByteArray.size_extract]
    omega
   ·exact spot_fits_at s e f _ x hx
  ·cases hx
theorem spots_fit (s : ByteArray) : ∀ x ∈ spots s, x.at' ≤ 562949953421311 ∧ x.size ≤ 562949953421311 ∧ x.key.size ≤ s.size := by
 unfold spots
 split
 ·intro x hx; cases hx
 ·exact spot_fits_at s _ _ _
theorem serAll_take (s : ByteArray) (k : Nat) (h : k < (spots s).length) : ((spots s).take (k + 1)).map (serA s) = ((spots s).take k).map (serA s) ++ [serA s ((spots s).getD k default)] := by
 rw [take_getD _ k h, List.map_append]
 rfl
theorem serAll_short (s : ByteArray) : SShort (serAll s) := by
 refine ⟨by unfold serAll; rw [List.length_map]; have := spots_length s; omega, fun x hx => ?_⟩
 obtain ⟨y, _, rfl⟩ := List.mem_map.1 hx
 have := rbP_length (blkA s y)
 show (rbP (blkA s y)).length ≤ 1048576
 omega
theorem serAll_keys (s : ByteArray) (hs : s.size ≤ 1048576) : ∀ x ∈ serAll s, x.key.size ≤ maxLen := by
 intro x hx
 obtain ⟨y, hy, rfl⟩ := List.mem_map.1 hx
 have := (spots_fit s y hy).2.2
 show y.key.size ≤ maxLen
 unfold maxLen
 omega
theorem rf_yes {s : ByteArray} (h0 : serAll s ≠ []) (h : fileT (serAll s) = s) : RfAns s (serAll s) true := by
 refine .inl ⟨rfl, GoodF.of (List.length_pos_iff.2 h0) ?_ h⟩
 rcases Nat.lt_or_ge s.size 8 with h8 | h8
 ·exfalso
  apply h0
  unfold serAll spots
  rw [if_pos h8]
  rfl
 ·exact h8
theorem rf_no {s : ByteArray} (h : serAll s = [] ∨ fileT (serAll s) ≠ s) : RfAns s [] false := by
 refine .inr ⟨rfl, rfl, fun m hm => ?_⟩
 have e := hm.read.1
 rcases h with h | h
 ·rw [h] at e
  have := hm.1
  rw [← e] at this
  simp at this
 ·exact h (by rw [e]; exact hm.2.2)
theorem SerO.snoc {w1 w2 : World} {base : Nat} {v v' : Value} {L : List (Ser × Value)} {x : Ser} {u : Value} (ho : Owns w2 base 98 2 v' (srR L ++ [srC (x, u)])) (hL : ∀ p ∈ L, Owns w2 base 90 2 p.2 (ptR p.1.pts)) (hA : L.Pairwise fun p q => Apart p.2 q.2) (hu : Owns w2 base 90 2 u (ptR x.pts)) (hn : ∀ p ∈ L, Apart p.2 u) : SerO w2 base v' (L ++ [(x, u)]) := by
 refine ⟨by rw [srR_append]; exact ho, ?_, ?_⟩
 ·intro p hp
  rcases List.mem_append.1 hp with hp | hp
  ·exact hL p hp
  ·rw [List.mem_singleton.1 hp]
   exact hu
 ·rw [List.pairwise_append]
  refine ⟨hA, List.pairwise_singleton _ _, fun p hp q hq => ?_⟩
  rw [List.mem_singleton.1 hq]
  exact hn p hp
theorem SerO.others {w w' : World} {base g : Nat} {v : Value} {L : List (Ser × Value)} (h : SerO w base v L) (hk : KeptBut g w w') (hg : g < base) : SerO w' base v L :=
 ⟨hk.owns h.1 (h.1.below hg), fun p hp => hk.owns (h.2.1 p hp) ((h.2.1 p hp).below hg), h.2.2⟩
set_option maxHeartbeats 4000000 in
theorem implReadFile (s : ByteArray) (w : World) (hs : s.size ≤ 1048576) (hst : SumTab w) (a0 a1 a2 : Addr) (he : Errs w a0 a1 a2) : Calls Tryz.prog 155 #[.string s] w fun e w' => (∃ u L ok, RfAns s (L.map Prod.fst) ok ∧ e = .returned (.tuple #[u, .bool ok]) ∧ SerO w' w.heap.size u L) ∧ Below w.heap.size w w' := by
 have HS : Hid (s.size ≤ 1048576) := hs
 have ST : Hid (SumTab w) := hst
 have ER : Hid (Errs w a0 a1 a2) := he
 have C0 : Hid (CurB (w.alloc (.cells #[.string s, .int .i64 0] 243)) w.heap.size s 0 243) := Blk.new w _ _
 have B0 : Hid (Below w.heap.size w (w.alloc (.cells #[.string s, .int .i64 0] 243))) := (Below.refl _ w).alloc (Nat.le_refl _) _
 have HZ0 : Hid ((w.alloc (.cells #[.string s, .int .i64 0] 243)).heap.size = w.heap.size + 1) := World.size_alloc _ _
 have q0 : (s.size : Int) ≤ 1048576 := by omega
 clear hs hst he
 go_enter Tryz.func155, Tryz.ntmps155
 go_wp2_with fail
 refine (readerOfV s w).mono ?_
 rintro e W1 ⟨rfl, hW1⟩
 rw [← hW1] at C0 B0 HZ0
 clear hW1
 go_wp2_with fail
 refine (readIndexV s 0 w.heap.size W1 C0.out HS.out).mono ?_
 rintro e X1 ⟨⟨u11, rfl, hO⟩, ⟨p1, hC⟩, hk⟩
 rw [HZ0.out] at hO
 obtain ⟨A11, c11, e11, _⟩ := sp_look hO.lies
 have HN5 : Hid ((spots s).length ≤ 5) := spots_length s
 have C1 : Hid (CurB X1 w.heap.size s p1 243) := hC
 have B1 : Hid (Below w.heap.size w X1) := B0.out.trans hk.1
 have O1 : Hid (Owns X1 (w.heap.size + 1) 180 5 u11 (spR (spots s))) := hO
 generalize hn : (spots s).length = n at *
 have HNn : Hid ((spots s).length = n) := hn
 subst e11
 have q1 : (n : Int) ≤ 5 := by have := HN5.out; omega
 clear hO hC hk hn B0 C0 HZ0
 go_wp2_with fail
 go_loopw [5, 13] (fun v5 v13 wr => ∃ (k p : Nat) (L : List (Ser × Value)), k ≤ n ∧ v13 = .int .i64 (k : Int) ∧ L.map Prod.fst = ((spots s).take k).map (serA s) ∧ SerO wr (w.heap.size + 1) v5 L ∧ Owns wr (w.heap.size + 1) 180 5 (.slice A11 n c11) (spR (spots s)) ∧ CurB wr w.heap.size s p 243 ∧ Below w.heap.size w wr) (fun _ i _ => n - (intOf i).toNat)
 case atStart => exact ⟨0, p1, [], by omega, rfl, by simp, ⟨Owns.nil _ _ _ _, fun p hp => (by cases hp), List.Pairwise.nil⟩, O1.out, C1.out, B1.out⟩
 case round =>
  obtain ⟨k, p, L, hk, rfl, hLm, hO, hO11, hC, hb⟩ := hrel
  have HLM : Hid (L.map Prod.fst = ((spots s).take k).map (serA s)) := hLm
  have HLL : Hid (L.length = k) := by have := congrArg List.length hLm; rw [List.length_map, List.length_map, List.length_take] at this; have := HNn.out; unfold Hid; omega
  have HO : Hid (SerO wr (w.heap.size + 1) u5 L) := hO
  have HO11 : Hid (Owns wr (w.heap.size + 1) 180 5 (.slice A11 n c11) (spR (spots s))) := hO11
  have HC : Hid (CurB wr w.heap.size s p 243) := hC
  have HB1 : Hid (Below w.heap.size w wr) := hb
  clear hO hLm hO11 hC hb
  by_cases hlt : k < n
  ·have q4 : (k : Int) < (n : Int) := by omega
   obtain ⟨A5, c5, e5, hl5⟩ := sp_look HO11.out.lies
   rw [HNn.out] at e5 hl5
   cases e5
   obtain ⟨g5, o5, rfl, _, e0, e1, e2, e3, e4⟩ := hl5 k hlt
   clear hl5
   have HT : Hid (((spots s).take (k + 1)).map (serA s) = ((spots s).take k).map (serA s) ++ [serA s ((spots s).getD k default)]) := serAll_take s k (by rw [HNn.out]; exact hlt)
   have HFx : Hid (((spots s).getD k default).at' ≤ 562949953421311 ∧ ((spots s).getD k default).size ≤ 562949953421311 ∧ ((spots s).getD k default).key.size ≤ s.size) := spots_fit s _ (getD_mem _ k (by rw [HNn.out]; exact hlt))
   generalize hx : (spots s).getD k default = x at *
   clear hx
   obtain ⟨xk, xa, xz, xf, xl⟩ := x
   simp only at e0 e1 e2 e3 e4 HFx
   have KB0 : Hid (Blk (wr.alloc (.cells #[.string xk, .int .i64 (xa : Int), .int .i64 (xz : Int), .int .i64 (xf : Int), .int .i64 (xl : Int)] 180)).drew wr.heap.size #[.string xk, .int .i64 (xa : Int), .int .i64 (xz : Int), .int .i64 (xf : Int), .int .i64 (xl : Int)] 180) := Blk.new wr _ _
   have CB0 : Hid (CurB (wr.alloc (.cells #[.string xk, .int .i64 (xa : Int), .int .i64 (xz : Int), .int .i64 (xf : Int), .int .i64 (xl : Int)] 180)).drew w.heap.size s p 243) := Blk.alloc HC.out _
   have BB0 : Hid (Below w.heap.size w (wr.alloc (.cells #[.string xk, .int .i64 (xa : Int), .int .i64 (xz : Int), .int .i64 (xf : Int), .int .i64 (xl : Int)] 180)).drew) := (HB1.out.alloc HB1.out.size _).drew
   have OL0 : Hid (SerO (wr.alloc (.cells #[.string xk, .int .i64 (xa : Int), .int .i64 (xz : Int), .int .i64 (xf : Int), .int .i64 (xl : Int)] 180)).drew (w.heap.size + 1) u5 L) := HO.out.on ((Below.refl _ wr).alloc (Nat.le_refl _) _).drew
   have OS0 : Hid (Owns (wr.alloc (.cells #[.string xk, .int .i64 (xa : Int), .int .i64 (xz : Int), .int .i64 (xf : Int), .int .i64 (xl : Int)] 180)).drew (w.heap.size + 1) 180 5 (.slice (some ⟨g5, o5, none⟩) n c11) (spR (spots s))) := HO11.out.on ((Below.refl _ wr).alloc (Nat.le_refl _) _).drew
   have HHS : Hid (w.heap.size < wr.heap.size) := Blk.lt HC.out
   have S0 : Hid ((wr.alloc (.cells #[.string xk, .int .i64 (xa : Int), .int .i64 (xz : Int), .int .i64 (xf : Int), .int .i64 (xl : Int)] 180)).drew.cell? ⟨wr.heap.size, 0, none⟩ = some (.string xk) ∧ (wr.alloc (.cells #[.string xk, .int .i64 (xa : Int), .int .i64 (xz : Int), .int .i64 (xf : Int), .int .i64 (xl : Int)] 180)).drew.cell? ⟨wr.heap.size, 1, none⟩ = some (.int .i64 (xa : Int)) ∧ (wr.alloc (.cells #[.string xk, .int .i64 (xa : Int), .int .i64 (xz : Int), .int .i64 (xf : Int), .int .i64 (xl : Int)] 180)).drew.cell? ⟨wr.heap.size, 2, none⟩ = some (.int .i64 (xz : Int)) ∧ (wr.alloc (.cells #[.string xk, .int .i64 (xa : Int), .int .i64 (xz : Int), .int .i64 (xf : Int), .int .i64 (xl : Int)] 180)).drew.cell? ⟨wr.heap.size, 3, none⟩ = some (.int .i64 (xf : Int)) ∧ (wr.alloc (.cells #[.string xk, .int .i64 (xa : Int), .int .i64 (xz : Int), .int .i64 (xf : Int), .int .i64 (xl : Int)] 180)).drew.cell? ⟨wr.heap.size, 4, none⟩ = some (.int .i64 (xl : Int))) := ⟨KB0.out.cell 0 _ rfl, KB0.out.cell 1 _ rfl, KB0.out.cell 2 _ rfl, KB0.out.cell 3 _ rfl, KB0.out.cell 4 _ rfl⟩
   have cC := clone xk (wr.alloc (.cells #[.string xk, .int .i64 (xa : Int), .int .i64 (xz : Int), .int .i64 (xf : Int), .int .i64 (xl : Int)] 180)).drew (by have := HFx.out; have := HS.out; omega)
   go_wp2_with fail
   refine wp_region_until (fun w' => w'.cell? ⟨wr.heap.size, 0, none⟩ = some (.string xk) ∧ w'.cell? ⟨wr.heap.size, 1, none⟩ = some (.int .i64 (xa : Int)) ∧ w'.cell? ⟨wr.heap.size, 2, none⟩ = some (.int .i64 (xz : Int)) ∧ w'.cell? ⟨wr.heap.size, 3, none⟩ = some (.int .i64 (xf : Int)) ∧ w'.cell? ⟨wr.heap.size, 4, none⟩ = some (.int .i64 (xl : Int))) (fun i => i == 9 || i == 10) 11 (by rfl) (by kernel_rfl) ?_
   refine tKe 0 (v := ?_) S0.out ?_ ?_; rotate_left; focus (intro w hSw; (try dsimp only at hSw); go_simp; try with_reducible rfl)
   try simp only [Act.put, zQ1, zQ2, zQ3]
   refine tKe 1 (v := ?_) S0.out ?_ ?_; rotate_left; focus (intro w hSw; (try dsimp only at hSw); go_simp; try with_reducible rfl)
   try simp only [Act.put, zQ1, zQ2, zQ3]
   refine tKe 2 (v := ?_) S0.out ?_ ?_; rotate_left; focus (intro w hSw; (try dsimp only at hSw); go_simp; try with_reducible rfl)
   try simp only [Act.put, zQ1, zQ2, zQ3]
   refine tKe 4 (v := ?_) S0.out ?_ ?_; rotate_left; focus (intro w hSw; (try dsimp only at hSw); go_simp; try with_reducible rfl)
   try simp only [Act.put, zQ1, zQ2, zQ3]
   refine tKe 5 (v := ?_) S0.out ?_ ?_; rotate_left; focus (intro w hSw; (try dsimp only at hSw); go_simp; try with_reducible rfl)
   try simp only [Act.put, zQ1, zQ2, zQ3]
   refine uNe 3 (fun K hK => ?_)
   go_simp
   refine cC.mono ?_
   rintro e X2 ⟨rfl, hb2⟩
   have KB2 : Hid (Blk X2 wr.heap.size #[.string xk, .int .i64 (xa : Int), .int .i64 (xz : Int), .int .i64 (xf : Int), .int .i64 (xl : Int)] 180) := KB0.out.on hb2 KB0.out.lt
   have CB2 : Hid (CurB X2 w.heap.size s p 243) := Blk.on CB0.out hb2 (Blk.lt CB0.out)
   have BB2 : Hid (Below w.heap.size w X2) := BB0.out.trans (hb2.mono BB0.out.size)
   have OL2 : Hid (SerO X2 (w.heap.size + 1) u5 L) := OL0.out.on hb2
   have OS2 : Hid (Owns X2 (w.heap.size + 1) 180 5 (.slice (some ⟨g5, o5, none⟩) n c11) (spR (spots s))) := OS0.out.on hb2
   clear hb2 cC KB0 CB0 BB0 OL0 OS0
   go_wp2_with fail
   refine hK.out _ _ (fun _ _ => ⟨KB2.out.cell 0 _ rfl, KB2.out.cell 1 _ rfl, KB2.out.cell 2 _ rfl, KB2.out.cell 3 _ rfl, KB2.out.cell 4 _ rfl⟩) ?_
   clear hK K
   try simp only [Act.put, zQ1, zQ2, zQ3]
   refine uNe 6 (fun K hK => ?_)
   go_simp
   refine (readBlockV s p w.heap.size ⟨xk, xa, xz, xf, xl⟩ X2 w CB2.out HS.out ⟨HFx.out.1, HFx.out.2.1⟩ BB2.out (Nat.le_refl _) ST.out a0 a1 a2 ER.out).mono ?_
   rintro e X3 ⟨⟨u3, rfl, hO3⟩, ⟨p3, hC3⟩, hk3⟩
   obtain ⟨A3, n3, c3, rfl⟩ := hO3.shape
   have KB3 : Hid (Blk X3 wr.heap.size #[.string xk, .int .i64 (xa : Int), .int .i64 (xz : Int), .int .i64 (xf : Int), .int .i64 (xl : Int)] 180) := hk3.blk KB2.out (by have := HHS.out; omega)
   have CB3 : Hid (CurB X3 w.heap.size s p3 243) := hC3
   have BB3 : Hid (Below w.heap.size w X3) := BB2.out.trans hk3.1
   have OL3 : Hid (SerO X3 (w.heap.size + 1) u5 L) := OL2.out.others hk3 (by omega)
   have OS3 : Hid (Owns X3 (w.heap.size + 1) 180 5 (.slice (some ⟨g5, o5, none⟩) n c11) (spR (spots s))) := hk3.owns OS2.out (OS2.out.below (by omega))
   have UP3 : Hid (Owns X3 X2.heap.size 90 2 (.slice A3 n3 c3) (ptR (serA s ⟨xk, xa, xz, xf, xl⟩).pts)) := hO3
   have AP3 : Hid (∀ q ∈ L, Apart q.2 (.slice A3 n3 c3)) := fun q hq gg h1 h2 => by
    have := ((OL2.out.2.1 q hq).lt gg h1).2
    have := (hO3.lt gg h2).1
    omega
   have Z23 : Hid (w.heap.size + 1 ≤ X2.heap.size) := by have := Blk.lt CB2.out; unfold Hid; omega
   have Z3 : w.heap.size + 1 ≤ X3.heap.size := by have := Blk.lt CB3.out; omega
   clear hO3 hC3 hk3 KB2 CB2 BB2 OL2 OS2
   obtain ⟨nA, nm, nc, w5, r5, hO5, hb5, hk5, _⟩ := run_append_row (P := Tryz.prog) X3 33 33 98 (.agg #[.string ⟨#[]⟩, .slice none 0 0]) 2 40 Tryz.underlying33 Tryz.infoSr rfl (by omega) (w.heap.size + 1) u5 (srR L) OL3.out.1 [.string xk, .slice A3 n3 c3] rfl (by intro y hy; simp only [List.mem_cons, List.not_mem_nil, or_false] at hy; rcases hy with rfl | rfl <;> rfl) (by rw [srR_length, HLL.out]; omega) (by omega) Z3
   have hne5 : ∀ (v : Value) (b : Nat) (e : TypeId) (sz : Nat) (r : List (List Value)), Owns X3 b e sz v r → e ≠ 98 → Owns w5 b e sz v r := fun v b e sz r ho hne => ho.kept fun gg hg hv => hk5 gg hg (fun hu => ho.apartT OL3.out.1 hne gg hv hu)
   have CB5 : Hid (CurB w5 w.heap.size s p3 243) := (hk5 w.heap.size (Blk.lt CB3.out) (OL3.out.1.below (by omega))).trans CB3.out
   have BB5 : Hid (Below w.heap.size w w5) := BB3.out.trans (hb5.mono (by omega))
   have OS5 : Hid (Owns w5 (w.heap.size + 1) 180 5 (.slice (some ⟨g5, o5, none⟩) n c11) (spR (spots s))) := hne5 _ _ _ _ _ OS3.out (by decide)
   have OL5 : Hid (SerO w5 (w.heap.size + 1) (.slice nA nm nc) (L ++ [(serA s ⟨xk, xa, xz, xf, xl⟩, .slice A3 n3 c3)])) := SerO.snoc (w1 := X3) (v := u5) hO5 (fun q hq => hne5 _ _ _ _ _ (OL3.out.2.1 q hq) (by decide)) OL3.out.2.2 (hne5 _ _ _ _ _ (UP3.out.mono Z23.out) (by decide)) AP3.out
   have HLMn : Hid ((L ++ [(serA s ⟨xk, xa, xz, xf, xl⟩, Value.slice A3 n3 c3)]).map Prod.fst = ((spots s).take (k + 1)).map (serA s)) := by
    unfold Hid
    rw [HT.out, List.map_append, HLM.out]
    rfl
   clear hO5 hb5 hk5 hne5
   go_wp2_with fail
   refine hK.out _ _ (fun _ _ => ⟨KB3.out.cell 0 _ rfl, KB3.out.cell 1 _ rfl, KB3.out.cell 2 _ rfl, KB3.out.cell 3 _ rfl, KB3.out.cell 4 _ rfl⟩) ?_
   clear hK K
   try simp only [Act.put, zQ1, zQ2, zQ3]
   refine pUr 7 (v := ?_) ?_ ?_; rotate_left; focus (intro w; go_simp; try with_reducible rfl)
   try simp only [Act.put, zQ1, zQ2, zQ3]
   refine uNe 8 (fun K hK => ?_)
   go_simp
   refine hK.out _ _ (fun _ h => ⟨cell_alloc_keep h.1 _, cell_alloc_keep h.2.1 _, cell_alloc_keep h.2.2.1 _, cell_alloc_keep h.2.2.2.1 _, cell_alloc_keep h.2.2.2.2 _⟩) ?_
   clear hK K
   try simp only [Act.put, zQ1, zQ2, zQ3]
   refine uNe 9 (fun K hK => ?_)
   refine step_append_run (by rfl) (.tmp 17) (.tmp 25) 33 (by rfl) _ _ _ _ (by rfl) (by rfl) r5 ?_
   refine hK.out _ _ (fun h => by cases h) ?_
   clear hK K
   try simp only [Act.put, zQ1, zQ2, zQ3]
   refine uNe 10 (fun K hK => ?_)
   go_simp
   refine hK.out _ _ (fun h => by cases h) ?_
   clear hK K
   try simp only [Act.put, zQ1, zQ2, zQ3]
   refine until_done (by kernel_rfl) ?_ _
   go_wp2_with fail
   go_roundw
   case rel => exact ⟨k + 1, p3, _, by omega, by go_num, HLMn.out, OL5.out, OS5.out, CB5.out, BB5.out⟩
   case measure => simp [intOf]; omega
  ·obtain rfl : k = n := by omega
   have HA : Hid (L.map Prod.fst = serAll s) := by
    unfold Hid
    rw [HLM.out, List.take_of_length_le (by rw [HNn.out]; exact Nat.le_refl _)]
    rfl
   obtain ⟨A5, c5, e5, _⟩ := sr_look HO.out.lies.1
   rw [HLL.out] at e5
   subst e5
   by_cases h0 : k = 0
   ·subst h0
    have HE : Hid (serAll s = []) := by unfold Hid; rw [← HA.out, List.eq_nil_of_length_eq_zero HLL.out]; rfl
    go_wp2_with fail
    exact bodyPost_ret (results_tmp2 rfl _ _ _) rfl ⟨⟨_, [], _, rf_no (.inl HE.out), rfl, Owns.nil _ _ _ _, fun p hp => (by cases hp), List.Pairwise.nil⟩, HB1.out⟩
   have d0 : ((k : Int) == 0) = false := by rw [beq_eq_false_iff_ne]; omega
   have d1 : decide ((k : Int) = 0) = false := decide_eq_false (by omega)
   have HNE : Hid (serAll s ≠ []) := fun e => h0 (by rw [← HLL.out, ← List.length_map (f := Prod.fst), HA.out, e]; rfl)
   have cF := implFileText (serAll s) (.slice A5 k c5) wr wr.heap.size ⟨L, HA.out, HO.out.lies⟩ (serAll_short s) (serAll_keys s HS.out) (Nat.le_refl _) (ST.out.on HB1.out)
   by_cases hEq : fileT (serAll s) = s
   ·rw [hEq] at cF
    have HEQ : Hid (fileT (serAll s) = s) := hEq
    clear hEq
    go_wp2_with fail
    refine cF.mono ?_
    rintro e Y ⟨rfl, hbY⟩
    have BY : Hid (Below w.heap.size w Y) := HB1.out.trans (hbY.mono HB1.out.size)
    have OY : Hid (SerO Y w.heap.size (.slice A5 k c5) L) := (HO.out.on hbY).mono (by omega)
    clear hbY cF
    go_wp2_with fail
    exact bodyPost_ret (results_tmp2 rfl _ _ _) rfl ⟨⟨_, L, _, by rw [HA.out]; exact rf_yes HNE.out HEQ.out, rfl, OY.out⟩, BY.out⟩
   ·have HEQ : Hid (fileT (serAll s) ≠ s) := hEq
    have hne := bytes_ne hEq
    clear hEq
    go_wp2_with fail
    refine cF.mono ?_
    rintro e Y ⟨rfl, hbY⟩
    have BY : Hid (Below w.heap.size w Y) := HB1.out.trans (hbY.mono HB1.out.size)
    clear hbY cF
    go_wp2_with fail
    exact bodyPost_ret (results_tmp2 rfl _ _ _) rfl ⟨⟨_, [], _, rf_no (.inr HEQ.out), rfl, Owns.nil _ _ _ _, fun p hp => (by cases hp), List.Pairwise.nil⟩, BY.out⟩
end Go.Proofs.YtikknmoeefipmaaGreatDoor
namespace Go.Proofs.YtikknmoeefipmaaGreatDoor
open Go.ChangeShapes Go.WideShapes Go.ChangeAt Go.RowKit Go.PlainAid
set_option linter.unusedVariables false
def vSt (x : Sta) (vb vc vf vs : Value) : Value := .agg #[.int .i64 x.kind, .int .i64 x.hold, .int .i64 x.mark, vb, .int .i64 x.eng.floor, vc, vf, vs]
def StaV (w : World) (B : Nat) (v : Value) (x : Sta) : Prop := ∃ vb vc vf vs, v = vSt x vb vc vf vs ∧ Lies w B 2 vb (ptR x.bks) ∧ SerV w B vc x.eng.cache ∧ Lies w B 1 vf (stR x.eng.files) ∧ Lies w B 6 vs (sesR x.ses)
theorem StaV.on {w w' : World} {B : Nat} {v : Value} {x : Sta} (h : StaV w B v x) (hb : Below B w w') : StaV w' B v x := by
 obtain ⟨vb, vc, vf, vs, e, h1, h2, h3, h4⟩ := h
 exact ⟨vb, vc, vf, vs, e, h1.on hb, h2.on hb, h3.on hb, h4.on hb⟩
theorem StaV.mono {w : World} {B C : Nat} {v : Value} {x : Sta} (h : StaV w B v x) (hB : B ≤ C) : StaV w C v x := by
 obtain ⟨vb, vc, vf, vs, e, h1, h2, h3, h4⟩ := h
 exact ⟨vb, vc, vf, vs, e, h1.mono hB, h2.mono hB, h3.mono hB, h4.mono hB⟩
def StaO (w : World) (base : Nat) (v : Value) (x : Sta) : Prop := ∃ vb vc vf vs L, v = vSt x vb vc vf vs ∧ Owns w base 67 2 vb (ptR x.bks) ∧ (L.map Prod.fst = x.eng.cache ∧ SerO w base vc L ∧ Strs w base vf x.eng.files) ∧ Owns w base 73 6 vs (sesR x.ses)
theorem StaO.view {w : World} {base : Nat} {v : Value} {x : Sta} (h : StaO w base v x) : StaV w w.heap.size v x := by
 obtain ⟨vb, vc, vf, vs, L, e, h1, ⟨h2, h3, h4⟩, h5⟩ := h
 exact ⟨vb, vc, vf, vs, e, h1.lies, by rw [← h2]; exact h3.view, (strs_owns h4).lies, h5.lies⟩
theorem StaO.on {w w' : World} {base : Nat} {v : Value} {x : Sta} (h : StaO w base v x) (hb : Below w.heap.size w w') : StaO w' base v x := by
 obtain ⟨vb, vc, vf, vs, L, e, h1, ⟨h2, h3, h4⟩, h5⟩ := h
 exact ⟨vb, vc, vf, vs, L, e, h1.on hb, ⟨h2, h3.on hb, owns_strs ((strs_owns h4).on hb)⟩, h5.on hb⟩
theorem StaO.mono {w : World} {base base' : Nat} {v : Value} {x : Sta} (h : StaO w base v x) (hb : base' ≤ base) : StaO w base' v x := by
 obtain ⟨vb, vc, vf, vs, L, e, h1, ⟨h2, h3, h4⟩, h5⟩ := h
 exact ⟨vb, vc, vf, vs, L, e, h1.mono hb, ⟨h2, h3.mono hb, owns_strs ((strs_owns h4).mono hb)⟩, h5.mono hb⟩
theorem StaO.shape {w : World} {base : Nat} {v : Value} {x : Sta} (h : StaO w base v x) : ∃ Ab nb cb Ac nc cc Af nf cf As ns cs, v = vSt x (.slice Ab nb cb) (.slice Ac nc cc) (.slice Af nf cf) (.slice As ns cs) := by
 obtain ⟨vb, vc, vf, vs, L, e, h1, ⟨h2, h3, h4⟩, h5⟩ := h
 obtain ⟨Ab, nb, cb, rfl⟩ := h1.shape
 obtain ⟨Ac, nc, cc, rfl⟩ := h3.1.shape
 obtain ⟨Af, nf, cf, rfl⟩ := (strs_owns h4).shape
 obtain ⟨As, ns, cs, rfl⟩ := h5.shape
 exact ⟨Ab, nb, cb, Ac, nc, cc, Af, nf, cf, As, ns, cs, e⟩
theorem StaV.shape {w : World} {B : Nat} {v : Value} {x : Sta} (h : StaV w B v x) : ∃ Ab nb cb Ac nc cc Af nf cf As ns cs, v = vSt x (.slice Ab nb cb) (.slice Ac nc cc) (.slice Af nf cf) (.slice As ns cs) := by
 obtain ⟨vb, vc, vf, vs, e, h1, h2, h3, h4⟩ := h
 obtain ⟨Ab, cb, rfl, _⟩ := pt_look h1
 obtain ⟨Ac, cc, rfl, _⟩ := h2.look
 obtain ⟨Af, cf, rfl, _⟩ := st_look h3
 obtain ⟨As, cs, rfl, _⟩ := ses_look h4
 exact ⟨Ab, _, cb, Ac, _, cc, Af, _, cf, As, _, cs, e⟩
theorem StaV.parts {w : World} {B : Nat} {x : Sta} {vb vc vf vs : Value} (h : StaV w B (vSt x vb vc vf vs) x) : Lies w B 2 vb (ptR x.bks) ∧ EngV w B (.agg #[.int .i64 x.eng.floor, vc, vf]) x.eng ∧ Lies w B 6 vs (sesR x.ses) := by
 obtain ⟨vb', vc', vf', vs', e, h1, h2, h3, h4⟩ := h
 unfold vSt at e
 simp only [Value.agg.injEq, Array.mk.injEq, List.cons.injEq, true_and, and_true] at e
 obtain ⟨rfl, rfl, rfl, rfl⟩ := e
 exact ⟨h1, ⟨_, _, rfl, h2, h3⟩, h4⟩
def StShort (x : Sta) : Prop := x.bks.length ≤ 1048576 ∧ EShort x.eng ∧ x.ses.length ≤ 1048576 ∧ ∀ s ∈ x.ses, s.data.size ≤ 1048576
end Go.Proofs.YtikknmoeefipmaaGreatDoor
namespace Go.Proofs.YtikknmoeefipmaaGreatDoor
open Go.ChangeShapes Go.WideShapes Go.ChangeAt Go.RowKit Go.PlainAid
set_option linter.unusedVariables false
theorem below_s2 (w : World) (a b : Obj) : Below w.heap.size w ((w.alloc a).alloc b) := ((Below.refl _ w).alloc (Nat.le_refl _) a).alloc (by simp) b
theorem below_s6 (w : World) (a b c d e f : Obj) : Below w.heap.size w ((((((w.alloc a).alloc b).alloc c).alloc d).alloc e).alloc f) := ((((((Below.refl _ w).alloc (Nat.le_refl _) a).alloc (by simp) b).alloc (by simp; omega) c).alloc (by simp; omega) d).alloc (by simp; omega) e).alloc (by simp; omega) f
def wtQ1 (x : Ses) : Nat := x.data.size
def wtQ : List Ses → Nat
 | [] => 0
 | x :: r => wtQ1 x + wtQ r
theorem wtQ_snoc (l : List Ses) (k : Nat) (h : k < l.length) : wtQ (l.take (k + 1)) = wtQ (l.take k) + wtQ1 (l.getD k default) := by
 rw [← getD_at l k h]
 induction l generalizing k with
 | nil => simp at h
 | cons x r ih =>
  cases k with
  | zero => simp [wtQ]
  | succ k => simp only [List.take_succ_cons, wtQ, List.getElem_cons_succ]; rw [ih k (by simpa using h)]; omega
def vSes (x : Ses) : Value := .agg #[.int .i64 x.client, .int .i64 x.serial, .int .i64 x.code, .int .i64 x.index, .int .i64 x.mark, .string x.data]
set_option maxHeartbeats 400000 in
theorem szSession (x : Ses) (left : Int) (w : World) (h0 : 0 ≤ left) (h1 : left ≤ 1048576) (hx : x.data.size ≤ maxLen) :
  Calls Tryz.prog 70 #[vSes x, .int .i64 left] w fun e w' => (∃ r, e = .returned (.int .i64 r) ∧ Hid (r = -1 ∨ 0 ≤ r ∧ r + (wtQ1 x : Int) = left)) ∧ Below w.heap.size w w' := by
 unfold vSes wtQ1
 have c1 := fun wx => szAnswer x.ans left wx h0 h1 hx
 have HB : Hid (Below w.heap.size w (w.alloc (.cells #[.int .i64 x.client, .int .i64 x.serial, .int .i64 x.code, .int .i64 x.index, .int .i64 x.mark, .string x.data] 116))) := below_a1 _ _
 unfold vAns Ses.ans at c1
 simp only at c1
 generalize hn : x.data.size = n at *
 go_enter Tryz.func70, Tryz.ntmps70
 go_wp2_with fail
 refine (c1 _).mono ?_
 rintro e w1 ⟨⟨r, rfl, hr⟩, hb⟩
 have B1 : Hid (Below w.heap.size w w1) := HB.out.trans (hb.mono HB.out.size)
 clear hb
 rcases hr.out with rfl | ⟨hr0, hr1⟩
 ·go_wp2_with fail
  go_ret
  exact ⟨⟨_, rfl, .inl rfl⟩, B1.out⟩
 ·have q : decide (r < 0) = false := decide_eq_false (by omega)
  have HR : Hid (r + (n : Int) = left) := hr1
  clear hr1
  go_wp2_with fail
  go_ret
  exact ⟨⟨_, rfl, .inr ⟨hr0, HR.out⟩⟩, B1.out⟩
set_option maxHeartbeats 1000000 in
theorem szSessionS (l : List Ses) (v : Value) (left : Int) (w : World) (B : Nat) (hv : Lies w B 6 v (sesR l)) (hd : ∀ x ∈ l, x.data.size ≤ maxLen) (hn : l.length ≤ maxLen) (h0 : 0 ≤ left) (h1 : left ≤ 1048576) (hB : B ≤ w.heap.size) :
  Calls Tryz.prog 29 #[v, .int .i64 left] w fun e w' => ∃ r : Int, e = .returned (.int .i64 r) ∧ (r = -1 ∨ 0 ≤ r ∧ r + ((l.length + wtQ l : Nat) : Int) = left) ∧ Below w.heap.size w w' := by
 unfold maxLen at hn
 obtain ⟨A, cap, rfl, hl⟩ := ses_look hv
 have HL : Hid (∀ j, j < l.length → ∃ g off, A = some ⟨g, off, none⟩ ∧ g < B ∧ _) := hl
 have HD : Hid (∀ x ∈ l, x.data.size ≤ maxLen) := hd
 have HB : Hid (B ≤ w.heap.size) := hB
 clear hl hd hB hv
 have q1 : (l.length : Int) ≤ 9223372036854775807 := by omega
 have w2 : wrap64 (left - (l.length : Int)) = left - (l.length : Int) := by unfold wrap64; omega
 by_cases hs : left < (l.length : Int)
 ·have q2 : left - (l.length : Int) < 0 := by omega
  go_enter Tryz.func29, Tryz.ntmps29
  go_wp2_with fail
  go_ret
  exact ⟨-1, rfl, .inl rfl, Below.refl _ _⟩
 ·have q2 : 0 ≤ left - (l.length : Int) := by omega
  have q3 : decide (left - (l.length : Int) < 0) = false := decide_eq_false (by omega)
  have HQ : Hid (0 ≤ left - (l.length : Int)) := q2
  generalize hN : l.length = n at *
  go_enter Tryz.func29, Tryz.ntmps29
  go_wp2_with fail
  clear q2 q3 w2
  go_loopw [1, 5] (fun v1 v5 wr => ∃ (k : Nat) (r : Int), k ≤ n ∧ v5 = .int .i64 (k : Int) ∧ v1 = .int .i64 r ∧ 0 ≤ r ∧ r + ((n + wtQ (l.take k) : Nat) : Int) = left ∧ Below w.heap.size w wr) (fun _ i _ => n - (intOf i).toNat)
  case atStart => exact ⟨0, left - (n : Int), by omega, rfl, rfl, HQ.out, by simp [wtQ], Below.refl _ _⟩
  case round =>
   obtain ⟨k, r, hk, rfl, rfl, hr0, hr, hb⟩ := hrel
   have HR : Hid (r + ((n + wtQ (l.take k) : Nat) : Int) = left) := hr
   have HB1 : Hid (Below w.heap.size w wr) := hb
   have q9 : r ≤ 1048576 := by omega
   clear hr hb
   by_cases hlt : k < n
   ·have q4 : (k : Int) < (n : Int) := by omega
    obtain ⟨g, off, rfl, hg, hc0, hc1, hc2, hc3, hc4, hc5⟩ := HL.out k (by omega)
    have hgw : g < w.heap.size := Nat.lt_of_lt_of_le hg HB.out
    rw [← HB1.out.cell (p := ⟨_, _, none⟩) hgw] at hc0
    rw [← HB1.out.cell (p := ⟨_, _, none⟩) hgw] at hc1
    rw [← HB1.out.cell (p := ⟨_, _, none⟩) hgw] at hc2
    rw [← HB1.out.cell (p := ⟨_, _, none⟩) hgw] at hc3
    rw [← HB1.out.cell (p := ⟨_, _, none⟩) hgw] at hc4
    rw [← HB1.out.cell (p := ⟨_, _, none⟩) hgw] at hc5
    have c1 := fun wx => szSession (l.getD k default) r wx hr0 q9 (HD.out _ (getD_mem l k (by omega)))
    have HW : Hid (wtQ (l.take (k + 1)) = wtQ (l.take k) + wtQ1 (l.getD k default)) := wtQ_snoc l k (by omega)
    unfold vSes at c1
    generalize wtQ1 (l.getD k default) = t at *
    generalize l.getD k default = x at *
    go_wp2_with fail
    refine (c1 _).mono ?_
    rintro e w2 ⟨⟨r2, rfl, hr2⟩, hb2⟩
    have HR2 : Hid (r2 = -1 ∨ 0 ≤ r2 ∧ r2 + (t : Int) = r) := hr2
    have HB2 : Hid (Below w.heap.size w w2) := HB1.out.trans (hb2.mono HB1.out.size)
    clear hr2 hb2
    rcases HR2.out with rfl | ⟨hp, hq⟩
    ·go_wp2_with fail
     go_ret
     exact ⟨-1, rfl, .inl rfl, HB2.out⟩
    ·have q5 : decide (r2 < 0) = false := decide_eq_false (by omega)
     have HQ2 : Hid (r2 + (t : Int) = r) := hq
     clear hq
     go_wp2_with fail
     go_roundw
     case rel => exact ⟨k + 1, r2, by omega, by go_num, rfl, hp, by have := HR.out; have := HQ2.out; rw [HW.out]; omega, HB2.out⟩
     case measure => simp [intOf]; omega
   ·obtain rfl : k = n := by omega
    go_wp2_with fail
    go_ret
    exact ⟨r, rfl, .inr ⟨hr0, by have := HR.out; rw [← hN, List.take_length] at this; rw [← hN]; exact this⟩, HB1.out⟩
set_option maxHeartbeats 400000 in
theorem toAnswerX (x : Ans) (w : World) : Calls Tryz.prog 113 #[vAns x] w fun e w' => e = .returned (vAns x) ∧ ∃ a b c, w' = ((w.alloc a).alloc b).alloc c := by
 unfold vAns
 go_enter Tryz.func113, Tryz.ntmps113
 go_wp2
 exact bodyPost_ret (v := .agg #[.int .i64 x.code, .int .i64 x.index, .int .i64 x.mark, .string x.data]) (by simp [results, go_sem]) rfl ⟨rfl, _, _, _, rfl⟩
set_option maxHeartbeats 400000 in
theorem toSession (x : Ses) (w : World) : Calls Tryz.prog 76 #[vSes x] w fun e w' => e = .returned (vSes x) ∧ Below w.heap.size w w' := by
 unfold vSes
 have c1 := fun wx => toAnswerX x.ans wx
 unfold vAns Ses.ans at c1
 simp only at c1
 go_enter Tryz.func76, Tryz.ntmps76
 go_wp2_with fail
 refine (c1 _).mono ?_
 rintro e w1 ⟨rfl, oa, ob, oc, rfl⟩
 go_wp2_with fail
 exact bodyPost_ret (v := .agg #[.int .i64 x.client, .int .i64 x.serial, .int .i64 x.code, .int .i64 x.index, .int .i64 x.mark, .string x.data]) (by simp [results, go_sem]) rfl ⟨rfl, below_s6 _ _ _ _ _ _ _⟩
theorem Tryz.infoSes : (Tryz.prog.info? 73).map (fun i => (i.zero, i.size, i.bytes)) = some (some (.agg #[.int .i64 0, .int .i64 0, .int .i64 0, .int .i64 0, .int .i64 0, .string ⟨#[]⟩]), 6, 56) := by kernel_rfl
def sesZ : List Value := [.int .i64 0, .int .i64 0, .int .i64 0, .int .i64 0, .int .i64 0, .string ⟨#[]⟩]
theorem ses_made (n : Nat) : madeCells #[.int .i64 0, .int .i64 0, .int .i64 0, .int .i64 0, .int .i64 0, .string ⟨#[]⟩] (n * 6) = (List.replicate n sesZ).flatten.toArray := by
 apply Array.ext'
 rw [List.toList_toArray]
 apply List.ext_getElem?
 intro k
 have hz : ∀ r ∈ List.replicate n sesZ, r.length = 6 := fun r hr => by rw [List.eq_of_mem_replicate hr]; rfl
 by_cases hk : k < n * 6
 ·have e : k = k / 6 * 6 + k % 6 := by omega
  have hf : k % 6 < 6 := Nat.mod_lt _ (by omega)
  have hj : k / 6 < n := Nat.div_lt_of_lt_mul (by omega)
  have := flat_at 6 (List.replicate n sesZ) hz (k / 6) (k % 6) (by simpa using hj) hf
  rw [← e] at this
  have hr : (List.replicate n sesZ)[k / 6]'(by simpa using hj) = sesZ := by simp
  rw [this, hr]
  have hs : (madeCells #[.int .i64 0, .int .i64 0, .int .i64 0, .int .i64 0, .int .i64 0, .string ⟨#[]⟩] (n * 6)).toList[k]? = some (#[.int .i64 0, .int .i64 0, .int .i64 0, .int .i64 0, .int .i64 0, .string ⟨#[]⟩].getD (k % 6) default) := by simp [madeCells, hk]
  rw [hs]
  have : k % 6 = 0 ∨ k % 6 = 1 ∨ k % 6 = 2 ∨ k % 6 = 3 ∨ k % 6 = 4 ∨ k % 6 = 5 := by omega
  rcases this with h | h | h | h | h | h <;> rw [h] <;> rfl
 ·have hl : (List.replicate n sesZ).flatten.length = n * 6 := by rw [flat_length 6 _ hz]; simp
  have hr : (List.replicate n sesZ).flatten[k]? = none := List.getElem?_eq_none (by omega)
  rw [hr]
  apply List.getElem?_eq_none
  rw [Array.length_toList, size_madeCells]
  omega
set_option maxHeartbeats 1000000 in
theorem toSessionS (l : List Ses) (v : Value) (w : World) (B : Nat) (hv : Lies w B 6 v (sesR l)) (hn : l.length ≤ 1048576) (hB : B ≤ w.heap.size) :
  Calls Tryz.prog 37 #[v] w fun e w' => ∃ u, e = .returned u ∧ Owns w' w.heap.size 73 6 u (sesR l) ∧ Below w.heap.size w w' := by
 obtain ⟨A, cap, rfl, hl⟩ := ses_look hv
 have HL : Hid (∀ j, j < l.length → ∃ g off, A = some ⟨g, off, none⟩ ∧ g < B ∧ _) := hl
 have HB : Hid (B ≤ w.heap.size) := hB
 clear hl hB hv
 have q1 : (l.length : Int) ≤ 1048576 := by omega
 generalize hN : l.length = n at *
 obtain ⟨i0, hi, hz0, hz1, hz2⟩ := info_parts Tryz.infoSes
 have hmk : ∀ wx : World, (Instr.makeSlice 36 (.int .i64 (n : Int)) (.int .i64 (n : Int))).run Tryz.prog wx = .ok (.slice (some ⟨wx.heap.size, 0, none⟩) n n) (wx.alloc (.cells (List.replicate n sesZ).flatten.toArray 73)) := fun wx => by
  have h := run_make (P := Tryz.prog) wx 36 73 i0 _ Tryz.underlying36 hi hz0 .i64 .i64 (n : Int) (n : Int) (by omega) (by omega) (by rw [hz2]; omega) (by omega)
  rw [hz1] at h
  have e : (Value.agg #[.int .i64 0, .int .i64 0, .int .i64 0, .int .i64 0, .int .i64 0, .string ⟨#[]⟩]).cells = #[.int .i64 0, .int .i64 0, .int .i64 0, .int .i64 0, .int .i64 0, .string ⟨#[]⟩] := rfl
  rw [e, Int.toNat_natCast, ses_made] at h
  exact h
 clear hi hz0 hz1 hz2
 go_enter Tryz.func37, Tryz.ntmps37
 go_wp2_with fail
 go_loopw [4] (fun v4 wr => ∃ k : Nat, k ≤ n ∧ v4 = .int .i64 (k : Int) ∧ Owns wr w.heap.size 73 6 (.slice (some ⟨w.heap.size, 0, none⟩) n n) (sesR (l.take k) ++ List.replicate (n - k) sesZ) ∧ Below w.heap.size w wr) (fun i _ => n - (intOf i).toNat)
 case atStart =>
  refine ⟨0, by omega, rfl, ?_, (Below.refl _ _).alloc (Nat.le_refl _) _⟩
  rw [List.take_zero, Nat.sub_zero, show sesR [] = [] from rfl, List.nil_append]
  refine ⟨fun r hr => by rw [List.eq_of_mem_replicate hr]; rfl, ?_⟩
  have hz : ∀ r ∈ List.replicate n sesZ, r.length = 6 := fun r hr => by rw [List.eq_of_mem_replicate hr]; rfl
  have hl := flat_length 6 (List.replicate n sesZ) hz
  rw [List.length_replicate] at hl ⊢
  exact World.ownsRow_lit w (List.replicate n sesZ).flatten.toArray n (Nat.le_refl _) (by unfold maxLen; omega) (by simpa using hl)
 case round =>
  obtain ⟨k, hk, rfl, hO, hb⟩ := hrel
  have HO : Hid (Owns wr w.heap.size 73 6 (.slice (some ⟨w.heap.size, 0, none⟩) n n) (sesR (l.take k) ++ List.replicate (n - k) sesZ)) := hO
  have HB1 : Hid (Below w.heap.size w wr) := hb
  clear hO hb
  by_cases hlt : k < n
  ·have q4 : (k : Int) < (n : Int) := by omega
   obtain ⟨g, off, rfl, hg, hc0, hc1, hc2, hc3, hc4, hc5⟩ := HL.out k (by omega)
   have hgw : g < w.heap.size := Nat.lt_of_lt_of_le hg HB.out
   rw [← HB1.out.cell (p := ⟨_, _, none⟩) hgw] at hc0
   rw [← HB1.out.cell (p := ⟨_, _, none⟩) hgw] at hc1
   rw [← HB1.out.cell (p := ⟨_, _, none⟩) hgw] at hc2
   rw [← HB1.out.cell (p := ⟨_, _, none⟩) hgw] at hc3
   rw [← HB1.out.cell (p := ⟨_, _, none⟩) hgw] at hc4
   rw [← HB1.out.cell (p := ⟨_, _, none⟩) hgw] at hc5
   have c1 := fun wx => toSession (l.getD k default) wx
   unfold vSes at c1
   generalize hx : l.getD k default = x at *
   have HX : Hid (l.getD k default = x) := hx
   clear hx
   go_wp2_with fail
   refine (c1 _).mono ?_
   rintro e w2 ⟨rfl, hb2⟩
   have hlen : (sesR (l.take k) ++ List.replicate (n - k) sesZ).length = n := by rw [List.length_append, List.length_replicate]; simp [sesR]; omega
   have hdl : (sesR (l.take k)).length = k := by simp [sesR]; omega
   have hO2 := HO.out.on hb2
   have hO3 := hO2
   rw [show (Value.slice (some ⟨w.heap.size, 0, none⟩) n n) = .slice (some ⟨w.heap.size, 0, none⟩) (sesR (l.take k) ++ List.replicate (n - k) sesZ).length n by rw [hlen]] at hO2
   obtain ⟨y0, d0⟩ := hO2.cellX k 0 (by rw [hlen]; exact hlt) (by omega)
   have f0 := hO2.free (k * 6)
   obtain ⟨y1, d1⟩ := hO2.cellX k 1 (by rw [hlen]; exact hlt) (by omega)
   have f1 := hO2.free (k * 6 + 1)
   obtain ⟨y2, d2⟩ := hO2.cellX k 2 (by rw [hlen]; exact hlt) (by omega)
   have f2 := hO2.free (k * 6 + 2)
   obtain ⟨y3, d3⟩ := hO2.cellX k 3 (by rw [hlen]; exact hlt) (by omega)
   have f3 := hO2.free (k * 6 + 3)
   obtain ⟨y4, d4⟩ := hO2.cellX k 4 (by rw [hlen]; exact hlt) (by omega)
   have f4 := hO2.free (k * 6 + 4)
   obtain ⟨y5, d5⟩ := hO2.cellX k 5 (by rw [hlen]; exact hlt) (by omega)
   have f5 := hO2.free (k * 6 + 5)
   rw [Nat.add_zero] at d0
   have hP := hO2.put6 k (by rw [hlen]; exact hlt) (.int .i64 x.client) (.int .i64 x.serial) (.int .i64 x.code) (.int .i64 x.index) (.int .i64 x.mark) (.string x.data)
   rw [hlen, fill_step _ _ _ n k hdl hlt, show sesR (l.take k) ++ [[.int .i64 x.client, .int .i64 x.serial, .int .i64 x.code, .int .i64 x.index, .int .i64 x.mark, .string x.data]] = sesR (l.take (k + 1)) by rw [sesR_snoc l k (by omega), HX.out]; rfl] at hP
   have HP : Hid (Owns (((((((w2).setCell ⟨w.heap.size, k * 6, none⟩ (.int .i64 x.client)).setCell ⟨w.heap.size, k * 6 + 1, none⟩ (.int .i64 x.serial)).setCell ⟨w.heap.size, k * 6 + 2, none⟩ (.int .i64 x.code)).setCell ⟨w.heap.size, k * 6 + 3, none⟩ (.int .i64 x.index)).setCell ⟨w.heap.size, k * 6 + 4, none⟩ (.int .i64 x.mark)).setCell ⟨w.heap.size, k * 6 + 5, none⟩ (.string x.data)) w.heap.size 73 6 (.slice (some ⟨w.heap.size, 0, none⟩) n n) (sesR (l.take (k + 1)) ++ List.replicate (n - (k + 1)) sesZ)) := hP
   have HB2 : Hid (Below w.heap.size w w2) := HB1.out.trans (hb2.mono HB1.out.size)
   clear hO2 hO3 hP hb2 hlen hdl
   go_wp2_with fail
   go_roundw
   case rel => exact ⟨k + 1, by omega, by go_num, HP.out, ((((((HB2.out).setCell (Nat.le_refl _) _).setCell (Nat.le_refl _) _).setCell (Nat.le_refl _) _).setCell (Nat.le_refl _) _).setCell (Nat.le_refl _) _).setCell (Nat.le_refl _) _⟩
   case measure => simp [intOf]; omega
  ·obtain rfl : k = n := by omega
   go_wp2_with fail
   go_ret
   refine ⟨_, rfl, ?_, HB1.out⟩
   have := HO.out
   rw [← hN, List.take_length, Nat.sub_self, List.replicate_zero, List.append_nil] at this
   rw [← hN]
   exact this
set_option maxHeartbeats 400000 in
theorem eqAnswer (x : Ans) (w : World) : Calls Tryz.prog 114 #[vAns x, vAns x] w fun e w' => e = .returned (.bool true) ∧ Below w.heap.size w w' := by
 unfold vAns
 go_enter Tryz.func114, Tryz.ntmps114
 go_wp2
 go_ret
 exact ⟨rfl, below_s2 _ _ _⟩
set_option maxHeartbeats 400000 in
theorem eqSession (x : Ses) (w : World) : Calls Tryz.prog 81 #[vSes x, vSes x] w fun e w' => e = .returned (.bool true) ∧ Below w.heap.size w w' := by
 unfold vSes
 have c1 := fun wx => eqAnswer x.ans wx
 unfold vAns Ses.ans at c1
 simp only at c1
 have HB := fun a b => below_s2 w a b
 go_enter Tryz.func81, Tryz.ntmps81
 go_wp2_with fail
 refine (c1 _).mono ?_
 rintro e w1 ⟨rfl, hb⟩
 have B1 : Hid (Below w.heap.size w w1) := (HB _ _).trans (hb.mono (HB _ _).size)
 clear hb HB
 go_wp2_with fail
 go_ret
 exact ⟨rfl, B1.out⟩
set_option maxHeartbeats 1000000 in
theorem eqSessionS (l : List Ses) (va vb : Value) (w : World) (B : Nat) (ha : Lies w B 6 va (sesR l)) (hb : Lies w B 6 vb (sesR l)) (hn : l.length ≤ 1048576) (hB : B ≤ w.heap.size) :
  Calls Tryz.prog 42 #[va, vb] w fun e w' => e = .returned (.bool true) ∧ Below w.heap.size w w' := by
 obtain ⟨A, cap, rfl, hl⟩ := ses_look ha
 obtain ⟨A', cap', rfl, hl'⟩ := ses_look hb
 have HL : Hid (∀ j, j < l.length → ∃ g off, A = some ⟨g, off, none⟩ ∧ g < B ∧ _) := hl
 have HL' : Hid (∀ j, j < l.length → ∃ g off, A' = some ⟨g, off, none⟩ ∧ g < B ∧ _) := hl'
 have HB : Hid (B ≤ w.heap.size) := hB
 clear hl hl' hB ha hb
 have q1 : (l.length : Int) ≤ 1048576 := by omega
 generalize hN : l.length = n at *
 go_enter Tryz.func42, Tryz.ntmps42
 go_wp2_with fail
 go_loopw [5] (fun v5 wr => ∃ k : Nat, k ≤ n ∧ v5 = .int .i64 (k : Int) ∧ Below w.heap.size w wr) (fun i _ => n - (intOf i).toNat)
 case atStart => exact ⟨0, by omega, rfl, Below.refl _ _⟩
 case round =>
  obtain ⟨k, hk, rfl, hb⟩ := hrel
  have HB1 : Hid (Below w.heap.size w wr) := hb
  clear hb
  by_cases hlt : k < n
  ·have q4 : (k : Int) < (n : Int) := by omega
   obtain ⟨g, off, rfl, hg, ha0, ha1, ha2, ha3, ha4, ha5⟩ := HL.out k hlt
   obtain ⟨g', off', rfl, hg', hb0, hb1, hb2, hb3, hb4, hb5⟩ := HL'.out k hlt
   have hgw : g < w.heap.size := Nat.lt_of_lt_of_le hg HB.out
   have hgw' : g' < w.heap.size := Nat.lt_of_lt_of_le hg' HB.out
   rw [← HB1.out.cell (p := ⟨_, _, none⟩) hgw] at ha0
   rw [← HB1.out.cell (p := ⟨_, _, none⟩) hgw'] at hb0
   rw [← HB1.out.cell (p := ⟨_, _, none⟩) hgw] at ha1
   rw [← HB1.out.cell (p := ⟨_, _, none⟩) hgw'] at hb1
   rw [← HB1.out.cell (p := ⟨_, _, none⟩) hgw] at ha2
   rw [← HB1.out.cell (p := ⟨_, _, none⟩) hgw'] at hb2
   rw [← HB1.out.cell (p := ⟨_, _, none⟩) hgw] at ha3
   rw [← HB1.out.cell (p := ⟨_, _, none⟩) hgw'] at hb3
   rw [← HB1.out.cell (p := ⟨_, _, none⟩) hgw] at ha4
   rw [← HB1.out.cell (p := ⟨_, _, none⟩) hgw'] at hb4
   rw [← HB1.out.cell (p := ⟨_, _, none⟩) hgw] at ha5
   rw [← HB1.out.cell (p := ⟨_, _, none⟩) hgw'] at hb5
   have c1 := fun wx => eqSession (l.getD k default) wx
   unfold vSes at c1
   generalize l.getD k default = x at *
   have hsz := HB1.out.size
   go_wp2_with fail
   go_region_with (go_at_call 81; refine (c1 _).mono ?_; rintro e w1 ⟨rfl, hb1⟩)
   all_goals go_wp2_with fail
   all_goals exact ⟨⟨k + 1, by omega, by go_num, HB1.out.trans (((Below.refl _ wr).drew.trans hb1).mono hsz)⟩, by simp [intOf]; omega⟩
  ·obtain rfl : k = n := by omega
   go_wp2_with fail
   go_ret
   exact ⟨rfl, HB1.out⟩
end Go.Proofs.YtikknmoeefipmaaGreatDoor
namespace Go.Proofs.YtikknmoeefipmaaGreatDoor
open Go.ChangeShapes Go.WideShapes Go.ChangeAt Go.RowKit Go.PlainAid
set_option linter.unusedVariables false
set_option maxHeartbeats 400000 in
theorem szBucketS (l : List Pnt) (v : Value) (left : Int) (w : World) (B : Nat) (hv : Lies w B 2 v (ptR l)) (hn : l.length ≤ maxLen) (h0 : 0 ≤ left) (h1 : left ≤ 1048576) :
  Calls Tryz.prog 28 #[v, .int .i64 left] w fun e w' => (∃ r : Int, e = .returned (.int .i64 r) ∧ Hid (r = -1 ∨ 0 ≤ r ∧ r + (l.length : Int) = left)) ∧ w = w' := by
 unfold maxLen at hn
 obtain ⟨A, cap, rfl, _⟩ := pt_look hv
 clear hv
 generalize l.length = n at *
 have q1 : (n : Int) ≤ 9223372036854775807 := by omega
 have w2 : wrap64 (left - (n : Int)) = left - (n : Int) := by unfold wrap64; omega
 by_cases hl : left < (n : Int)
 ·have q2 : left - (n : Int) < 0 := by omega
  go_enter Tryz.func28, Tryz.ntmps28
  go_wp2
  go_ret
  exact ⟨⟨_, rfl, .inl rfl⟩, rfl⟩
 ·have HL : Hid ((n : Int) ≤ left) := by unfold Hid; omega
  have q2 : 0 ≤ left - (n : Int) := by omega
  have q3 : decide (left - (n : Int) < 0) = false := decide_eq_false (by omega)
  go_enter Tryz.func28, Tryz.ntmps28
  go_wp2
  go_ret
  exact ⟨⟨_, rfl, .inr ⟨by have := HL.out; omega, by omega⟩⟩, rfl⟩
set_option maxHeartbeats 400000 in
theorem toBucket (x : Pnt) (w : World) : Calls Tryz.prog 75 #[vPt x] w fun e w' => e = .returned (vPt x) ∧ Below w.heap.size w w' := by
 unfold vPt
 go_enter Tryz.func75, Tryz.ntmps75
 go_wp2
 exact bodyPost_ret (v := .agg #[.int .i64 x.t, .int .i64 x.v]) (by simp [results, go_sem]) rfl ⟨rfl, below_alloc3 _ _ _ _⟩
theorem Tryz.infoBk : (Tryz.prog.info? 67).map (fun i => (i.zero, i.size, i.bytes)) = some (some (.agg #[.int .i64 0, .int .i64 0]), 2, 16) := by kernel_rfl
set_option maxHeartbeats 1000000 in
theorem toBucketS (l : List Pnt) (v : Value) (w : World) (B : Nat) (hv : Lies w B 2 v (ptR l)) (hn : l.length ≤ 1048576) (hB : B ≤ w.heap.size) :
  Calls Tryz.prog 36 #[v] w fun e w' => ∃ u, e = .returned u ∧ Owns w' w.heap.size 67 2 u (ptR l) ∧ Below w.heap.size w w' := by
 obtain ⟨A, cap, rfl, hl⟩ := pt_look hv
 have HL : Hid (∀ j, j < l.length → ∃ g off, A = some ⟨g, off, none⟩ ∧ g < B ∧ _) := hl
 have HB : Hid (B ≤ w.heap.size) := hB
 clear hl hB hv
 have q1 : (l.length : Int) ≤ 1048576 := by omega
 generalize hN : l.length = n at *
 obtain ⟨i0, hi, hz0, hz1, hz2⟩ := info_parts Tryz.infoBk
 have hmk : ∀ wx : World, (Instr.makeSlice 32 (.int .i64 (n : Int)) (.int .i64 (n : Int))).run Tryz.prog wx = .ok (.slice (some ⟨wx.heap.size, 0, none⟩) n n) (wx.alloc (.cells (List.replicate n ptZ).flatten.toArray 67)) := fun wx => by
  have h := run_make (P := Tryz.prog) wx 32 67 i0 _ Tryz.underlying32 hi hz0 .i64 .i64 (n : Int) (n : Int) (by omega) (by omega) (by rw [hz2]; omega) (by omega)
  rw [hz1] at h
  have e : (Value.agg #[.int .i64 0, .int .i64 0]).cells = #[.int .i64 0, .int .i64 0] := rfl
  rw [e, Int.toNat_natCast, pt_made] at h
  exact h
 clear hi hz0 hz1 hz2
 go_enter Tryz.func36, Tryz.ntmps36
 go_wp2_with fail
 go_loopw [4] (fun v4 wr => ∃ k : Nat, k ≤ n ∧ v4 = .int .i64 (k : Int) ∧ Owns wr w.heap.size 67 2 (.slice (some ⟨w.heap.size, 0, none⟩) n n) (ptR (l.take k) ++ List.replicate (n - k) ptZ) ∧ Below w.heap.size w wr) (fun i _ => n - (intOf i).toNat)
 case atStart =>
  refine ⟨0, by omega, rfl, ?_, (Below.refl _ _).alloc (Nat.le_refl _) _⟩
  rw [List.take_zero, Nat.sub_zero, show ptR [] = [] from rfl, List.nil_append]
  refine ⟨fun r hr => by rw [List.eq_of_mem_replicate hr]; rfl, ?_⟩
  have hz : ∀ r ∈ List.replicate n ptZ, r.length = 2 := fun r hr => by rw [List.eq_of_mem_replicate hr]; rfl
  have hl := flat_length 2 (List.replicate n ptZ) hz
  rw [List.length_replicate] at hl ⊢
  exact World.ownsRow_lit w (List.replicate n ptZ).flatten.toArray n (Nat.le_refl _) (by unfold maxLen; omega) (by simpa using hl)
 case round =>
  obtain ⟨k, hk, rfl, hO, hb⟩ := hrel
  have HO : Hid (Owns wr w.heap.size 67 2 (.slice (some ⟨w.heap.size, 0, none⟩) n n) (ptR (l.take k) ++ List.replicate (n - k) ptZ)) := hO
  have HB1 : Hid (Below w.heap.size w wr) := hb
  clear hO hb
  by_cases hlt : k < n
  ·have q4 : (k : Int) < (n : Int) := by omega
   obtain ⟨g, off, rfl, hg, hc0, hc1⟩ := HL.out k (by omega)
   have hgw : g < w.heap.size := Nat.lt_of_lt_of_le hg HB.out
   rw [← HB1.out.cell (p := ⟨_, _, none⟩) hgw] at hc0
   rw [← HB1.out.cell (p := ⟨_, _, none⟩) hgw] at hc1
   have c1 := fun wx => toBucket (l.getD k default) wx
   unfold vPt at c1
   generalize hx : l.getD k default = x at *
   have HX : Hid (l.getD k default = x) := hx
   clear hx
   go_wp2_with fail
   refine (c1 _).mono ?_
   rintro e w2 ⟨rfl, hb2⟩
   have hlen : (ptR (l.take k) ++ List.replicate (n - k) ptZ).length = n := by rw [List.length_append, List.length_replicate]; simp [ptR]; omega
   have hdl : (ptR (l.take k)).length = k := by simp [ptR]; omega
   have hO2 := HO.out.on hb2
   have hO3 := hO2
   rw [show (Value.slice (some ⟨w.heap.size, 0, none⟩) n n) = .slice (some ⟨w.heap.size, 0, none⟩) (ptR (l.take k) ++ List.replicate (n - k) ptZ).length n by rw [hlen]] at hO2
   obtain ⟨y0, d0⟩ := hO2.cellX k 0 (by rw [hlen]; exact hlt) (by omega)
   have f0 := hO2.free (k * 2)
   obtain ⟨y1, d1⟩ := hO2.cellX k 1 (by rw [hlen]; exact hlt) (by omega)
   have f1 := hO2.free (k * 2 + 1)
   rw [Nat.add_zero] at d0
   have hP := hO2.put2 k (by rw [hlen]; exact hlt) (.int .i64 x.t) (.int .i64 x.v)
   rw [hlen, fill_step _ _ _ n k hdl hlt, show ptR (l.take k) ++ [[.int .i64 x.t, .int .i64 x.v]] = ptR (l.take (k + 1)) by rw [ptR_snoc l k (by omega), HX.out]; rfl] at hP
   have HP : Hid (Owns (((w2).setCell ⟨w.heap.size, k * 2, none⟩ (.int .i64 x.t)).setCell ⟨w.heap.size, k * 2 + 1, none⟩ (.int .i64 x.v)) w.heap.size 67 2 (.slice (some ⟨w.heap.size, 0, none⟩) n n) (ptR (l.take (k + 1)) ++ List.replicate (n - (k + 1)) ptZ)) := hP
   have HB2 : Hid (Below w.heap.size w w2) := HB1.out.trans (hb2.mono HB1.out.size)
   clear hO2 hO3 hP hb2 hlen hdl
   go_wp2_with fail
   go_roundw
   case rel => exact ⟨k + 1, by omega, by go_num, HP.out, ((HB2.out).setCell (Nat.le_refl _) _).setCell (Nat.le_refl _) _⟩
   case measure => simp [intOf]; omega
  ·obtain rfl : k = n := by omega
   go_wp2_with fail
   go_ret
   refine ⟨_, rfl, ?_, HB1.out⟩
   have := HO.out
   rw [← hN, List.take_length, Nat.sub_self, List.replicate_zero, List.append_nil] at this
   rw [← hN]
   exact this
set_option maxHeartbeats 400000 in
theorem eqBucket (x : Pnt) (w : World) : Calls Tryz.prog 80 #[vPt x, vPt x] w fun e w' => e = .returned (.bool true) ∧ Below w.heap.size w w' := by
 unfold vPt
 go_enter Tryz.func80, Tryz.ntmps80
 go_wp2
 go_ret
 exact ⟨rfl, below_alloc2 _ _ _⟩
set_option maxHeartbeats 1000000 in
theorem eqBucketS (l : List Pnt) (va vb : Value) (w : World) (B : Nat) (ha : Lies w B 2 va (ptR l)) (hb : Lies w B 2 vb (ptR l)) (hn : l.length ≤ 1048576) (hB : B ≤ w.heap.size) :
  Calls Tryz.prog 41 #[va, vb] w fun e w' => e = .returned (.bool true) ∧ Below w.heap.size w w' := by
 obtain ⟨A, cap, rfl, hl⟩ := pt_look ha
 obtain ⟨A', cap', rfl, hl'⟩ := pt_look hb
 have HL : Hid (∀ j, j < l.length → ∃ g off, A = some ⟨g, off, none⟩ ∧ g < B ∧ _) := hl
 have HL' : Hid (∀ j, j < l.length → ∃ g off, A' = some ⟨g, off, none⟩ ∧ g < B ∧ _) := hl'
 have HB : Hid (B ≤ w.heap.size) := hB
 clear hl hl' hB ha hb
 have q1 : (l.length : Int) ≤ 1048576 := by omega
 generalize hN : l.length = n at *
 go_enter Tryz.func41, Tryz.ntmps41
 go_wp2_with fail
 go_loopw [5] (fun v5 wr => ∃ k : Nat, k ≤ n ∧ v5 = .int .i64 (k : Int) ∧ Below w.heap.size w wr) (fun i _ => n - (intOf i).toNat)
 case atStart => exact ⟨0, by omega, rfl, Below.refl _ _⟩
 case round =>
  obtain ⟨k, hk, rfl, hb⟩ := hrel
  have HB1 : Hid (Below w.heap.size w wr) := hb
  clear hb
  by_cases hlt : k < n
  ·have q4 : (k : Int) < (n : Int) := by omega
   obtain ⟨g, off, rfl, hg, ha0, ha1⟩ := HL.out k hlt
   obtain ⟨g', off', rfl, hg', hb0, hb1⟩ := HL'.out k hlt
   have hgw : g < w.heap.size := Nat.lt_of_lt_of_le hg HB.out
   have hgw' : g' < w.heap.size := Nat.lt_of_lt_of_le hg' HB.out
   rw [← HB1.out.cell (p := ⟨_, _, none⟩) hgw] at ha0
   rw [← HB1.out.cell (p := ⟨_, _, none⟩) hgw'] at hb0
   rw [← HB1.out.cell (p := ⟨_, _, none⟩) hgw] at ha1
   rw [← HB1.out.cell (p := ⟨_, _, none⟩) hgw'] at hb1
   have c1 := fun wx => eqBucket (l.getD k default) wx
   unfold vPt at c1
   generalize l.getD k default = x at *
   have hsz := HB1.out.size
   go_wp2_with fail
   go_region_with (go_at_call 80; refine (c1 _).mono ?_; rintro e w1 ⟨rfl, hb1⟩)
   all_goals go_wp2_with fail
   all_goals exact ⟨⟨k + 1, by omega, by go_num, HB1.out.trans (((Below.refl _ wr).drew.trans hb1).mono hsz)⟩, by simp [intOf]; omega⟩
  ·obtain rfl : k = n := by omega
   go_wp2_with fail
   go_ret
   exact ⟨rfl, HB1.out⟩
end Go.Proofs.YtikknmoeefipmaaGreatDoor
