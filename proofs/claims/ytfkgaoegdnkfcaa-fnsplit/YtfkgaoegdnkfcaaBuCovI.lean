/-
  Contract of impl.Cover: its buckets are an iterator that a range over a function takes (no condition).
-/
import Derived.RangeFuncNested
import Derived.RangeFuncBound
import Derived.RangeFuncCalls
import Derived.RangeFuncLeaves
import Derived.Shelf.Abstract
import Derived.Shelf.RegionOpen
import Derived.OwnWalkIn
import Derived.TacticsInMore
import Derived.LoopNIn
import Derived.LoopIn
import Derived.Maps.AppendAt
import Derived.Test.YtfkgaoegdnkfcaaBuCov
namespace Go.Proofs.Ytfkgaoegdnkfcaa
open Go.ChangeShapes Go.WideShapes Go.ChangeAt Go.RowKit Go.PlainAid Go.Shelf
set_option linter.unusedVariables false
attribute [local go_sem] Oper.semAt_some

/-- What a round that goes on keeps: the box of the last time. -/
def KeepsBox (Bl : Nat) (W W' : World) : Prop := ∀ v, Boxed W Bl 3 v → Boxed W' Bl 3 v
theorem keepsBox_t {Bl : Nat} {A B C : World} (h : KeepsBox Bl A B) (k : KeepsBox Bl B C) : KeepsBox Bl A C := fun v hv => k v (h v hv)
theorem keepsBox_b {Bl : Nat} (W : World) (l : Nat) (o o' : Obj) (hl : W.heap[l]? = some o) (hc : o.isCells = false) : KeepsBox Bl W (W.putObj l o') := fun v hv => by
  refine hv.kept (grownBy_putObj' W l o') (fun e => ?_)
  cases e
  rw [show W.heap[Bl]? = _ from hv] at hl
  cases hl
  cases hc

set_option maxRecDepth 100000 in
set_option maxHeartbeats 1000000 in
theorem buckets1_in (l Bf Bl : Nat) (f z : Int) (a b : Int) (n : Nat) (J Jx : List Int → World → Prop) (ha : bkt f = a) (hb : bkt z = b) (hn : (n : Int) = b - a + 1)
    (hY : ∀ pre x W, J pre W → pre.length < n → YieldAt Fence.wide 0 Try.prog l #[.int .i64 x] W fun e W' =>
      (e = .returned (.bool true) ∧ J (pre ++ [x]) W' ∧ KeepsBox Bl W W') ∨ (e = .returned (.bool false) ∧ Jx (pre ++ [x]) W'))
    (W : World) (hF : Boxed W Bf 3 (.int .i64 f)) (hL : Boxed W Bl 3 (.int .i64 z)) (h0 : J [] W) :
    CallsIn Fence.wide 1 Try.prog 47 #[.func (.yield l) #[] #[], .pointer (some ⟨Bf, 0, none⟩), .pointer (some ⟨Bl, 0, none⟩)] W fun e W' => (∃ v, e = .returned v) ∧
      ((∃ ys, ys = nfrom a n ∧ J ys W') ∨ (∃ pre, pre <+: nfrom a n ∧ Jx pre W')) := by
  have cF := implBucket f
  have cZ := implBucket z
  rw [ha] at cF
  rw [hb] at cZ
  have q1 := bkt_low f
  have q2 := bkt_high z
  have q3 := bkt_high f
  rw [ha] at q1 q3
  rw [hb] at q2
  have hcf := hF.cell
  refine callsIn_of_wp Try.func47 rfl trivial ?_ rfl
  simp only [Try.ntmps47, List.size_toArray, List.length_cons, List.length_nil, Nat.reduceAdd, Nat.reduceSub, Array.replicate_succ, Array.replicate_zero, List.push_toArray, List.append_toArray, List.nil_append, List.cons_append]
  gi_wp2_with (refine ⟨trivial, ?_⟩; gi_at_call 11; refine (callsIn_wide.2 (cF _)).mono ?_; rintro _ _ ⟨rfl, rfl⟩)
  gi_loopw [4] (fun v wr => ∃ k : Nat, k ≤ n ∧ v = .int .i64 (a + (k : Int)) ∧ J (nfrom a k) wr ∧ Boxed wr Bl 3 (.int .i64 z)) (fun v _ => (b + 1 - intOf v).toNat)
  case atStart => exact ⟨0, by omega, by simp, h0, hL⟩
  case round =>
    obtain ⟨k, hk, rfl, hJs, hLr⟩ := hrel
    have hcl := hLr.cell
    by_cases hlt : a + (k : Int) ≤ b
    · obtain ⟨fn, tmps, assign, body, hy, hR⟩ := hY (nfrom a k) (a + (k : Int)) wr hJs (by rw [nfrom_length]; omega)
      have g3 : IntKind.i64.wrap (a + (k : Int) + 1) = a + (k : Int) + 1 := by rw [IntKind.wrap_i64]; omega
      gi_wp2_with (refine ⟨trivial, ?_⟩; gi_at_call 11; refine (callsIn_wide.2 (cZ _)).mono ?_; rintro _ _ ⟨rfl, rfl⟩)
      refine hR.mono ?_
      rintro e W3 (⟨rfl, hJ3, hk3⟩ | ⟨rfl, hJx3⟩)
      · gi_wp2
        go_roundw
        case rel => exact ⟨k + 1, by omega, by push_cast; rw [Int.add_assoc], by rw [nfrom_succ]; exact hJ3, hk3 _ hLr⟩
        case measure => simp [intOf]; omega
      · gi_wp2
        refine bodyPost_ret (results_none rfl _ _ _) rfl ?_
        exact ⟨⟨_, rfl⟩, .inr ⟨nfrom a k ++ [a + (k : Int)], by rw [← nfrom_succ]; exact nfrom_pre a (k + 1) n (by omega), hJx3⟩⟩
    · obtain rfl : k = n := by omega
      gi_wp2_with (refine ⟨trivial, ?_⟩; gi_at_call 11; refine (callsIn_wide.2 (cZ _)).mono ?_; rintro _ _ ⟨rfl, rfl⟩)
      go_end0
      exact ⟨⟨_, rfl⟩, .inl ⟨_, rfl, hJs⟩⟩

set_option maxHeartbeats 1000000 in
theorem buckets_in (f z : Int) (n : Nat) (w : World) :
    CallsIn Fence.wide n Try.prog 38 #[.int .i64 f, .int .i64 z] w fun e w' => e = .returned (.func (.func 47) #[] #[.pointer (some ⟨w.heap.size, 0, none⟩), .pointer (some ⟨w.heap.size + 1, 0, none⟩)]) ∧ w' = (w.alloc (.cells #[.int .i64 f] 3)).alloc (.cells #[.int .i64 z] 3) := by
  refine callsIn_of_wp Try.func38 rfl trivial ?_ rfl
  simp only [Try.ntmps38, List.size_toArray, List.length_cons, List.length_nil, Nat.reduceAdd, Nat.reduceSub, Array.replicate_succ, Array.replicate_zero, List.push_toArray, List.append_toArray, List.nil_append, List.cons_append]
  gi_wp2
  go_ret
  exact ⟨by simp, rfl⟩

theorem buckets_stops (Bf Bl : Nat) (f z : Int) (a b : Int) (n : Nat) (w : World) (ha : bkt f = a) (hb : bkt z = b) (hn : (n : Int) = b - a + 1) (hF : Boxed w Bf 3 (.int .i64 f)) (hL : Boxed w Bl 3 (.int .i64 z)) :
    SeqStopsK Fence.wide 1 Try.prog 47 #[.pointer (some ⟨Bf, 0, none⟩), .pointer (some ⟨Bl, 0, none⟩)] (fun x : Int => #[Value.int .i64 x]) (KeepsBox Bl) (fun ys => ys = nfrom a n) (fun pre => pre <+: nfrom a n) n w := fun l J Jx W hW _ _ hY h0 =>
  buckets1_in l Bf Bl f z a b n J Jx ha hb hn hY W ((hW.block Bf hF.lt).trans hF) ((hW.block Bl hL.lt).trans hL) h0

theorem Try.infoIntC : (Try.prog.info? 3).map (fun i => (i.zero, i.size, i.bytes)) = some (some (.int .i64 0), 1, 8) := by kernel_rfl

set_option maxRecDepth 100000 in
set_option maxHeartbeats 2000000 in
theorem implCover_in (f t : Int) (w : World) (h0 : 0 ≤ f) (h1 : f < t) (h2 : t ≤ 1099511627776) :
    CallsIn Fence.wide 2 Try.prog 13 #[.int .i64 f, .int .i64 t] w fun e w' => ∃ u, e = .returned u ∧ Nums w' w.heap.size u (cov f t) ∧ Below w.heap.size w w' := by
  have e0 : cov f t = if 8 ≤ (t - 1) / 100 - f / 100 then [] else nfrom (f / 100) ((t - 1) / 100 - f / 100 + 1).toNat := if_neg (by omega)
  have h0' : decide (f < 0) = false := by simp; omega
  have h1' : decide (t ≤ f) = false := by simp; omega
  have h2' : decide (1099511627776 < t) = false := by simp; omega
  have hA : bkt f = f / 100 := bkt_in (by omega) (by omega)
  have hB : bkt (t - 1) = (t - 1) / 100 := bkt_in (by omega) (by omega)
  have g0 : IntKind.i64.wrap (t - 1) = t - 1 := by rw [IntKind.wrap_i64]; omega
  have g1 : (0 : Int) ≤ f / 100 ∧ f / 100 ≤ (t - 1) / 100 ∧ (t - 1) / 100 ≤ 10995116277 := by omega
  rw [e0]
  clear e0
  generalize f / 100 = a at *
  generalize (t - 1) / 100 = b at *
  obtain ⟨n, hn⟩ : ∃ n : Nat, (n : Int) = b - a + 1 := ⟨(b - a + 1).toNat, by omega⟩
  have hn' : (b - a + 1).toNat = n := by omega
  rw [hn']
  obtain ⟨L, hL⟩ : ∃ L, L = (if 8 ≤ b - a then ([] : List Int) else nfrom a n) := ⟨_, rfl⟩
  have hL1 : n ≤ 8 → L = nfrom a n := fun h => hL.trans (if_neg (by omega))
  have hL2 : 9 ≤ n → L = [] := fun h => hL.trans (if_pos (by omega))
  rw [← hL]
  clear hL
  obtain ⟨i0, hi, hz0, hz1, hz2⟩ := info_parts Try.infoIntC
  refine callsIn_of_wp_marks Try.func13 rfl trivial ?_ rfl
  simp only [Try.ntmps13, List.size_toArray, List.length_cons, List.length_nil, Nat.reduceAdd, Nat.reduceSub, Array.replicate_succ, Array.replicate_zero, List.push_toArray, List.append_toArray, List.nil_append, List.cons_append]
  gi_wp2_with (refine ⟨trivial, ?_⟩; gi_at_call 38; refine (buckets_in _ _ _ _).mono ?_; rintro e w' ⟨rfl, rfl⟩)
  have bR := (((Boxed.new w 36 (.slice none 0 0)).alloc (.cells #[.slice none 0 0] 36)).alloc (.cells #[.int .i64 f] 3)).alloc (.cells #[.int .i64 (t - 1)] 3)
  have bO := ((Boxed.new (w.alloc (.cells #[.slice none 0 0] 36)) 36 (.slice none 0 0)).alloc (.cells #[.int .i64 f] 3)).alloc (.cells #[.int .i64 (t - 1)] 3)
  have bF := (Boxed.new ((w.alloc (.cells #[.slice none 0 0] 36)).alloc (.cells #[.slice none 0 0] 36)) 3 (.int .i64 f)).alloc (.cells #[.int .i64 (t - 1)] 3)
  have bL := Boxed.new (((w.alloc (.cells #[.slice none 0 0] 36)).alloc (.cells #[.slice none 0 0] 36)).alloc (.cells #[.int .i64 f] 3)) 3 (.int .i64 (t - 1))
  simp only [World.size_alloc] at bO bF bL
  have hB0 : Below w.heap.size w ((((w.alloc (.cells #[.slice none 0 0] 36)).alloc (.cells #[.slice none 0 0] 36)).alloc (.cells #[.int .i64 f] 3)).alloc (.cells #[.int .i64 (t - 1)] 3)) :=
    ((((Below.refl _ w).alloc (Nat.le_refl _) _).alloc (by simp) _).alloc (by simp; omega) _).alloc (by simp; omega) _
  obtain ⟨W0, hW0⟩ : ∃ W0, W0 = (((w.alloc (.cells #[.slice none 0 0] 36)).alloc (.cells #[.slice none 0 0] 36)).alloc (.cells #[.int .i64 f] 3)).alloc (.cells #[.int .i64 (t - 1)] 3) := ⟨_, rfl⟩
  have hsz : W0.heap.size = w.heap.size + 4 := by rw [hW0]; simp
  rw [← hW0] at bR bO bF bL hB0 ⊢
  clear hW0
  refine wpIn_rangeFunc_ownG rfl (by omega) (gf := 47) (lb := #[.pointer (some ⟨w.heap.size + 1 + 1, 0, none⟩), .pointer (some ⟨w.heap.size + 1 + 1 + 1, 0, none⟩)]) rfl trivial (enters_of Try.func47 (by kernel_rfl) rfl)
    (buckets_stops (w.heap.size + 1 + 1) (w.heap.size + 1 + 1 + 1) f (t - 1) a b n W0 hA hB hn bF bL) keepsBox_t (fun W l o o' _ hl hc _ => keepsBox_b W l o o' hl hc) (Below.refl _ _) (fun _ => rfl)
    (fun pre W => (∃ v, Boxed W (w.heap.size + 1) 36 v ∧ W.ownsRow (w.heap.size + 4) 3 1 v pre.length (numCells pre) ∧ pre.length ≤ 8) ∧ (Boxed W w.heap.size 36 (.slice none 0 0) ∧ Below w.heap.size w W ∧ w.heap.size + 4 ≤ W.heap.size))
    (fun c pre W => (c = .ret ∧ pre.length = 9) ∧ (Boxed W w.heap.size 36 (.slice none 0 0) ∧ Below w.heap.size w W))
    (OwnFrom.and (Own.from (holdsRow_own (w.heap.size + 4) (w.heap.size + 1) 36 3 1 (fun pre : List Int => pre.length) (fun pre => numCells pre) (fun pre _ => pre.length ≤ 8)) _) (OwnFrom.and (Own.from (boxed_own _ _ _) _) (OwnFrom.and (ownFrom_below (Nat.le_refl _) (by rw [hsz]; omega)) (fun s X Y row hs hg hr => Nat.le_trans hs hg.size))))
    (fun c => OwnFrom.and (ownFrom_pure _ (fun pre : List Int => c = .ret ∧ pre.length = 9)) (OwnFrom.and (Own.from (boxed_own _ _ _) _) (ownFrom_below (Nat.le_refl _) (by rw [hsz]; omega))))
    ⟨⟨_, bO, World.ownsRow_nil _ _ _ _, by simp⟩, bR, hB0, by rw [hsz]; omega⟩
    (fun x => { tmps := #[.int .i64 f, .int .i64 t, undef, undef, .pointer (some ⟨w.heap.size, 0, none⟩), .pointer (some ⟨w.heap.size + 1, 0, none⟩), .int .i64 x, .int .i64 f, .bool false, .bool false, .int .i64 t, .int .i64 f, .bool false, .bool false, .bool false, .int .i64 t, .bool false, .bool false, .int .i64 f, .int .i64 t, .int .i64 (t - 1),
      .func (.func 47) #[] #[.pointer (some ⟨w.heap.size + 1 + 1, 0, none⟩), .pointer (some ⟨w.heap.size + 1 + 1 + 1, 0, none⟩)], .int .i64 x, undef, undef, undef, undef, undef, undef, undef, undef], defers := [] }) ?assign ?body ?done ?stop
  case assign =>
    intro l x W K hK
    gi_wp2
    exact hK
  case body =>
    rintro l pre x W ⟨⟨v, hv, hrow, h8⟩, hR, hB, hsW⟩ hlt
    have hc := hv.cell
    have hcr := hR.cell
    have hfr := hR.frozen
    have hN : Nums W (w.heap.size + 4) v pre := hrow
    obtain ⟨A, ca, rfl, _⟩ := hN.shape
    by_cases hp : pre.length = 8
    · have hp1 : ((pre.length : Int) == 8) = true := by rw [hp]; rfl
      gi_wp2
      exact ⟨(KeepsOthers.setCell _ _ _).from _, ⟨rfl, by simp [hp]⟩, hR.set _, hB.setCell (p := ⟨w.heap.size, 0, none⟩) (Nat.le_refl _) _⟩
    · have hp1 : ((pre.length : Int) == 8) = false := by simp; omega
      gi_wp2_with (gi_at_builtin; refine wpListIn_append_own _ rfl _ _ 36 rfl (w.heap.size + 4) 3 i0 (.int .i64 0) 1 8 Try.underlying36 hi hz0 hz1 hz2 rfl (by decide) _ _ _ rfl (hrow.alloc _) ⟨W.heap.size, 0, none⟩ 1 1 [.int .i64 x] rfl rfl (cell_one_new _ _ _) (by simp [Value.oneCell']) (by unfold maxLen; omega) (by omega) (by simp; omega) ?_; intro v' w1 hown' hgrow _; obtain ⟨g', cap', rfl⟩ := ownsRow_succ hown'; have hv1 := (hv.alloc (.cells #[.int .i64 x] 3)).kept hgrow (hv.not_row (by decide) hrow); have hc1 := hv1.cell; have hf1 := hv1.frozen)
      have hm : W.ownsRow w.heap.size 3 1 (.slice A pre.length ca) pre.length (numCells pre) := hN.mono (by omega)
      have hN' : Nums w1 (w.heap.size + 4) (.slice (some ⟨g', 0, none⟩) (pre.length + 1) cap') (pre ++ [x]) := by
        unfold Nums
        rw [List.length_append, numCells, List.map_append]
        exact hown'
      have hbk : ∀ k, (Value.slice A pre.length ca).ownBlock = some k → w.heap.size + 4 ≤ k := fun k hk => (hN.lt k hk).1
      have hg4 := (hN'.lt g' rfl).1
      obtain ⟨_, hv2, _, hk2, hb2⟩ := hv.appended (by decide) hm hB.size (by omega) (World.ownsRow.lt hown' |> fun _ => (hN'.mono (by omega) : Nums w1 w.heap.size _ _)) hgrow
      refine ⟨hk2.from _, fun u hu => ((hu.alloc _).kept hgrow (fun e => ?_)).other (by omega) _, ⟨_, hv2, ?_, by simp; omega⟩, ((hR.alloc _).kept hgrow (hR.not_row (by decide) hrow)).other (by omega) _, hB.trans hb2, Nat.le_trans hsW hb2.size⟩
      · have := hbk _ e.symm
        omega
      · exact hN'.other (by simp [Value.ownBlock]; omega) 0 _
  case done =>
    rintro D ys W hD rfl ⟨⟨v, hv, hrow, h8⟩, hR, hB, _⟩ hK
    rw [nfrom_length] at h8
    have hN : Nums W (w.heap.size + 4) v (nfrom a n) := hrow
    obtain ⟨A, ca, rfl, _⟩ := hN.shape
    have hc := hv.cell
    have hcr := hR.cell
    have hfr := hR.frozen
    gi_wp2
    have hK' := (KeepsOthers.setCell W ⟨w.heap.size, 0, none⟩ (.slice A (nfrom a n).length ca)).same D _ hK rfl
    refine ⟨by simp, .inl ⟨_, _, rfl, run_takeDeferred hK', ?_⟩⟩
    have hc5 := cell_kept (World.cell?_setCell_same' W ⟨w.heap.size, 0, none⟩ (.slice A (nfrom a n).length ca) (by rw [hcr]; rfl)) (grownBy_putObj' _ D (.deferred none)) (fun r e => by cases e; exact ⟨_, hK', rfl⟩)
    refine ⟨.slice A (nfrom a n).length ca, ?_, _, rfl, ?_, (hB.setCell (p := ⟨w.heap.size, 0, none⟩) (Nat.le_refl _) _).trans (belowK_b (w := w) (Nat.le_refl _) _ D _ _ (by omega) hK' rfl rfl)⟩
    · simp [results, Try.f13, go_sem, hc5]
    · rw [hL1 h8]
      exact ownsRow_putObj ((hN.other (fun e => by have := (hN.lt _ e).1; omega) 0 _).mono (by omega)) _ hK' rfl
  case stop =>
    rintro D c pre W hD hpre ⟨⟨rfl, h9⟩, hR, hB⟩ hK
    have hle := hpre.length_le
    rw [nfrom_length] at hle
    have hcr := hR.cell
    gi_wp2
    refine ⟨by simp, .inl ⟨_, _, rfl, run_takeDeferred hK, ?_⟩⟩
    have hc5 := cell_kept hcr (grownBy_putObj' _ D (.deferred none)) (fun r e => by cases e; exact ⟨_, hK, rfl⟩)
    refine ⟨.slice none 0 0, ?_, _, rfl, by rw [hL2 (by omega)]; exact Nums.nil _ _, hB.trans (belowK_b (w := w) (Nat.le_refl _) W D _ _ (by omega) hK rfl rfl)⟩
    simp [results, Try.f13, go_sem, hc5]

set_option maxHeartbeats 1000000 in
theorem implCover (f t : Int) (w : World) :
    Calls Try.prog 13 #[.int .i64 f, .int .i64 t] w fun e w' => ∃ u, e = .returned u ∧ Nums w' w.heap.size u (cov f t) ∧ Below w.heap.size w w' := by
  by_cases h0 : f < 0 ∨ t ≤ f ∨ 1099511627776 < t
  · have e : cov f t = [] := if_pos h0
    rw [e]
    have HB : Hid (Below w.heap.size w (w.alloc (.cells #[.slice none 0 0] 36))) := (Below.refl _ _).alloc (Nat.le_refl _) _
    by_cases h1 : f < 0
    · clear h0 e
      go_enter Try.func13, Try.ntmps13
      go_wp2
      exact bodyPost_ret (v := .slice none 0 0) (by simp [results, Try.f13, go_sem]) rfl ⟨_, rfl, Nums.nil _ _, HB.out⟩
    · have h1' : decide (f < 0) = false := by simp; omega
      by_cases h2 : t ≤ f
      · clear h0 e
        go_enter Try.func13, Try.ntmps13
        go_wp2
        exact bodyPost_ret (v := .slice none 0 0) (by simp [results, Try.f13, go_sem]) rfl ⟨_, rfl, Nums.nil _ _, HB.out⟩
      · have h2' : decide (t ≤ f) = false := by simp; omega
        have h3 : 1099511627776 < t := by omega
        clear h0 e
        go_enter Try.func13, Try.ntmps13
        go_wp2
        exact bodyPost_ret (v := .slice none 0 0) (by simp [results, Try.f13, go_sem]) rfl ⟨_, rfl, Nums.nil _ _, HB.out⟩
  · exact callsIn_wide.1 (implCover_in f t w (by omega) (by omega) (by omega))
end Go.Proofs.Ytfkgaoegdnkfcaa
