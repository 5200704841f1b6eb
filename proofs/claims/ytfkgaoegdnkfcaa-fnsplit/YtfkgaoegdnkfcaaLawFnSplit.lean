/-
  The walk of FnSplit.
-/
import Derived.Test.YtfkgaoegdnkfcaaRows
import Derived.Test.YtfkgaoegdnkfcaaBuDraw
import Derived.Test.YtfkgaoegdnkfcaaBuSplI
import Derived.Test.YtfkgaoegdnkfcaaBuCovI
import Derived.Test.YtfkgaoegdnkfcaaPtMath
import Derived.Test.YtfkgaoegdnkfcaaUntilS
namespace Go.Proofs.Ytfkgaoegdnkfcaa
open Go.ChangeShapes Go.WideShapes Go.ChangeAt Go.RowKit Go.PlainAid
set_option linter.unusedVariables false

theorem bkt_mono {a b : Int} (h0 : 0 ≤ a) (h1 : a ≤ b) (h2 : b ≤ 1099511627776) : bkt a ≤ bkt b := by
  rw [bkt_in h0 (by omega), bkt_in (by omega) h2]
  omega
theorem spl_mem (l : List Pnt) (x : Prt) (hx : x ∈ spl l) : ∃ p, p ∈ l ∧ bkt p.t = x.num := by
  have hk := spl_ok l
  obtain ⟨p, hp⟩ := List.exists_mem_of_ne_nil _ (hk.full x hx)
  refine ⟨p, ?_, hk.here x hx p hp⟩
  rw [← hk.flat]
  exact List.mem_flatMap.2 ⟨x, hx, hp⟩
/-- Buckets rise. -/
theorem spl_rise (l : List Pnt) : (l.Pairwise fun p q => p.t < q.t) → (∀ p ∈ l, 0 ≤ p.t ∧ p.t ≤ 1099511627776) → (spl l).Pairwise fun x y => x.num < y.num := by
  refine snocInd (P := fun l => (l.Pairwise fun p q => p.t < q.t) → (∀ p ∈ l, 0 ≤ p.t ∧ p.t ≤ 1099511627776) → (spl l).Pairwise fun x y => x.num < y.num) (fun _ _ => List.Pairwise.nil) ?_ l
  intro l p ih hr hb
  obtain ⟨h1, _, h2⟩ := List.pairwise_append.1 hr
  have ih := ih h1 (fun q hq => hb q (by simp [hq]))
  have hle : ∀ x ∈ spl l, x.num ≤ bkt p.t := fun x hx => by
    obtain ⟨q, hq, e⟩ := spl_mem l x hx
    have := h2 q hq p (by simp)
    rw [← e]
    exact bkt_mono (hb q (by simp [hq])).1 (by omega) (hb p (by simp)).2
  rw [spl_snoc]
  by_cases h : spl l = [] ∨ (lastP (spl l)).num ≠ bkt p.t
  · rw [step_new h]
    refine List.pairwise_append.2 ⟨ih, List.pairwise_singleton _ _, fun x hx y hy => ?_⟩
    rw [List.mem_singleton.1 hy]
    show x.num < bkt p.t
    have hx1 := hle x hx
    by_cases h0 : spl l = []
    · rw [h0] at hx; cases hx
    · obtain ⟨X, z, e⟩ := snoc_of h0
      have hz : z.num ≠ bkt p.t := by
        rcases h with h | h
        · exact (h0 h).elim
        · rw [e, lastP_snoc] at h; exact h
      rw [e] at ih hx hle
      rcases List.mem_append.1 hx with hx | hx
      · have := (List.pairwise_append.1 ih).2.2 x hx z (by simp)
        have := hle z (by simp)
        omega
      · rw [List.mem_singleton.1 hx] at hx1 ⊢
        omega
  · have h0 : spl l ≠ [] := fun e => h (.inl e)
    obtain ⟨X, z, e⟩ := snoc_of h0
    have hz : z.num = bkt p.t := by
      by_cases hh : z.num = bkt p.t
      · exact hh
      · exact (h (.inr (by rw [e, lastP_snoc]; exact hh))).elim
    rw [e] at ih ⊢
    rw [step_old hz]
    obtain ⟨i1, _, i2⟩ := List.pairwise_append.1 ih
    refine List.pairwise_append.2 ⟨i1, List.pairwise_singleton _ _, fun x hx y hy => ?_⟩
    rw [List.mem_singleton.1 hy]
    exact i2 x hx z (by simp)
theorem rise_get {a : List Prt} (h : a.Pairwise fun x y => x.num < y.num) (i : Nat) (hi : i + 1 < a.length) : (a.getD i default).num < (a.getD (i + 1) default).num := by
  rw [← getD_at a i (by omega), ← getD_at a (i + 1) hi]
  exact List.pairwise_iff_getElem.1 h i (i + 1) (by omega) hi (by omega)
theorem cov_cases (f t : Int) : cov f t = [] ∨ ∃ (a : Int) (n : Nat), cov f t = nfrom a (n + 1) ∧ bkt f = a ∧ bkt (t - 1) = a + (n : Int) ∧ n ≤ 7 ∧ 0 ≤ a ∧ a ≤ 10995116277 := by
  unfold cov
  split
  · exact .inl rfl
  · split
    · exact .inl rfl
    · right
      refine ⟨f / 100, ((t - 1) / 100 - f / 100).toNat, ?_, bkt_in (by omega) (by omega), ?_, by omega, by omega, by omega⟩
      · congr 1
        omega
      · rw [bkt_in (by omega) (by omega)]
        omega
theorem cov_facts (f t : Int) : (cov f t).length ≤ 8 ∧ (∀ k, k + 1 < (cov f t).length → (cov f t).getD (k + 1) 0 = (cov f t).getD k 0 + 1) ∧ (∀ k, k < (cov f t).length → 0 ≤ (cov f t).getD k 0 ∧ (cov f t).getD k 0 ≤ 20000000000) ∧ (0 < (cov f t).length → (cov f t).getD 0 0 = bkt f ∧ (cov f t).getD ((cov f t).length - 1) 0 = bkt (t - 1)) := by
  rcases cov_cases f t with h | ⟨a, n, h, h1, h2, h3, h4, h5⟩
  · rw [h]
    exact ⟨by simp, fun k hk => by simp at hk, fun k hk => by simp at hk, fun hk => by simp at hk⟩
  · rw [h, nfrom_length]
    refine ⟨by omega, fun k hk => ?_, fun k hk => ?_, fun _ => ⟨?_, ?_⟩⟩
    · rw [nfrom_get a _ _ hk, nfrom_get a _ _ (by omega)]
      push_cast
      omega
    · rw [nfrom_get a _ _ hk]
      omega
    · rw [nfrom_get a _ _ (by omega), h1]
      simp
    · rw [nfrom_get a _ _ (by omega), h2]
      simp
theorem flat_snoc (a : List Prt) (i : Nat) (h : i < a.length) : (a.take (i + 1)).flatMap Prt.pts = (a.take i).flatMap Prt.pts ++ (a.getD i default).pts := by
  rw [take_getD a i h, List.flatMap_append]
  simp
theorem PrtO.seen {w : World} {base : Nat} {v : Value} {L : List (Prt × Value)} {l : List Prt} (h : PrtO w base v L) (e : L.map Prod.fst = l) : PrtV w w.heap.size v l := by
  rw [← e]
  exact h.view
theorem flat_take (a : List Prt) (i : Nat) : ((a.take i).flatMap Prt.pts).length ≤ (a.flatMap Prt.pts).length := by
  have h : (a.take i).flatMap Prt.pts ++ (a.drop i).flatMap Prt.pts = a.flatMap Prt.pts := by rw [← List.flatMap_append, List.take_append_drop]
  rw [← h, List.length_append]
  omega

set_option maxRecDepth 20000 in
set_option maxHeartbeats 8000000 in
theorem law_fnSplit (ao : Option Addr) (len cap : Nat) (cs : Nat → Nat) (w : World) (h : CodeIs w w.heap.size ao len cs) (hl : len ≤ 9223372036854775807) : Calls Try.prog 3 #[.slice ao len cap] w fun e w' => e = .returned (.bool true) ∧ Below w.heap.size w w' := by
  by_cases hbig : 1048576 < len
  · have c0 := big_yes w ao len cap hbig hl
    go_enter Try.func3, Try.ntmps3
    go_wp2_with fail
    refine c0.mono ?_
    rintro e w' ⟨rfl, rfl⟩
    go_wp2_with fail
    go_ret
    exact ⟨rfl, Below.refl _ _⟩
  have c0 := big_no w ao len cap (by omega)
  have cD := drawSplit w ao len cap cs (by omega) h
  have HCd : Hid (CodeIs w w.heap.size ao len cs) := h
  have HLn : Hid (len ≤ 1048576) := by unfold Hid; omega
  clear hbig h hl
  go_enter Try.func3, Try.ntmps3
  go_wp2_with fail
  refine c0.mono ?_
  rintro e w' ⟨rfl, rfl⟩
  go_wp2_with fail
  refine cD.mono ?_
  rintro e w1 ⟨⟨ul, l, rfl, hO, hln⟩, hb⟩
  have O1 : Hid (Owns w1 w.heap.size 33 2 ul (ptR l)) := hO
  have B1 : Hid (Below w.heap.size w w1) := hb
  have LL : Hid (l.length ≤ 600) := hln
  clear hO hb hln cD c0
  go_wp2_with fail
  refine (implSplit l ul w1 w1.heap.size O1.out.lies (by have := LL.out; omega) (Nat.le_refl _)).mono ?_
  rintro e w2 ⟨up, Lp, rfl, hm, hO, hb⟩
  have M2 : Hid (Lp.map Prod.fst = splX l) := hm
  have P2 : Hid (PrtO w2 w1.heap.size up Lp) := hO
  have O2 : Hid (Owns w2 w.heap.size 33 2 ul (ptR l)) := O1.out.on hb
  have B2 : Hid (Below w.heap.size w w2) := B1.out.trans (hb.mono B1.out.size)
  clear hm hO hb O1
  have cK := specPointsOk l ul w2 w2.heap.size O2.out.lies (by have := LL.out; omega) (Nat.le_refl _)
  obtain ⟨Ap, cp, ep, hlk0⟩ := (P2.out.seen M2.out).look
  subst ep
  have HN0 : Hid ((splX l).length ≤ 60) := (splX_short l).1
  clear hlk0
  by_cases hok : ¬ POk l
  · rw [decide_eq_false hok] at cK
    have e0 : ((splX l).length : Int) = 0 := by rw [show splX l = [] from if_neg hok]; rfl
    generalize hnn : (splX l).length = nn at *
    have e1 : (((nn : Int)) == 0) = true := by rw [e0]; rfl
    clear e0 hok hnn
    go_wp2_with fail
    refine cK.mono ?_
    rintro e w3 ⟨rfl, hL⟩
    have B3 : Hid (Below w.heap.size w w3) := B2.out.trans (hL.below.mono B2.out.size)
    clear hL cK
    go_wp2_with fail
    go_ret
    exact ⟨rfl, B3.out⟩
  have hok' : POk l := Decidable.not_not.1 hok
  rw [decide_eq_true hok'] at cK
  have hX : splX l = spl l := if_pos hok'
  rw [hX] at M2 HN0 P2 ⊢
  have HFl : Hid ((spl l).flatMap Prt.pts = l) := (spl_ok l).flat
  have HRi : Hid (∀ i, i + 1 < (spl l).length → ((spl l).getD i default).num < ((spl l).getD (i + 1) default).num) := by
    obtain ⟨_, hr, hb⟩ := (POk_iff l).1 hok'
    exact fun i hi => rise_get (spl_rise l hr (fun p hp => (hb p hp).1)) i hi
  have HFu : Hid (∀ i, i < (spl l).length → 0 < ((spl l).getD i default).pts.length ∧ ((spl l).getD i default).pts.length ≤ 60) := fun i hi => ⟨List.length_pos_iff.2 ((spl_ok l).full _ (getD_mem _ i hi)), (spl_PShort l hok'.1).2 _ (getD_mem _ i hi)⟩
  have HHe : Hid (∀ i, i < (spl l).length → ∀ k, k < ((spl l).getD i default).pts.length → bkt (((spl l).getD i default).pts.getD k default).t = ((spl l).getD i default).num) := fun i hi k hk => (spl_ok l).here _ (getD_mem _ i hi) _ (getD_mem _ k hk)
  have L60 : Hid (l.length ≤ 60) := hok'.1
  clear hok hok' hX
  generalize hsp : spl l = sp at *
  clear hsp
  generalize hnn : sp.length = n at *
  have HNn : Hid (sp.length = n) := hnn
  clear hnn
  have q0 : (n : Int) ≤ 60 := by have := HN0.out; omega
  go_wp2_with fail
  refine cK.mono ?_
  rintro e w3 ⟨rfl, hL⟩
  have B3 : Hid (Below w.heap.size w w3) := B2.out.trans (hL.below.mono B2.out.size)
  have O3 : Hid (Owns w3 w.heap.size 33 2 ul (ptR l)) := O2.out.on hL.below
  have hv3 : PrtV w3 w3.heap.size (.slice Ap n cp) sp := (P2.out.on hL.below).seen M2.out
  obtain ⟨Ap', cp', ep, hlk⟩ := hv3.look
  have HLK : Hid (∀ j, j < n → ∃ g off u, Ap = some ⟨g, off, none⟩ ∧ g < w3.heap.size ∧ w3.cell? ⟨g, off + j * 2, none⟩ = some (.int .i64 (sp.getD j default).num) ∧ w3.cell? ⟨g, off + j * 2 + 1, none⟩ = some u ∧ Lies w3 w3.heap.size 2 u (ptR (sp.getD j default).pts)) := by
    simp only [Value.slice.injEq] at ep
    obtain ⟨rfl, -, -⟩ := ep
    intro j hj
    exact hlk j (by rw [HNn.out]; exact hj)
  have E3 : Hid (Owns (w3.alloc (.cells #[] 33)) w3.heap.size 33 2 (.slice (some ⟨w3.heap.size, 0, none⟩) 0 0) (ptR ((sp.take 0).flatMap Prt.pts))) := Owns.empty w3 _ _ _ (Nat.le_refl _)
  have D3 : Hid (Below w3.heap.size w3 (w3.alloc (.cells #[] 33))) := (Below.refl _ _).alloc (Nat.le_refl _) _
  clear hL cK ep hlk hv3 P2 O2
  go_wp2_with fail
  go_loopw [5, 6] (fun v5 v6 wr => ∃ i : Nat, i ≤ n ∧ v6 = .int .i64 (i : Int) ∧ Owns wr w3.heap.size 33 2 v5 (ptR ((sp.take i).flatMap Prt.pts)) ∧ Below w3.heap.size w3 wr) (fun _ v _ => n - (intOf v).toNat)
  case atStart => exact ⟨0, by omega, rfl, E3.out, D3.out⟩
  case round =>
    obtain ⟨i, hi, rfl, hO, hb⟩ := hrel
    have HO : Hid (Owns wr w3.heap.size 33 2 _ (ptR ((sp.take i).flatMap Prt.pts))) := hO
    have D4 : Hid (Below w3.heap.size w3 wr) := hb
    obtain ⟨A5, m5, c5, rfl⟩ := hO.shape
    clear hO hb
    by_cases hlt : i < n
    · have q1 : (i : Int) < (n : Int) := by omega
      obtain ⟨g, off, ui, rfl, hg, hc0, hc1, hui⟩ := HLK.out i hlt
      obtain ⟨Ai, ci, rfl, hpt⟩ := pt_look hui
      have HG : Hid (g < w3.heap.size) := hg
      have HPt : Hid (∀ j, j < (sp.getD i default).pts.length → ∃ g off, Ai = some ⟨g, off, none⟩ ∧ g < w3.heap.size ∧ w3.cell? ⟨g, off + j * 2, none⟩ = some (.int .i64 ((sp.getD i default).pts.getD j default).t)) := fun j hj => by
        obtain ⟨g', off', e, hg', h1, _⟩ := hpt j hj
        exact ⟨g', off', e, hg', h1⟩
      have HUi : Hid (Lies w3 w3.heap.size 2 (.slice Ai (sp.getD i default).pts.length ci) (ptR (sp.getD i default).pts)) := hui
      have C0 : Hid (∀ wx, Below w3.heap.size w3 wx → wx.cell? ⟨g, off + i * 2, none⟩ = some (.int .i64 (sp.getD i default).num) ∧ wx.cell? ⟨g, off + i * 2 + 1, none⟩ = some (.slice Ai (sp.getD i default).pts.length ci)) := fun wx hx => ⟨(hx.cell (p := ⟨g, _, none⟩) hg).trans hc0, (hx.cell (p := ⟨g, _, none⟩) hg).trans hc1⟩
      have hfu := HFu.out i hlt
      have HHi : Hid (∀ k, k < (sp.getD i default).pts.length → bkt ((sp.getD i default).pts.getD k default).t = (sp.getD i default).num) := HHe.out i hlt
      have HFs : Hid (ptR ((sp.take (i + 1)).flatMap Prt.pts) = ptR ((sp.take i).flatMap Prt.pts) ++ ptR (sp.getD i default).pts) := by unfold Hid; rw [flat_snoc sp i (by rw [HNn.out]; exact hlt), ptR_append]
      have HFk : Hid ((ptR ((sp.take i).flatMap Prt.pts)).length ≤ 60) := by
        unfold Hid
        have := flat_take sp i
        rw [HFl.out] at this
        rw [ptR_length]
        have := L60.out
        omega
      have HPrev : Hid (∀ j, i = j + 1 → ∀ wx, Below w3.heap.size w3 wx → ∃ nj, nj < (sp.getD i default).num ∧ wx.cell? ⟨g, off + j * 2, none⟩ = some (.int .i64 nj)) := fun j hj wx hx => by
        obtain ⟨g', off', u', e, hg', h1, _⟩ := HLK.out j (by omega)
        cases e
        refine ⟨(sp.getD j default).num, ?_, (hx.cell (p := ⟨g, _, none⟩) hg).trans h1⟩
        have := HRi.out j (by rw [← hj]; exact hlt)
        rw [← hj] at this
        exact this
      clear hc0 hc1 hui hpt hg
      generalize hpi : sp.getD i default = pi at *
      clear hpi
      obtain ⟨ni, ps⟩ := pi
      dsimp only at *
      have hps0 : 0 < ps.length := hfu.1
      have HPl : Hid (ps.length ≤ 60) := hfu.2
      generalize hmi : ps.length = mi at *
      have HMi : Hid (ps.length = mi) := hmi
      have hm0 : ((mi : Int) == 0) = false := beq_eq_false_iff_ne.2 (by omega)
      have hm0' : (mi == 0) = false := beq_eq_false_iff_ne.2 (by omega)
      have hm1 : (mi : Int) ≤ 60 := by have := HPl.out; omega
      have C4 := C0.out wr.drew D4.out.drew
      have D5 : Hid (Below w3.heap.size w3 wr.drew) := D4.out.drew
      have HO5 : Hid (Owns wr.drew w3.heap.size 33 2 (.slice A5 m5 c5) (ptR ((sp.take i).flatMap Prt.pts))) := HO.out.kept fun _ _ _ => rfl
      have S0 : Hid (wr.drew.cell? ⟨g, off + i * 2, none⟩ = some (.int .i64 ni) ∧ wr.drew.cell? ⟨g, off + i * 2 + 1, none⟩ = some (.slice Ai mi ci)) := C4
      clear C4 hfu hmi
      by_cases hi0 : i = 0
      · have d0 : decide ((0 : Int) < (i : Int)) = false := decide_eq_false (by omega)
        have d1 : decide (0 < i) = false := decide_eq_false (by omega)
        clear hi0
        go_wp2_with fail
        refine wp_region_until (fun w' => w'.cell? ⟨g, off + i * 2, none⟩ = some (.int .i64 ni) ∧ w'.cell? ⟨g, off + i * 2 + 1, none⟩ = some (.slice Ai mi ci)) (fun _ => false) 25 (by rfl) (by kernel_rfl) ?_
        refine until_pure 0 (v := ?_) (by rfl) (by kernel_rfl) (by exact fun _ _ _ h => h) (by rfl) ?_ ?_
        rotate_left
        · intro w
          go_simp
          try with_reducible rfl
        try simp only [Act.put, List.setIfInBounds_toArray, List.set_cons_zero, List.set_cons_succ]
        refine until_pure 1 (v := ?_) (by rfl) (by kernel_rfl) (by exact fun _ _ _ h => h) (by rfl) ?_ ?_
        rotate_left
        · intro w
          go_simp
          try with_reducible rfl
        try simp only [Act.put, List.setIfInBounds_toArray, List.set_cons_zero, List.set_cons_succ]
        refine until_pure 2 (v := ?_) (by rfl) (by kernel_rfl) (by exact fun _ _ _ h => h) (by rfl) ?_ ?_
        rotate_left
        · intro w
          go_simp
          try with_reducible rfl
        try simp only [Act.put, List.setIfInBounds_toArray, List.set_cons_zero, List.set_cons_succ]
        refine until_skip 3 (by rfl) (by kernel_rfl) (by exact fun _ _ _ h => h) (by rfl) ?_
        try simp only [Act.put, List.setIfInBounds_toArray, List.set_cons_zero, List.set_cons_succ]
        refine until_skip 4 (by rfl) (by kernel_rfl) (by exact fun _ _ _ h => h) (by rfl) ?_
        try simp only [Act.put, List.setIfInBounds_toArray, List.set_cons_zero, List.set_cons_succ]
        refine until_skip 5 (by rfl) (by kernel_rfl) (by exact fun _ _ _ h => h) (by rfl) ?_
        try simp only [Act.put, List.setIfInBounds_toArray, List.set_cons_zero, List.set_cons_succ]
        refine until_skip 6 (by rfl) (by kernel_rfl) (by exact fun _ _ _ h => h) (by rfl) ?_
        try simp only [Act.put, List.setIfInBounds_toArray, List.set_cons_zero, List.set_cons_succ]
        refine until_skip 7 (by rfl) (by kernel_rfl) (by exact fun _ _ _ h => h) (by rfl) ?_
        try simp only [Act.put, List.setIfInBounds_toArray, List.set_cons_zero, List.set_cons_succ]
        refine until_skip 8 (by rfl) (by kernel_rfl) (by exact fun _ _ _ h => h) (by rfl) ?_
        try simp only [Act.put, List.setIfInBounds_toArray, List.set_cons_zero, List.set_cons_succ]
        refine until_skip 9 (by rfl) (by kernel_rfl) (by exact fun _ _ _ h => h) (by rfl) ?_
        try simp only [Act.put, List.setIfInBounds_toArray, List.set_cons_zero, List.set_cons_succ]
        refine until_skip 10 (by rfl) (by kernel_rfl) (by exact fun _ _ _ h => h) (by rfl) ?_
        try simp only [Act.put, List.setIfInBounds_toArray, List.set_cons_zero, List.set_cons_succ]
        refine until_skip 11 (by rfl) (by kernel_rfl) (by exact fun _ _ _ h => h) (by rfl) ?_
        try simp only [Act.put, List.setIfInBounds_toArray, List.set_cons_zero, List.set_cons_succ]
        refine until_skip 12 (by rfl) (by kernel_rfl) (by exact fun _ _ _ h => h) (by rfl) ?_
        try simp only [Act.put, List.setIfInBounds_toArray, List.set_cons_zero, List.set_cons_succ]
        refine until_skip 13 (by rfl) (by kernel_rfl) (by exact fun _ _ _ h => h) (by rfl) ?_
        try simp only [Act.put, List.setIfInBounds_toArray, List.set_cons_zero, List.set_cons_succ]
        refine until_skip 14 (by rfl) (by kernel_rfl) (by exact fun _ _ _ h => h) (by rfl) ?_
        try simp only [Act.put, List.setIfInBounds_toArray, List.set_cons_zero, List.set_cons_succ]
        refine until_pure 15 (v := ?_) (by rfl) (by kernel_rfl) (by exact fun _ _ _ h => h) (by rfl) ?_ ?_
        rotate_left
        · intro w
          go_simp
          try with_reducible rfl
        try simp only [Act.put, List.setIfInBounds_toArray, List.set_cons_zero, List.set_cons_succ]
        refine until_pure 16 (v := ?_) (by rfl) (by kernel_rfl) (by exact fun _ _ _ h => h) (by rfl) ?_ ?_
        rotate_left
        · intro w
          go_simp
          try with_reducible rfl
        try simp only [Act.put, List.setIfInBounds_toArray, List.set_cons_zero, List.set_cons_succ]
        refine until_pure 17 (v := ?_) (by rfl) (by kernel_rfl) (by exact fun _ _ _ h => h) (by rfl) ?_ ?_
        rotate_left
        · intro w
          go_simp
          try with_reducible rfl
        try simp only [Act.put, List.setIfInBounds_toArray, List.set_cons_zero, List.set_cons_succ]
        refine until_pure 18 (v := ?_) (by rfl) (by kernel_rfl) (by exact fun _ _ _ h => h) (by rfl) ?_ ?_
        rotate_left
        · intro w
          go_simp
          try with_reducible rfl
        try simp only [Act.put, List.setIfInBounds_toArray, List.set_cons_zero, List.set_cons_succ]
        refine until_pure 19 (v := ?_) (by rfl) (by kernel_rfl) (by exact fun _ _ _ h => h) (by rfl) ?_ ?_
        rotate_left
        · intro w
          go_simp
          try with_reducible rfl
        try simp only [Act.put, List.setIfInBounds_toArray, List.set_cons_zero, List.set_cons_succ]
        refine until_pure 20 (v := ?_) (by rfl) (by kernel_rfl) (by exact fun _ _ _ h => h) (by rfl) ?_ ?_
        rotate_left
        · intro w
          go_simp
          try with_reducible rfl
        try simp only [Act.put, List.setIfInBounds_toArray, List.set_cons_zero, List.set_cons_succ]
        refine until_take 21 (v := ?_) (by rfl) (by kernel_rfl) (by exact fun _ _ _ h => h) (by rfl) ?_ S0.out ?_
        rotate_left
        · intro w hSw
          try dsimp only at hSw
          go_simp
          try with_reducible rfl
        try simp only [Act.put, List.setIfInBounds_toArray, List.set_cons_zero, List.set_cons_succ]
        refine until_pure 22 (v := ?_) (by rfl) (by kernel_rfl) (by exact fun _ _ _ h => h) (by rfl) ?_ ?_
        rotate_left
        · intro w
          go_simp
          try with_reducible rfl
        try simp only [Act.put, List.setIfInBounds_toArray, List.set_cons_zero, List.set_cons_succ]
        refine until_pure 23 (v := ?_) (by rfl) (by kernel_rfl) (by exact fun _ _ _ h => h) (by rfl) ?_ ?_
        rotate_left
        · intro w
          go_simp
          try with_reducible rfl
        try simp only [Act.put, List.setIfInBounds_toArray, List.set_cons_zero, List.set_cons_succ]
        refine until_pure 24 (v := ?_) (by rfl) (by kernel_rfl) (by exact fun _ _ _ h => h) (by rfl) ?_ ?_
        rotate_left
        · intro w
          go_simp
          try with_reducible rfl
        try simp only [Act.put, List.setIfInBounds_toArray, List.set_cons_zero, List.set_cons_succ]
        refine until_done (by kernel_rfl) ?_ _
        generalize hWr : wr.drew = W5 at *
        have HC5 : Hid (∀ wx, Like W5 wx → Below w3.heap.size w3 wx) := fun wx hx => D5.out.trans (hx.below.mono D5.out.size)
        clear S0 hWr
        go_wp2_with fail
        go_loopw [7] (fun v7 wx => ∃ k : Nat, k ≤ mi ∧ v7 = .int .i64 (k : Int) ∧ Like W5 wx) (fun v _ => mi - (intOf v).toNat)
        case atStart => exact ⟨0, by omega, rfl, Like.refl _⟩
        case round =>
          obtain ⟨k, hk, rfl, hLk⟩ := hrel
          have HLk : Hid (Like W5 wr) := hLk
          have C5 := C0.out wr (HC5.out wr hLk)
          have C51 := C5.1
          have C52 := C5.2
          clear hLk C5
          by_cases hlk : k < mi
          · have q3 : (k : Int) < (mi : Int) := by omega
            have q4 : (k : Int) ≤ 60 := by omega
            obtain ⟨gk, ok, rfl, hgk, hck⟩ := HPt.out k hlk
            have hc3 : wr.cell? ⟨gk, ok + k * 2, none⟩ = some (.int .i64 (ps.getD k default).t) := ((HC5.out wr HLk.out).cell (p := ⟨gk, _, none⟩) hgk).trans hck
            have cB := implBucket (ps.getD k default).t
            rw [HHi.out k hlk] at cB
            generalize (ps.getD k default).t = tk at *
            have S0 : Hid (wr.drew.cell? ⟨g, off + i * 2, none⟩ = some (.int .i64 ni) ∧ wr.drew.cell? ⟨g, off + i * 2 + 1, none⟩ = some (.slice (some ⟨gk, ok, none⟩) mi ci) ∧ wr.drew.cell? ⟨gk, ok + k * 2, none⟩ = some (.int .i64 tk)) := ⟨C51, C52, hc3⟩
            clear hck hgk hc3
            go_wp2_with fail
            refine wp_region_until (fun w' => w'.cell? ⟨g, off + i * 2, none⟩ = some (.int .i64 ni) ∧ w'.cell? ⟨g, off + i * 2 + 1, none⟩ = some (.slice (some ⟨gk, ok, none⟩) mi ci) ∧ w'.cell? ⟨gk, ok + k * 2, none⟩ = some (.int .i64 tk)) (fun _ => false) 16 (by rfl) (by kernel_rfl) ?_
            refine until_pure 0 (v := ?_) (by rfl) (by kernel_rfl) (by exact fun _ _ _ h => h) (by rfl) ?_ ?_
            rotate_left
            · intro w
              go_simp
              try with_reducible rfl
            try simp only [Act.put, List.setIfInBounds_toArray, List.set_cons_zero, List.set_cons_succ]
            refine until_pure 1 (v := ?_) (by rfl) (by kernel_rfl) (by exact fun _ _ _ h => h) (by rfl) ?_ ?_
            rotate_left
            · intro w
              go_simp
              try with_reducible rfl
            try simp only [Act.put, List.setIfInBounds_toArray, List.set_cons_zero, List.set_cons_succ]
            refine until_pure 2 (v := ?_) (by rfl) (by kernel_rfl) (by exact fun _ _ _ h => h) (by rfl) ?_ ?_
            rotate_left
            · intro w
              go_simp
              try with_reducible rfl
            try simp only [Act.put, List.setIfInBounds_toArray, List.set_cons_zero, List.set_cons_succ]
            refine until_pure 3 (v := ?_) (by rfl) (by kernel_rfl) (by exact fun _ _ _ h => h) (by rfl) ?_ ?_
            rotate_left
            · intro w
              go_simp
              try with_reducible rfl
            try simp only [Act.put, List.setIfInBounds_toArray, List.set_cons_zero, List.set_cons_succ]
            refine until_take 4 (v := ?_) (by rfl) (by kernel_rfl) (by exact fun _ _ _ h => h) (by rfl) ?_ S0.out ?_
            rotate_left
            · intro w hSw
              try dsimp only at hSw
              go_simp
              try with_reducible rfl
            try simp only [Act.put, List.setIfInBounds_toArray, List.set_cons_zero, List.set_cons_succ]
            refine until_pure 5 (v := ?_) (by rfl) (by kernel_rfl) (by exact fun _ _ _ h => h) (by rfl) ?_ ?_
            rotate_left
            · intro w
              go_simp
              try with_reducible rfl
            try simp only [Act.put, List.setIfInBounds_toArray, List.set_cons_zero, List.set_cons_succ]
            refine until_pure 6 (v := ?_) (by rfl) (by kernel_rfl) (by exact fun _ _ _ h => h) (by rfl) ?_ ?_
            rotate_left
            · intro w
              go_simp
              try with_reducible rfl
            try simp only [Act.put, List.setIfInBounds_toArray, List.set_cons_zero, List.set_cons_succ]
            refine until_pure 7 (v := ?_) (by rfl) (by kernel_rfl) (by exact fun _ _ _ h => h) (by rfl) ?_ ?_
            rotate_left
            · intro w
              go_simp
              try with_reducible rfl
            try simp only [Act.put, List.setIfInBounds_toArray, List.set_cons_zero, List.set_cons_succ]
            refine until_take 8 (v := ?_) (by rfl) (by kernel_rfl) (by exact fun _ _ _ h => h) (by rfl) ?_ S0.out ?_
            rotate_left
            · intro w hSw
              try dsimp only at hSw
              go_simp
              try with_reducible rfl
            try simp only [Act.put, List.setIfInBounds_toArray, List.set_cons_zero, List.set_cons_succ]
            refine until_pure 10 (v := ?_) (by rfl) (by kernel_rfl) (by exact fun _ _ _ h => h) (by rfl) ?_ ?_
            rotate_left
            · intro w
              go_simp
              try with_reducible rfl
            try simp only [Act.put, List.setIfInBounds_toArray, List.set_cons_zero, List.set_cons_succ]
            refine until_pure 11 (v := ?_) (by rfl) (by kernel_rfl) (by exact fun _ _ _ h => h) (by rfl) ?_ ?_
            rotate_left
            · intro w
              go_simp
              try with_reducible rfl
            try simp only [Act.put, List.setIfInBounds_toArray, List.set_cons_zero, List.set_cons_succ]
            refine until_pure 12 (v := ?_) (by rfl) (by kernel_rfl) (by exact fun _ _ _ h => h) (by rfl) ?_ ?_
            rotate_left
            · intro w
              go_simp
              try with_reducible rfl
            try simp only [Act.put, List.setIfInBounds_toArray, List.set_cons_zero, List.set_cons_succ]
            refine until_pure 13 (v := ?_) (by rfl) (by kernel_rfl) (by exact fun _ _ _ h => h) (by rfl) ?_ ?_
            rotate_left
            · intro w
              go_simp
              try with_reducible rfl
            try simp only [Act.put, List.setIfInBounds_toArray, List.set_cons_zero, List.set_cons_succ]
            refine until_take 14 (v := ?_) (by rfl) (by kernel_rfl) (by exact fun _ _ _ h => h) (by rfl) ?_ S0.out ?_
            rotate_left
            · intro w hSw
              try dsimp only at hSw
              go_simp
              try with_reducible rfl
            try simp only [Act.put, List.setIfInBounds_toArray, List.set_cons_zero, List.set_cons_succ]
            refine until_one 9 (by rfl) (by kernel_rfl) (fun K hK => ?_)
            go_simp
            refine (cB _).mono ?_
            rintro _ _ ⟨rfl, rfl⟩
            go_wp2_with fail
            refine hK.out _ _ (fun _ h => h) ?_
            clear hK K
            try simp only [Act.put, List.setIfInBounds_toArray, List.set_cons_zero, List.set_cons_succ]
            refine until_pure 15 (v := ?_) (by rfl) (by kernel_rfl) (by exact fun _ _ _ h => h) (by rfl) ?_ ?_
            rotate_left
            · intro w
              go_simp
              try with_reducible rfl
            try simp only [Act.put, List.setIfInBounds_toArray, List.set_cons_zero, List.set_cons_succ]
            refine until_done (by kernel_rfl) ?_ _
            go_wp2_with fail
            go_roundw
            case rel => exact ⟨k + 1, by omega, by go_num, HLk.out⟩
            case measure => simp [intOf]; omega
          · obtain rfl : k = mi := by omega
            have D6 : Hid (Below w3.heap.size w3 wr) := HC5.out wr HLk.out
            have HO6 : Hid (Owns wr w3.heap.size 33 2 (.slice A5 m5 c5) (ptR ((sp.take (i)).flatMap Prt.pts))) := HO5.out.heap HLk.out.1
            have HU6 : Hid (Lies wr w3.heap.size 2 (.slice Ai k ci) (ptR ps)) := HUi.out.on D6.out
            have z6 := D6.out.size
            have l6 : Hid ((ptR ((sp.take (i)).flatMap Prt.pts)).length + (ptR ps).length ≤ 2097152) := by unfold Hid; have := HFk.out; rw [ptR_length ps, HMi.out]; have := HPl.out; omega
            go_wp2_with (at_builtin; refine Shut.out ?_)
            unfold Shut
            refine wpList_append_all (w := wr) rfl (.tmp 82) (.tmp 87) 24 33 (.agg #[.int .i64 0, .int .i64 0]) 2 16 rfl Try.underlying24 Try.infoPt rfl (by omega) w3.heap.size (.slice A5 m5 c5) (.slice Ai k ci) (ptR ((sp.take (i)).flatMap Prt.pts)) (ptR ps) w3.heap.size rfl HO6.out HU6.out (pt_oneB ps) rfl l6.out (by omega) z6 ?_
            intro x1 w7 hO7 hb7 _ _
            have O7 : Hid (Owns w7 w3.heap.size 33 2 x1 (ptR ((sp.take (i + 1)).flatMap Prt.pts))) := by unfold Hid; rw [HFs.out]; exact hO7
            have D7 : Hid (Below w3.heap.size w3 w7) := D6.out.trans hb7
            obtain ⟨A7, m7, c7, rfl⟩ := O7.out.shape
            clear hO7 hb7
            go_wp2_with fail
            go_roundw
            case rel => exact ⟨i + 1, by omega, by go_num, O7.out, D7.out⟩
            case measure => simp [intOf]; omega
      · obtain ⟨j, hj⟩ : ∃ j, i = j + 1 := ⟨i - 1, by omega⟩
        obtain ⟨nj, hnj, hcj⟩ := HPrev.out j hj wr.drew D4.out.drew
        have S0 : Hid (wr.drew.cell? ⟨g, off + j * 2, none⟩ = some (.int .i64 nj) ∧ wr.drew.cell? ⟨g, off + i * 2, none⟩ = some (.int .i64 ni) ∧ wr.drew.cell? ⟨g, off + i * 2 + 1, none⟩ = some (.slice Ai mi ci)) := ⟨hcj, S0.out.1, S0.out.2⟩
        have dj : decide (ni ≤ nj) = false := decide_eq_false (by omega)
        have gj : IntKind.i64.wrap ((i : Int) - 1) = (j : Int) := by rw [IntKind.wrap_i64]; omega
        have qj : (j : Int) < (n : Int) := by omega
        have d0 : decide ((0 : Int) < (i : Int)) = true := decide_eq_true (by omega)
        have d1 : decide (0 < i) = true := decide_eq_true (by omega)
        clear hcj hi0 hj hnj
        go_wp2_with fail
        refine wp_region_until (fun w' => w'.cell? ⟨g, off + j * 2, none⟩ = some (.int .i64 nj) ∧ w'.cell? ⟨g, off + i * 2, none⟩ = some (.int .i64 ni) ∧ w'.cell? ⟨g, off + i * 2 + 1, none⟩ = some (.slice Ai mi ci)) (fun _ => false) 25 (by rfl) (by kernel_rfl) ?_
        refine until_pure 0 (v := ?_) (by rfl) (by kernel_rfl) (by exact fun _ _ _ h => h) (by rfl) ?_ ?_
        rotate_left
        · intro w
          go_simp
          try with_reducible rfl
        try simp only [Act.put, List.setIfInBounds_toArray, List.set_cons_zero, List.set_cons_succ]
        refine until_pure 1 (v := ?_) (by rfl) (by kernel_rfl) (by exact fun _ _ _ h => h) (by rfl) ?_ ?_
        rotate_left
        · intro w
          go_simp
          try with_reducible rfl
        try simp only [Act.put, List.setIfInBounds_toArray, List.set_cons_zero, List.set_cons_succ]
        refine until_pure 2 (v := ?_) (by rfl) (by kernel_rfl) (by exact fun _ _ _ h => h) (by rfl) ?_ ?_
        rotate_left
        · intro w
          go_simp
          try with_reducible rfl
        try simp only [Act.put, List.setIfInBounds_toArray, List.set_cons_zero, List.set_cons_succ]
        refine until_pure 3 (v := ?_) (by rfl) (by kernel_rfl) (by exact fun _ _ _ h => h) (by rfl) ?_ ?_
        rotate_left
        · intro w
          go_simp
          try with_reducible rfl
        try simp only [Act.put, List.setIfInBounds_toArray, List.set_cons_zero, List.set_cons_succ]
        refine until_pure 4 (v := ?_) (by rfl) (by kernel_rfl) (by exact fun _ _ _ h => h) (by rfl) ?_ ?_
        rotate_left
        · intro w
          go_simp
          try with_reducible rfl
        try simp only [Act.put, List.setIfInBounds_toArray, List.set_cons_zero, List.set_cons_succ]
        refine until_pure 5 (v := ?_) (by rfl) (by kernel_rfl) (by exact fun _ _ _ h => h) (by rfl) ?_ ?_
        rotate_left
        · intro w
          go_simp
          try with_reducible rfl
        try simp only [Act.put, List.setIfInBounds_toArray, List.set_cons_zero, List.set_cons_succ]
        refine until_pure 6 (v := ?_) (by rfl) (by kernel_rfl) (by exact fun _ _ _ h => h) (by rfl) ?_ ?_
        rotate_left
        · intro w
          go_simp
          try with_reducible rfl
        try simp only [Act.put, List.setIfInBounds_toArray, List.set_cons_zero, List.set_cons_succ]
        refine until_pure 7 (v := ?_) (by rfl) (by kernel_rfl) (by exact fun _ _ _ h => h) (by rfl) ?_ ?_
        rotate_left
        · intro w
          go_simp
          try with_reducible rfl
        try simp only [Act.put, List.setIfInBounds_toArray, List.set_cons_zero, List.set_cons_succ]
        refine until_take 8 (v := ?_) (by rfl) (by kernel_rfl) (by exact fun _ _ _ h => h) (by rfl) ?_ S0.out ?_
        rotate_left
        · intro w hSw
          try dsimp only at hSw
          go_simp
          try with_reducible rfl
        try simp only [Act.put, List.setIfInBounds_toArray, List.set_cons_zero, List.set_cons_succ]
        refine until_pure 9 (v := ?_) (by rfl) (by kernel_rfl) (by exact fun _ _ _ h => h) (by rfl) ?_ ?_
        rotate_left
        · intro w
          go_simp
          try with_reducible rfl
        try simp only [Act.put, List.setIfInBounds_toArray, List.set_cons_zero, List.set_cons_succ]
        refine until_pure 10 (v := ?_) (by rfl) (by kernel_rfl) (by exact fun _ _ _ h => h) (by rfl) ?_ ?_
        rotate_left
        · intro w
          go_simp
          try with_reducible rfl
        try simp only [Act.put, List.setIfInBounds_toArray, List.set_cons_zero, List.set_cons_succ]
        refine until_pure 11 (v := ?_) (by rfl) (by kernel_rfl) (by exact fun _ _ _ h => h) (by rfl) ?_ ?_
        rotate_left
        · intro w
          go_simp
          try with_reducible rfl
        try simp only [Act.put, List.setIfInBounds_toArray, List.set_cons_zero, List.set_cons_succ]
        refine until_pure 12 (v := ?_) (by rfl) (by kernel_rfl) (by exact fun _ _ _ h => h) (by rfl) ?_ ?_
        rotate_left
        · intro w
          go_simp
          try with_reducible rfl
        try simp only [Act.put, List.setIfInBounds_toArray, List.set_cons_zero, List.set_cons_succ]
        refine until_take 13 (v := ?_) (by rfl) (by kernel_rfl) (by exact fun _ _ _ h => h) (by rfl) ?_ S0.out ?_
        rotate_left
        · intro w hSw
          try dsimp only at hSw
          go_simp
          try with_reducible rfl
        try simp only [Act.put, List.setIfInBounds_toArray, List.set_cons_zero, List.set_cons_succ]
        refine until_pure 14 (v := ?_) (by rfl) (by kernel_rfl) (by exact fun _ _ _ h => h) (by rfl) ?_ ?_
        rotate_left
        · intro w
          go_simp
          try with_reducible rfl
        try simp only [Act.put, List.setIfInBounds_toArray, List.set_cons_zero, List.set_cons_succ]
        refine until_pure 15 (v := ?_) (by rfl) (by kernel_rfl) (by exact fun _ _ _ h => h) (by rfl) ?_ ?_
        rotate_left
        · intro w
          go_simp
          try with_reducible rfl
        try simp only [Act.put, List.setIfInBounds_toArray, List.set_cons_zero, List.set_cons_succ]
        refine until_pure 16 (v := ?_) (by rfl) (by kernel_rfl) (by exact fun _ _ _ h => h) (by rfl) ?_ ?_
        rotate_left
        · intro w
          go_simp
          try with_reducible rfl
        try simp only [Act.put, List.setIfInBounds_toArray, List.set_cons_zero, List.set_cons_succ]
        refine until_pure 17 (v := ?_) (by rfl) (by kernel_rfl) (by exact fun _ _ _ h => h) (by rfl) ?_ ?_
        rotate_left
        · intro w
          go_simp
          try with_reducible rfl
        try simp only [Act.put, List.setIfInBounds_toArray, List.set_cons_zero, List.set_cons_succ]
        refine until_pure 18 (v := ?_) (by rfl) (by kernel_rfl) (by exact fun _ _ _ h => h) (by rfl) ?_ ?_
        rotate_left
        · intro w
          go_simp
          try with_reducible rfl
        try simp only [Act.put, List.setIfInBounds_toArray, List.set_cons_zero, List.set_cons_succ]
        refine until_pure 19 (v := ?_) (by rfl) (by kernel_rfl) (by exact fun _ _ _ h => h) (by rfl) ?_ ?_
        rotate_left
        · intro w
          go_simp
          try with_reducible rfl
        try simp only [Act.put, List.setIfInBounds_toArray, List.set_cons_zero, List.set_cons_succ]
        refine until_pure 20 (v := ?_) (by rfl) (by kernel_rfl) (by exact fun _ _ _ h => h) (by rfl) ?_ ?_
        rotate_left
        · intro w
          go_simp
          try with_reducible rfl
        try simp only [Act.put, List.setIfInBounds_toArray, List.set_cons_zero, List.set_cons_succ]
        refine until_take 21 (v := ?_) (by rfl) (by kernel_rfl) (by exact fun _ _ _ h => h) (by rfl) ?_ S0.out ?_
        rotate_left
        · intro w hSw
          try dsimp only at hSw
          go_simp
          try with_reducible rfl
        try simp only [Act.put, List.setIfInBounds_toArray, List.set_cons_zero, List.set_cons_succ]
        refine until_pure 22 (v := ?_) (by rfl) (by kernel_rfl) (by exact fun _ _ _ h => h) (by rfl) ?_ ?_
        rotate_left
        · intro w
          go_simp
          try with_reducible rfl
        try simp only [Act.put, List.setIfInBounds_toArray, List.set_cons_zero, List.set_cons_succ]
        refine until_pure 23 (v := ?_) (by rfl) (by kernel_rfl) (by exact fun _ _ _ h => h) (by rfl) ?_ ?_
        rotate_left
        · intro w
          go_simp
          try with_reducible rfl
        try simp only [Act.put, List.setIfInBounds_toArray, List.set_cons_zero, List.set_cons_succ]
        refine until_pure 24 (v := ?_) (by rfl) (by kernel_rfl) (by exact fun _ _ _ h => h) (by rfl) ?_ ?_
        rotate_left
        · intro w
          go_simp
          try with_reducible rfl
        try simp only [Act.put, List.setIfInBounds_toArray, List.set_cons_zero, List.set_cons_succ]
        refine until_done (by kernel_rfl) ?_ _
        generalize hWr : wr.drew = W5 at *
        have HC5 : Hid (∀ wx, Like W5 wx → Below w3.heap.size w3 wx) := fun wx hx => D5.out.trans (hx.below.mono D5.out.size)
        clear S0 hWr
        go_wp2_with fail
        go_loopw [7] (fun v7 wx => ∃ k : Nat, k ≤ mi ∧ v7 = .int .i64 (k : Int) ∧ Like W5 wx) (fun v _ => mi - (intOf v).toNat)
        case atStart => exact ⟨0, by omega, rfl, Like.refl _⟩
        case round =>
          obtain ⟨k, hk, rfl, hLk⟩ := hrel
          have HLk : Hid (Like W5 wr) := hLk
          have C5 := C0.out wr (HC5.out wr hLk)
          have C51 := C5.1
          have C52 := C5.2
          clear hLk C5
          by_cases hlk : k < mi
          · have q3 : (k : Int) < (mi : Int) := by omega
            have q4 : (k : Int) ≤ 60 := by omega
            obtain ⟨gk, ok, rfl, hgk, hck⟩ := HPt.out k hlk
            have hc3 : wr.cell? ⟨gk, ok + k * 2, none⟩ = some (.int .i64 (ps.getD k default).t) := ((HC5.out wr HLk.out).cell (p := ⟨gk, _, none⟩) hgk).trans hck
            have cB := implBucket (ps.getD k default).t
            rw [HHi.out k hlk] at cB
            generalize (ps.getD k default).t = tk at *
            have S0 : Hid (wr.drew.cell? ⟨g, off + i * 2, none⟩ = some (.int .i64 ni) ∧ wr.drew.cell? ⟨g, off + i * 2 + 1, none⟩ = some (.slice (some ⟨gk, ok, none⟩) mi ci) ∧ wr.drew.cell? ⟨gk, ok + k * 2, none⟩ = some (.int .i64 tk)) := ⟨C51, C52, hc3⟩
            clear hck hgk hc3
            go_wp2_with fail
            refine wp_region_until (fun w' => w'.cell? ⟨g, off + i * 2, none⟩ = some (.int .i64 ni) ∧ w'.cell? ⟨g, off + i * 2 + 1, none⟩ = some (.slice (some ⟨gk, ok, none⟩) mi ci) ∧ w'.cell? ⟨gk, ok + k * 2, none⟩ = some (.int .i64 tk)) (fun _ => false) 16 (by rfl) (by kernel_rfl) ?_
            refine until_pure 0 (v := ?_) (by rfl) (by kernel_rfl) (by exact fun _ _ _ h => h) (by rfl) ?_ ?_
            rotate_left
            · intro w
              go_simp
              try with_reducible rfl
            try simp only [Act.put, List.setIfInBounds_toArray, List.set_cons_zero, List.set_cons_succ]
            refine until_pure 1 (v := ?_) (by rfl) (by kernel_rfl) (by exact fun _ _ _ h => h) (by rfl) ?_ ?_
            rotate_left
            · intro w
              go_simp
              try with_reducible rfl
            try simp only [Act.put, List.setIfInBounds_toArray, List.set_cons_zero, List.set_cons_succ]
            refine until_pure 2 (v := ?_) (by rfl) (by kernel_rfl) (by exact fun _ _ _ h => h) (by rfl) ?_ ?_
            rotate_left
            · intro w
              go_simp
              try with_reducible rfl
            try simp only [Act.put, List.setIfInBounds_toArray, List.set_cons_zero, List.set_cons_succ]
            refine until_pure 3 (v := ?_) (by rfl) (by kernel_rfl) (by exact fun _ _ _ h => h) (by rfl) ?_ ?_
            rotate_left
            · intro w
              go_simp
              try with_reducible rfl
            try simp only [Act.put, List.setIfInBounds_toArray, List.set_cons_zero, List.set_cons_succ]
            refine until_take 4 (v := ?_) (by rfl) (by kernel_rfl) (by exact fun _ _ _ h => h) (by rfl) ?_ S0.out ?_
            rotate_left
            · intro w hSw
              try dsimp only at hSw
              go_simp
              try with_reducible rfl
            try simp only [Act.put, List.setIfInBounds_toArray, List.set_cons_zero, List.set_cons_succ]
            refine until_pure 5 (v := ?_) (by rfl) (by kernel_rfl) (by exact fun _ _ _ h => h) (by rfl) ?_ ?_
            rotate_left
            · intro w
              go_simp
              try with_reducible rfl
            try simp only [Act.put, List.setIfInBounds_toArray, List.set_cons_zero, List.set_cons_succ]
            refine until_pure 6 (v := ?_) (by rfl) (by kernel_rfl) (by exact fun _ _ _ h => h) (by rfl) ?_ ?_
            rotate_left
            · intro w
              go_simp
              try with_reducible rfl
            try simp only [Act.put, List.setIfInBounds_toArray, List.set_cons_zero, List.set_cons_succ]
            refine until_pure 7 (v := ?_) (by rfl) (by kernel_rfl) (by exact fun _ _ _ h => h) (by rfl) ?_ ?_
            rotate_left
            · intro w
              go_simp
              try with_reducible rfl
            try simp only [Act.put, List.setIfInBounds_toArray, List.set_cons_zero, List.set_cons_succ]
            refine until_take 8 (v := ?_) (by rfl) (by kernel_rfl) (by exact fun _ _ _ h => h) (by rfl) ?_ S0.out ?_
            rotate_left
            · intro w hSw
              try dsimp only at hSw
              go_simp
              try with_reducible rfl
            try simp only [Act.put, List.setIfInBounds_toArray, List.set_cons_zero, List.set_cons_succ]
            refine until_pure 10 (v := ?_) (by rfl) (by kernel_rfl) (by exact fun _ _ _ h => h) (by rfl) ?_ ?_
            rotate_left
            · intro w
              go_simp
              try with_reducible rfl
            try simp only [Act.put, List.setIfInBounds_toArray, List.set_cons_zero, List.set_cons_succ]
            refine until_pure 11 (v := ?_) (by rfl) (by kernel_rfl) (by exact fun _ _ _ h => h) (by rfl) ?_ ?_
            rotate_left
            · intro w
              go_simp
              try with_reducible rfl
            try simp only [Act.put, List.setIfInBounds_toArray, List.set_cons_zero, List.set_cons_succ]
            refine until_pure 12 (v := ?_) (by rfl) (by kernel_rfl) (by exact fun _ _ _ h => h) (by rfl) ?_ ?_
            rotate_left
            · intro w
              go_simp
              try with_reducible rfl
            try simp only [Act.put, List.setIfInBounds_toArray, List.set_cons_zero, List.set_cons_succ]
            refine until_pure 13 (v := ?_) (by rfl) (by kernel_rfl) (by exact fun _ _ _ h => h) (by rfl) ?_ ?_
            rotate_left
            · intro w
              go_simp
              try with_reducible rfl
            try simp only [Act.put, List.setIfInBounds_toArray, List.set_cons_zero, List.set_cons_succ]
            refine until_take 14 (v := ?_) (by rfl) (by kernel_rfl) (by exact fun _ _ _ h => h) (by rfl) ?_ S0.out ?_
            rotate_left
            · intro w hSw
              try dsimp only at hSw
              go_simp
              try with_reducible rfl
            try simp only [Act.put, List.setIfInBounds_toArray, List.set_cons_zero, List.set_cons_succ]
            refine until_one 9 (by rfl) (by kernel_rfl) (fun K hK => ?_)
            go_simp
            refine (cB _).mono ?_
            rintro _ _ ⟨rfl, rfl⟩
            go_wp2_with fail
            refine hK.out _ _ (fun _ h => h) ?_
            clear hK K
            try simp only [Act.put, List.setIfInBounds_toArray, List.set_cons_zero, List.set_cons_succ]
            refine until_pure 15 (v := ?_) (by rfl) (by kernel_rfl) (by exact fun _ _ _ h => h) (by rfl) ?_ ?_
            rotate_left
            · intro w
              go_simp
              try with_reducible rfl
            try simp only [Act.put, List.setIfInBounds_toArray, List.set_cons_zero, List.set_cons_succ]
            refine until_done (by kernel_rfl) ?_ _
            go_wp2_with fail
            go_roundw
            case rel => exact ⟨k + 1, by omega, by go_num, HLk.out⟩
            case measure => simp [intOf]; omega
          · obtain rfl : k = mi := by omega
            have D6 : Hid (Below w3.heap.size w3 wr) := HC5.out wr HLk.out
            have HO6 : Hid (Owns wr w3.heap.size 33 2 (.slice A5 m5 c5) (ptR ((sp.take (i)).flatMap Prt.pts))) := HO5.out.heap HLk.out.1
            have HU6 : Hid (Lies wr w3.heap.size 2 (.slice Ai k ci) (ptR ps)) := HUi.out.on D6.out
            have z6 := D6.out.size
            have l6 : Hid ((ptR ((sp.take (i)).flatMap Prt.pts)).length + (ptR ps).length ≤ 2097152) := by unfold Hid; have := HFk.out; rw [ptR_length ps, HMi.out]; have := HPl.out; omega
            go_wp2_with (at_builtin; refine Shut.out ?_)
            unfold Shut
            refine wpList_append_all (w := wr) rfl (.tmp 82) (.tmp 87) 24 33 (.agg #[.int .i64 0, .int .i64 0]) 2 16 rfl Try.underlying24 Try.infoPt rfl (by omega) w3.heap.size (.slice A5 m5 c5) (.slice Ai k ci) (ptR ((sp.take (i)).flatMap Prt.pts)) (ptR ps) w3.heap.size rfl HO6.out HU6.out (pt_oneB ps) rfl l6.out (by omega) z6 ?_
            intro x1 w7 hO7 hb7 _ _
            have O7 : Hid (Owns w7 w3.heap.size 33 2 x1 (ptR ((sp.take (i + 1)).flatMap Prt.pts))) := by unfold Hid; rw [HFs.out]; exact hO7
            have D7 : Hid (Below w3.heap.size w3 w7) := D6.out.trans hb7
            obtain ⟨A7, m7, c7, rfl⟩ := O7.out.shape
            clear hO7 hb7
            go_wp2_with fail
            go_roundw
            case rel => exact ⟨i + 1, by omega, by go_num, O7.out, D7.out⟩
            case measure => simp [intOf]; omega
    · obtain rfl : i = n := by omega
      have HAll : Hid (Owns wr w3.heap.size 33 2 (.slice A5 m5 c5) (ptR l)) := by
        have h := HO.out
        rw [List.take_of_length_le (by rw [HNn.out]; exact Nat.le_refl _), HFl.out] at h
        exact h
      have B4 : Hid (Below w.heap.size w wr) := B3.out.trans (D4.out.mono B3.out.size)
      have L4 : Hid (Owns wr w.heap.size 33 2 ul (ptR l)) := O3.out.on D4.out
      have cD := drawCover wr ao len cap cs HLn.out (HCd.out.on B4.out)
      clear HO HLK HRi HFu HHe
      go_wp2_with fail
      refine cD.mono ?_
      rintro e w5 ⟨⟨f, t, rfl, ⟨f0, f1⟩, t0, t1⟩, hb⟩
      have A5' : Hid (Owns w5 w3.heap.size 33 2 (.slice A5 m5 c5) (ptR l)) := HAll.out.on hb
      have L5 : Hid (Owns w5 w.heap.size 33 2 ul (ptR l)) := L4.out.on hb
      have B5 : Hid (Below w.heap.size w w5) := B4.out.trans (hb.mono B4.out.size)
      clear hb cD HAll L4
      go_wp2_with fail
      refine (implCover f t w5).mono ?_
      rintro e w6 ⟨uc, rfl, hN, hb⟩
      have A6 : Hid (Owns w6 w3.heap.size 33 2 (.slice A5 m5 c5) (ptR l)) := A5'.out.on hb
      have L6 : Hid (Owns w6 w.heap.size 33 2 ul (ptR l)) := L5.out.on hb
      have B6 : Hid (Below w.heap.size w w6) := B5.out.trans (hb.mono B5.out.size)
      obtain ⟨Ac, cc, rfl, _, _, hcl⟩ := hN.lies
      have hfs := cov_facts f t
      have HC1 : Hid (∀ k, k + 1 < (cov f t).length → (cov f t).getD (k + 1) 0 = (cov f t).getD k 0 + 1) := hfs.2.1
      have HC2 : Hid (∀ k, k < (cov f t).length → 0 ≤ (cov f t).getD k 0 ∧ (cov f t).getD k 0 ≤ 20000000000) := hfs.2.2.1
      have HC3 : Hid (0 < (cov f t).length → (cov f t).getD 0 0 = bkt f ∧ (cov f t).getD ((cov f t).length - 1) 0 = bkt (t - 1)) := hfs.2.2.2
      have HCell : Hid (∀ j, j < (cov f t).length → ∃ g off, Ac = some ⟨g, off, none⟩ ∧ g < w6.heap.size ∧ w6.cell? ⟨g, off + j, none⟩ = some (.int .i64 ((cov f t).getD j 0))) := hcl
      have hm8 : (cov f t).length ≤ 8 := hfs.1
      have cF := specBucket f
      have cT := specBucket (t - 1)
      have gT : IntKind.i64.wrap (t - 1) = t - 1 := by rw [IntKind.wrap_i64]; omega
      clear hb hN hcl hfs A5' L5 HNn
      generalize cov f t = cl at *
      generalize cl.length = M at *
      have qM : (M : Int) ≤ 8 := by omega
      go_wp2_with fail
      go_loopw [11] (fun v11 wx => ∃ k : Nat, k ≤ M ∧ v11 = .int .i64 (k : Int) ∧ Like w6 wx) (fun v _ => M - (intOf v).toNat)
      case atStart => exact ⟨0, by omega, rfl, Like.refl _⟩
      case round =>
        obtain ⟨k, hk, rfl, hLk⟩ := hrel
        have HLk : Hid (Like w6 wr) := hLk
        clear hLk
        by_cases hlt2 : k < M
        · have q5 : (k : Int) < (M : Int) := by omega
          have q6 : (k : Int) ≤ 8 := by omega
          obtain ⟨gc, oc, rfl, hgc, hck⟩ := HCell.out k hlt2
          have hck' : wr.drew.cell? ⟨gc, oc + k, none⟩ = some (.int .i64 (cl.getD k 0)) := (HLk.out.below.cell (p := ⟨gc, _, none⟩) hgc).trans hck
          by_cases hk0 : k = 0
          · have d0 : decide ((0 : Int) < (k : Int)) = false := decide_eq_false (by omega)
            have d1 : decide (0 < k) = false := decide_eq_false (by omega)
            clear hk0 hck hck' hgc
            go_wp2_with fail
            refine wp_region_until (fun _ => True) (fun _ => false) 15 (by rfl) (by kernel_rfl) ?_
            refine until_pure 0 (v := ?_) (by rfl) (by kernel_rfl) (by exact fun _ _ _ h => h) (by rfl) ?_ ?_
            rotate_left
            · intro w
              go_simp
              try with_reducible rfl
            try simp only [Act.put, List.setIfInBounds_toArray, List.set_cons_zero, List.set_cons_succ]
            refine until_pure 1 (v := ?_) (by rfl) (by kernel_rfl) (by exact fun _ _ _ h => h) (by rfl) ?_ ?_
            rotate_left
            · intro w
              go_simp
              try with_reducible rfl
            try simp only [Act.put, List.setIfInBounds_toArray, List.set_cons_zero, List.set_cons_succ]
            refine until_pure 2 (v := ?_) (by rfl) (by kernel_rfl) (by exact fun _ _ _ h => h) (by rfl) ?_ ?_
            rotate_left
            · intro w
              go_simp
              try with_reducible rfl
            try simp only [Act.put, List.setIfInBounds_toArray, List.set_cons_zero, List.set_cons_succ]
            refine until_skip 3 (by rfl) (by kernel_rfl) (by exact fun _ _ _ h => h) (by rfl) ?_
            try simp only [Act.put, List.setIfInBounds_toArray, List.set_cons_zero, List.set_cons_succ]
            refine until_skip 4 (by rfl) (by kernel_rfl) (by exact fun _ _ _ h => h) (by rfl) ?_
            try simp only [Act.put, List.setIfInBounds_toArray, List.set_cons_zero, List.set_cons_succ]
            refine until_skip 5 (by rfl) (by kernel_rfl) (by exact fun _ _ _ h => h) (by rfl) ?_
            try simp only [Act.put, List.setIfInBounds_toArray, List.set_cons_zero, List.set_cons_succ]
            refine until_skip 6 (by rfl) (by kernel_rfl) (by exact fun _ _ _ h => h) (by rfl) ?_
            try simp only [Act.put, List.setIfInBounds_toArray, List.set_cons_zero, List.set_cons_succ]
            refine until_skip 7 (by rfl) (by kernel_rfl) (by exact fun _ _ _ h => h) (by rfl) ?_
            try simp only [Act.put, List.setIfInBounds_toArray, List.set_cons_zero, List.set_cons_succ]
            refine until_skip 8 (by rfl) (by kernel_rfl) (by exact fun _ _ _ h => h) (by rfl) ?_
            try simp only [Act.put, List.setIfInBounds_toArray, List.set_cons_zero, List.set_cons_succ]
            refine until_skip 9 (by rfl) (by kernel_rfl) (by exact fun _ _ _ h => h) (by rfl) ?_
            try simp only [Act.put, List.setIfInBounds_toArray, List.set_cons_zero, List.set_cons_succ]
            refine until_skip 10 (by rfl) (by kernel_rfl) (by exact fun _ _ _ h => h) (by rfl) ?_
            try simp only [Act.put, List.setIfInBounds_toArray, List.set_cons_zero, List.set_cons_succ]
            refine until_skip 11 (by rfl) (by kernel_rfl) (by exact fun _ _ _ h => h) (by rfl) ?_
            try simp only [Act.put, List.setIfInBounds_toArray, List.set_cons_zero, List.set_cons_succ]
            refine until_skip 12 (by rfl) (by kernel_rfl) (by exact fun _ _ _ h => h) (by rfl) ?_
            try simp only [Act.put, List.setIfInBounds_toArray, List.set_cons_zero, List.set_cons_succ]
            refine until_skip 13 (by rfl) (by kernel_rfl) (by exact fun _ _ _ h => h) (by rfl) ?_
            try simp only [Act.put, List.setIfInBounds_toArray, List.set_cons_zero, List.set_cons_succ]
            refine until_pure 14 (v := ?_) (by rfl) (by kernel_rfl) (by exact fun _ _ _ h => h) (by rfl) ?_ ?_
            rotate_left
            · intro w
              go_simp
              try with_reducible rfl
            try simp only [Act.put, List.setIfInBounds_toArray, List.set_cons_zero, List.set_cons_succ]
            refine until_done (by kernel_rfl) ?_ _
            go_wp2_with fail
            go_roundw
            case rel => exact ⟨k + 1, by omega, by go_num, HLk.out⟩
            case measure => simp [intOf]; omega
          · obtain ⟨j, hj⟩ : ∃ j, k = j + 1 := ⟨k - 1, by omega⟩
            obtain ⟨gc2, oc2, e2, _, hcj⟩ := HCell.out j (by omega)
            cases e2
            have hcj' : wr.drew.cell? ⟨gc, oc + j, none⟩ = some (.int .i64 (cl.getD j 0)) := (HLk.out.below.cell (p := ⟨gc, _, none⟩) hgc).trans hcj
            have hcc := HC1.out j (by rw [← hj]; exact hlt2)
            rw [← hj] at hcc
            rw [hcc] at hck'
            have hbj := HC2.out j (by omega)
            have gk : IntKind.i64.wrap ((k : Int) - 1) = (j : Int) := by rw [IntKind.wrap_i64]; omega
            have qj : (j : Int) < (M : Int) := by omega
            have d0 : decide ((0 : Int) < (k : Int)) = true := decide_eq_true (by omega)
            have d1 : decide (0 < k) = true := decide_eq_true (by omega)
            have gx : IntKind.i64.wrap (cl.getD j 0 + 1) = cl.getD j 0 + 1 := by rw [IntKind.wrap_i64]; omega
            have S0 : Hid (wr.drew.cell? ⟨gc, oc + k, none⟩ = some (.int .i64 (cl.getD j 0 + 1)) ∧ wr.drew.cell? ⟨gc, oc + j, none⟩ = some (.int .i64 (cl.getD j 0))) := ⟨hck', hcj'⟩
            generalize cl.getD j 0 = x at *
            clear hk0 hck hck' hgc hcj hcj' hcc hj hbj
            go_wp2_with fail
            refine wp_region_until (fun w' => w'.cell? ⟨gc, oc + k, none⟩ = some (.int .i64 (x + 1)) ∧ w'.cell? ⟨gc, oc + j, none⟩ = some (.int .i64 x)) (fun _ => false) 15 (by rfl) (by kernel_rfl) ?_
            refine until_pure 0 (v := ?_) (by rfl) (by kernel_rfl) (by exact fun _ _ _ h => h) (by rfl) ?_ ?_
            rotate_left
            · intro w
              go_simp
              try with_reducible rfl
            try simp only [Act.put, List.setIfInBounds_toArray, List.set_cons_zero, List.set_cons_succ]
            refine until_pure 1 (v := ?_) (by rfl) (by kernel_rfl) (by exact fun _ _ _ h => h) (by rfl) ?_ ?_
            rotate_left
            · intro w
              go_simp
              try with_reducible rfl
            try simp only [Act.put, List.setIfInBounds_toArray, List.set_cons_zero, List.set_cons_succ]
            refine until_pure 2 (v := ?_) (by rfl) (by kernel_rfl) (by exact fun _ _ _ h => h) (by rfl) ?_ ?_
            rotate_left
            · intro w
              go_simp
              try with_reducible rfl
            try simp only [Act.put, List.setIfInBounds_toArray, List.set_cons_zero, List.set_cons_succ]
            refine until_pure 3 (v := ?_) (by rfl) (by kernel_rfl) (by exact fun _ _ _ h => h) (by rfl) ?_ ?_
            rotate_left
            · intro w
              go_simp
              try with_reducible rfl
            try simp only [Act.put, List.setIfInBounds_toArray, List.set_cons_zero, List.set_cons_succ]
            refine until_pure 4 (v := ?_) (by rfl) (by kernel_rfl) (by exact fun _ _ _ h => h) (by rfl) ?_ ?_
            rotate_left
            · intro w
              go_simp
              try with_reducible rfl
            try simp only [Act.put, List.setIfInBounds_toArray, List.set_cons_zero, List.set_cons_succ]
            refine until_pure 5 (v := ?_) (by rfl) (by kernel_rfl) (by exact fun _ _ _ h => h) (by rfl) ?_ ?_
            rotate_left
            · intro w
              go_simp
              try with_reducible rfl
            try simp only [Act.put, List.setIfInBounds_toArray, List.set_cons_zero, List.set_cons_succ]
            refine until_take 6 (v := ?_) (by rfl) (by kernel_rfl) (by exact fun _ _ _ h => h) (by rfl) ?_ S0.out ?_
            rotate_left
            · intro w hSw
              try dsimp only at hSw
              go_simp
              try with_reducible rfl
            try simp only [Act.put, List.setIfInBounds_toArray, List.set_cons_zero, List.set_cons_succ]
            refine until_pure 7 (v := ?_) (by rfl) (by kernel_rfl) (by exact fun _ _ _ h => h) (by rfl) ?_ ?_
            rotate_left
            · intro w
              go_simp
              try with_reducible rfl
            try simp only [Act.put, List.setIfInBounds_toArray, List.set_cons_zero, List.set_cons_succ]
            refine until_pure 8 (v := ?_) (by rfl) (by kernel_rfl) (by exact fun _ _ _ h => h) (by rfl) ?_ ?_
            rotate_left
            · intro w
              go_simp
              try with_reducible rfl
            try simp only [Act.put, List.setIfInBounds_toArray, List.set_cons_zero, List.set_cons_succ]
            refine until_pure 9 (v := ?_) (by rfl) (by kernel_rfl) (by exact fun _ _ _ h => h) (by rfl) ?_ ?_
            rotate_left
            · intro w
              go_simp
              try with_reducible rfl
            try simp only [Act.put, List.setIfInBounds_toArray, List.set_cons_zero, List.set_cons_succ]
            refine until_pure 10 (v := ?_) (by rfl) (by kernel_rfl) (by exact fun _ _ _ h => h) (by rfl) ?_ ?_
            rotate_left
            · intro w
              go_simp
              try with_reducible rfl
            try simp only [Act.put, List.setIfInBounds_toArray, List.set_cons_zero, List.set_cons_succ]
            refine until_take 11 (v := ?_) (by rfl) (by kernel_rfl) (by exact fun _ _ _ h => h) (by rfl) ?_ S0.out ?_
            rotate_left
            · intro w hSw
              try dsimp only at hSw
              go_simp
              try with_reducible rfl
            try simp only [Act.put, List.setIfInBounds_toArray, List.set_cons_zero, List.set_cons_succ]
            refine until_pure 12 (v := ?_) (by rfl) (by kernel_rfl) (by exact fun _ _ _ h => h) (by rfl) ?_ ?_
            rotate_left
            · intro w
              go_simp
              try with_reducible rfl
            try simp only [Act.put, List.setIfInBounds_toArray, List.set_cons_zero, List.set_cons_succ]
            refine until_pure 13 (v := ?_) (by rfl) (by kernel_rfl) (by exact fun _ _ _ h => h) (by rfl) ?_ ?_
            rotate_left
            · intro w
              go_simp
              try with_reducible rfl
            try simp only [Act.put, List.setIfInBounds_toArray, List.set_cons_zero, List.set_cons_succ]
            refine until_pure 14 (v := ?_) (by rfl) (by kernel_rfl) (by exact fun _ _ _ h => h) (by rfl) ?_ ?_
            rotate_left
            · intro w
              go_simp
              try with_reducible rfl
            try simp only [Act.put, List.setIfInBounds_toArray, List.set_cons_zero, List.set_cons_succ]
            refine until_done (by kernel_rfl) ?_ _
            go_wp2_with fail
            go_roundw
            case rel => exact ⟨k + 1, by omega, by go_num, HLk.out⟩
            case measure => simp [intOf]; omega
        · obtain rfl : k = M := by omega
          have A8 : Hid (Owns wr w3.heap.size 33 2 (.slice A5 m5 c5) (ptR l)) := A6.out.on HLk.out.below
          have L8 : Hid (Owns wr w.heap.size 33 2 ul (ptR l)) := L6.out.on HLk.out.below
          have B8 : Hid (Below w.heap.size w wr) := B6.out.trans (HLk.out.below.mono B6.out.size)
          have cS := samePoints l (.slice A5 m5 c5) ul wr.drew wr.drew.heap.size (A8.out.kept fun _ _ _ => rfl : Owns wr.drew w3.heap.size 33 2 (.slice A5 m5 c5) (ptR l)).lies (L8.out.kept fun _ _ _ => rfl : Owns wr.drew w.heap.size 33 2 ul (ptR l)).lies (by have := L60.out; omega)
          have BD : Hid (Below w.heap.size w wr.drew) := B8.out.drew
          have LD : Hid (Like w6 wr.drew) := HLk.out
          by_cases hk0 : k = 0
          · have d0 : decide ((0 : Int) < (k : Int)) = false := decide_eq_false (by omega)
            have d1 : decide (0 < k) = false := decide_eq_false (by omega)
            clear hk0
            go_wp2_with fail
            refine wp_region_until (fun _ => True) (fun _ => false) 28 (by rfl) (by kernel_rfl) ?_
            refine until_pure 0 (v := ?_) (by rfl) (by kernel_rfl) (by exact fun _ _ _ h => h) (by rfl) ?_ ?_
            rotate_left
            · intro w
              go_simp
              try with_reducible rfl
            try simp only [Act.put, List.setIfInBounds_toArray, List.set_cons_zero, List.set_cons_succ]
            refine until_pure 1 (v := ?_) (by rfl) (by kernel_rfl) (by exact fun _ _ _ h => h) (by rfl) ?_ ?_
            rotate_left
            · intro w
              go_simp
              try with_reducible rfl
            try simp only [Act.put, List.setIfInBounds_toArray, List.set_cons_zero, List.set_cons_succ]
            refine until_pure 2 (v := ?_) (by rfl) (by kernel_rfl) (by exact fun _ _ _ h => h) (by rfl) ?_ ?_
            rotate_left
            · intro w
              go_simp
              try with_reducible rfl
            try simp only [Act.put, List.setIfInBounds_toArray, List.set_cons_zero, List.set_cons_succ]
            refine until_pure 3 (v := ?_) (by rfl) (by kernel_rfl) (by exact fun _ _ _ h => h) (by rfl) ?_ ?_
            rotate_left
            · intro w
              go_simp
              try with_reducible rfl
            try simp only [Act.put, List.setIfInBounds_toArray, List.set_cons_zero, List.set_cons_succ]
            refine until_skip 4 (by rfl) (by kernel_rfl) (by exact fun _ _ _ h => h) (by rfl) ?_
            try simp only [Act.put, List.setIfInBounds_toArray, List.set_cons_zero, List.set_cons_succ]
            refine until_skip 5 (by rfl) (by kernel_rfl) (by exact fun _ _ _ h => h) (by rfl) ?_
            try simp only [Act.put, List.setIfInBounds_toArray, List.set_cons_zero, List.set_cons_succ]
            refine until_skip 6 (by rfl) (by kernel_rfl) (by exact fun _ _ _ h => h) (by rfl) ?_
            try simp only [Act.put, List.setIfInBounds_toArray, List.set_cons_zero, List.set_cons_succ]
            refine until_skip 7 (by rfl) (by kernel_rfl) (by exact fun _ _ _ h => h) (by rfl) ?_
            try simp only [Act.put, List.setIfInBounds_toArray, List.set_cons_zero, List.set_cons_succ]
            refine until_skip 8 (by rfl) (by kernel_rfl) (by exact fun _ _ _ h => h) (by rfl) ?_
            try simp only [Act.put, List.setIfInBounds_toArray, List.set_cons_zero, List.set_cons_succ]
            refine until_skip 9 (by rfl) (by kernel_rfl) (by exact fun _ _ _ h => h) (by rfl) ?_
            try simp only [Act.put, List.setIfInBounds_toArray, List.set_cons_zero, List.set_cons_succ]
            refine until_skip 10 (by rfl) (by kernel_rfl) (by exact fun _ _ _ h => h) (by rfl) ?_
            try simp only [Act.put, List.setIfInBounds_toArray, List.set_cons_zero, List.set_cons_succ]
            refine until_skip 11 (by rfl) (by kernel_rfl) (by exact fun _ _ _ h => h) (by rfl) ?_
            try simp only [Act.put, List.setIfInBounds_toArray, List.set_cons_zero, List.set_cons_succ]
            refine until_skip 12 (by rfl) (by kernel_rfl) (by exact fun _ _ _ h => h) (by rfl) ?_
            try simp only [Act.put, List.setIfInBounds_toArray, List.set_cons_zero, List.set_cons_succ]
            refine until_skip 13 (by rfl) (by kernel_rfl) (by exact fun _ _ _ h => h) (by rfl) ?_
            try simp only [Act.put, List.setIfInBounds_toArray, List.set_cons_zero, List.set_cons_succ]
            refine until_skip 14 (by rfl) (by kernel_rfl) (by exact fun _ _ _ h => h) (by rfl) ?_
            try simp only [Act.put, List.setIfInBounds_toArray, List.set_cons_zero, List.set_cons_succ]
            refine until_skip 15 (by rfl) (by kernel_rfl) (by exact fun _ _ _ h => h) (by rfl) ?_
            try simp only [Act.put, List.setIfInBounds_toArray, List.set_cons_zero, List.set_cons_succ]
            refine until_skip 16 (by rfl) (by kernel_rfl) (by exact fun _ _ _ h => h) (by rfl) ?_
            try simp only [Act.put, List.setIfInBounds_toArray, List.set_cons_zero, List.set_cons_succ]
            refine until_skip 17 (by rfl) (by kernel_rfl) (by exact fun _ _ _ h => h) (by rfl) ?_
            try simp only [Act.put, List.setIfInBounds_toArray, List.set_cons_zero, List.set_cons_succ]
            refine until_skip 18 (by rfl) (by kernel_rfl) (by exact fun _ _ _ h => h) (by rfl) ?_
            try simp only [Act.put, List.setIfInBounds_toArray, List.set_cons_zero, List.set_cons_succ]
            refine until_skip 19 (by rfl) (by kernel_rfl) (by exact fun _ _ _ h => h) (by rfl) ?_
            try simp only [Act.put, List.setIfInBounds_toArray, List.set_cons_zero, List.set_cons_succ]
            refine until_skip 20 (by rfl) (by kernel_rfl) (by exact fun _ _ _ h => h) (by rfl) ?_
            try simp only [Act.put, List.setIfInBounds_toArray, List.set_cons_zero, List.set_cons_succ]
            refine until_skip 21 (by rfl) (by kernel_rfl) (by exact fun _ _ _ h => h) (by rfl) ?_
            try simp only [Act.put, List.setIfInBounds_toArray, List.set_cons_zero, List.set_cons_succ]
            refine until_skip 22 (by rfl) (by kernel_rfl) (by exact fun _ _ _ h => h) (by rfl) ?_
            try simp only [Act.put, List.setIfInBounds_toArray, List.set_cons_zero, List.set_cons_succ]
            refine until_skip 23 (by rfl) (by kernel_rfl) (by exact fun _ _ _ h => h) (by rfl) ?_
            try simp only [Act.put, List.setIfInBounds_toArray, List.set_cons_zero, List.set_cons_succ]
            refine until_skip 24 (by rfl) (by kernel_rfl) (by exact fun _ _ _ h => h) (by rfl) ?_
            try simp only [Act.put, List.setIfInBounds_toArray, List.set_cons_zero, List.set_cons_succ]
            refine until_skip 25 (by rfl) (by kernel_rfl) (by exact fun _ _ _ h => h) (by rfl) ?_
            try simp only [Act.put, List.setIfInBounds_toArray, List.set_cons_zero, List.set_cons_succ]
            refine until_skip 26 (by rfl) (by kernel_rfl) (by exact fun _ _ _ h => h) (by rfl) ?_
            try simp only [Act.put, List.setIfInBounds_toArray, List.set_cons_zero, List.set_cons_succ]
            refine until_pure 27 (v := ?_) (by rfl) (by kernel_rfl) (by exact fun _ _ _ h => h) (by rfl) ?_ ?_
            rotate_left
            · intro w
              go_simp
              try with_reducible rfl
            try simp only [Act.put, List.setIfInBounds_toArray, List.set_cons_zero, List.set_cons_succ]
            refine until_done (by kernel_rfl) ?_ _
            go_wp2_with fail
            refine cS.mono ?_
            rintro e w9 ⟨rfl, hL9⟩
            have B9 : Hid (Below w.heap.size w w9) := BD.out.trans (hL9.below.mono BD.out.size)
            clear hL9
            go_wp2_with fail
            go_ret
            exact ⟨rfl, B9.out⟩
          · have h3 := HC3.out (by omega)
            obtain ⟨j, hj⟩ : ∃ j, k = j + 1 := ⟨k - 1, by omega⟩
            obtain ⟨gc, oc, rfl, hgc, hc0⟩ := HCell.out 0 (by omega)
            obtain ⟨gc2, oc2, e2, _, hcj⟩ := HCell.out j (by omega)
            cases e2
            rw [show j = k - 1 by omega, h3.2] at hcj
            rw [h3.1] at hc0
            have hc0' : wr.drew.cell? ⟨gc, oc, none⟩ = some (.int .i64 (bkt f)) := (LD.out.below.cell (p := ⟨gc, _, none⟩) hgc).trans hc0
            have hcj' : wr.drew.cell? ⟨gc, oc + j, none⟩ = some (.int .i64 (bkt (t - 1))) := (LD.out.below.cell (p := ⟨gc, _, none⟩) hgc).trans (by rw [show j = k - 1 by omega]; exact hcj)
            have S0 : Hid (wr.drew.cell? ⟨gc, oc, none⟩ = some (.int .i64 (bkt f)) ∧ wr.drew.cell? ⟨gc, oc + j, none⟩ = some (.int .i64 (bkt (t - 1)))) := ⟨hc0', hcj'⟩
            have gk : IntKind.i64.wrap ((k : Int) - 1) = (j : Int) := by rw [IntKind.wrap_i64]; omega
            have qj : (j : Int) < (k : Int) := by omega
            have q0' : (0 : Int) < (k : Int) := by omega
            have q0n : 0 < k := by omega
            have d0 : decide ((0 : Int) < (k : Int)) = true := decide_eq_true (by omega)
            have d1 : decide (0 < k) = true := decide_eq_true (by omega)
            have d8 : decide ((8 : Int) < (k : Int)) = false := decide_eq_false (by omega)
            have d8' : decide (8 < k) = false := decide_eq_false (by omega)
            generalize bkt f = bf at *
            generalize bkt (t - 1) = bt at *
            clear hk0 hj h3 hc0 hcj hc0' hcj' hgc
            go_wp2_with fail
            refine wp_region_until (fun w' => w'.cell? ⟨gc, oc, none⟩ = some (.int .i64 bf) ∧ w'.cell? ⟨gc, oc + j, none⟩ = some (.int .i64 bt)) (fun _ => false) 28 (by rfl) (by kernel_rfl) ?_
            refine until_pure 0 (v := ?_) (by rfl) (by kernel_rfl) (by exact fun _ _ _ h => h) (by rfl) ?_ ?_
            rotate_left
            · intro w
              go_simp
              try with_reducible rfl
            try simp only [Act.put, List.setIfInBounds_toArray, List.set_cons_zero, List.set_cons_succ]
            refine until_pure 1 (v := ?_) (by rfl) (by kernel_rfl) (by exact fun _ _ _ h => h) (by rfl) ?_ ?_
            rotate_left
            · intro w
              go_simp
              try with_reducible rfl
            try simp only [Act.put, List.setIfInBounds_toArray, List.set_cons_zero, List.set_cons_succ]
            refine until_pure 2 (v := ?_) (by rfl) (by kernel_rfl) (by exact fun _ _ _ h => h) (by rfl) ?_ ?_
            rotate_left
            · intro w
              go_simp
              try with_reducible rfl
            try simp only [Act.put, List.setIfInBounds_toArray, List.set_cons_zero, List.set_cons_succ]
            refine until_pure 3 (v := ?_) (by rfl) (by kernel_rfl) (by exact fun _ _ _ h => h) (by rfl) ?_ ?_
            rotate_left
            · intro w
              go_simp
              try with_reducible rfl
            try simp only [Act.put, List.setIfInBounds_toArray, List.set_cons_zero, List.set_cons_succ]
            refine until_pure 4 (v := ?_) (by rfl) (by kernel_rfl) (by exact fun _ _ _ h => h) (by rfl) ?_ ?_
            rotate_left
            · intro w
              go_simp
              try with_reducible rfl
            try simp only [Act.put, List.setIfInBounds_toArray, List.set_cons_zero, List.set_cons_succ]
            refine until_pure 5 (v := ?_) (by rfl) (by kernel_rfl) (by exact fun _ _ _ h => h) (by rfl) ?_ ?_
            rotate_left
            · intro w
              go_simp
              try with_reducible rfl
            try simp only [Act.put, List.setIfInBounds_toArray, List.set_cons_zero, List.set_cons_succ]
            refine until_take 6 (v := ?_) (by rfl) (by kernel_rfl) (by exact fun _ _ _ h => h) (by rfl) ?_ S0.out ?_
            rotate_left
            · intro w hSw
              try dsimp only at hSw
              go_simp
              try with_reducible rfl
            try simp only [Act.put, List.setIfInBounds_toArray, List.set_cons_zero, List.set_cons_succ]
            refine until_pure 7 (v := ?_) (by rfl) (by kernel_rfl) (by exact fun _ _ _ h => h) (by rfl) ?_ ?_
            rotate_left
            · intro w
              go_simp
              try with_reducible rfl
            try simp only [Act.put, List.setIfInBounds_toArray, List.set_cons_zero, List.set_cons_succ]
            refine until_one 8 (by rfl) (by kernel_rfl) (fun K hK => ?_)
            go_simp
            refine (cF _).mono ?_
            rintro _ _ ⟨rfl, rfl⟩
            go_wp2_with fail
            refine hK.out _ _ (fun _ h => h) ?_
            clear hK K
            try simp only [Act.put, List.setIfInBounds_toArray, List.set_cons_zero, List.set_cons_succ]
            refine until_pure 9 (v := ?_) (by rfl) (by kernel_rfl) (by exact fun _ _ _ h => h) (by rfl) ?_ ?_
            rotate_left
            · intro w
              go_simp
              try with_reducible rfl
            try simp only [Act.put, List.setIfInBounds_toArray, List.set_cons_zero, List.set_cons_succ]
            refine until_pure 10 (v := ?_) (by rfl) (by kernel_rfl) (by exact fun _ _ _ h => h) (by rfl) ?_ ?_
            rotate_left
            · intro w
              go_simp
              try with_reducible rfl
            try simp only [Act.put, List.setIfInBounds_toArray, List.set_cons_zero, List.set_cons_succ]
            refine until_pure 11 (v := ?_) (by rfl) (by kernel_rfl) (by exact fun _ _ _ h => h) (by rfl) ?_ ?_
            rotate_left
            · intro w
              go_simp
              try with_reducible rfl
            try simp only [Act.put, List.setIfInBounds_toArray, List.set_cons_zero, List.set_cons_succ]
            refine until_pure 12 (v := ?_) (by rfl) (by kernel_rfl) (by exact fun _ _ _ h => h) (by rfl) ?_ ?_
            rotate_left
            · intro w
              go_simp
              try with_reducible rfl
            try simp only [Act.put, List.setIfInBounds_toArray, List.set_cons_zero, List.set_cons_succ]
            refine until_pure 13 (v := ?_) (by rfl) (by kernel_rfl) (by exact fun _ _ _ h => h) (by rfl) ?_ ?_
            rotate_left
            · intro w
              go_simp
              try with_reducible rfl
            try simp only [Act.put, List.setIfInBounds_toArray, List.set_cons_zero, List.set_cons_succ]
            refine until_pure 14 (v := ?_) (by rfl) (by kernel_rfl) (by exact fun _ _ _ h => h) (by rfl) ?_ ?_
            rotate_left
            · intro w
              go_simp
              try with_reducible rfl
            try simp only [Act.put, List.setIfInBounds_toArray, List.set_cons_zero, List.set_cons_succ]
            refine until_pure 15 (v := ?_) (by rfl) (by kernel_rfl) (by exact fun _ _ _ h => h) (by rfl) ?_ ?_
            rotate_left
            · intro w
              go_simp
              try with_reducible rfl
            try simp only [Act.put, List.setIfInBounds_toArray, List.set_cons_zero, List.set_cons_succ]
            refine until_take 16 (v := ?_) (by rfl) (by kernel_rfl) (by exact fun _ _ _ h => h) (by rfl) ?_ S0.out ?_
            rotate_left
            · intro w hSw
              try dsimp only at hSw
              go_simp
              try with_reducible rfl
            try simp only [Act.put, List.setIfInBounds_toArray, List.set_cons_zero, List.set_cons_succ]
            refine until_pure 17 (v := ?_) (by rfl) (by kernel_rfl) (by exact fun _ _ _ h => h) (by rfl) ?_ ?_
            rotate_left
            · intro w
              go_simp
              try with_reducible rfl
            try simp only [Act.put, List.setIfInBounds_toArray, List.set_cons_zero, List.set_cons_succ]
            refine until_pure 18 (v := ?_) (by rfl) (by kernel_rfl) (by exact fun _ _ _ h => h) (by rfl) ?_ ?_
            rotate_left
            · intro w
              go_simp
              try with_reducible rfl
            try simp only [Act.put, List.setIfInBounds_toArray, List.set_cons_zero, List.set_cons_succ]
            refine until_one 19 (by rfl) (by kernel_rfl) (fun K hK => ?_)
            go_simp
            refine (cT _).mono ?_
            rintro _ _ ⟨rfl, rfl⟩
            go_wp2_with fail
            refine hK.out _ _ (fun _ h => h) ?_
            clear hK K
            try simp only [Act.put, List.setIfInBounds_toArray, List.set_cons_zero, List.set_cons_succ]
            refine until_pure 20 (v := ?_) (by rfl) (by kernel_rfl) (by exact fun _ _ _ h => h) (by rfl) ?_ ?_
            rotate_left
            · intro w
              go_simp
              try with_reducible rfl
            try simp only [Act.put, List.setIfInBounds_toArray, List.set_cons_zero, List.set_cons_succ]
            refine until_pure 21 (v := ?_) (by rfl) (by kernel_rfl) (by exact fun _ _ _ h => h) (by rfl) ?_ ?_
            rotate_left
            · intro w
              go_simp
              try with_reducible rfl
            try simp only [Act.put, List.setIfInBounds_toArray, List.set_cons_zero, List.set_cons_succ]
            refine until_pure 22 (v := ?_) (by rfl) (by kernel_rfl) (by exact fun _ _ _ h => h) (by rfl) ?_ ?_
            rotate_left
            · intro w
              go_simp
              try with_reducible rfl
            try simp only [Act.put, List.setIfInBounds_toArray, List.set_cons_zero, List.set_cons_succ]
            refine until_pure 23 (v := ?_) (by rfl) (by kernel_rfl) (by exact fun _ _ _ h => h) (by rfl) ?_ ?_
            rotate_left
            · intro w
              go_simp
              try with_reducible rfl
            try simp only [Act.put, List.setIfInBounds_toArray, List.set_cons_zero, List.set_cons_succ]
            refine until_pure 24 (v := ?_) (by rfl) (by kernel_rfl) (by exact fun _ _ _ h => h) (by rfl) ?_ ?_
            rotate_left
            · intro w
              go_simp
              try with_reducible rfl
            try simp only [Act.put, List.setIfInBounds_toArray, List.set_cons_zero, List.set_cons_succ]
            refine until_pure 25 (v := ?_) (by rfl) (by kernel_rfl) (by exact fun _ _ _ h => h) (by rfl) ?_ ?_
            rotate_left
            · intro w
              go_simp
              try with_reducible rfl
            try simp only [Act.put, List.setIfInBounds_toArray, List.set_cons_zero, List.set_cons_succ]
            refine until_pure 26 (v := ?_) (by rfl) (by kernel_rfl) (by exact fun _ _ _ h => h) (by rfl) ?_ ?_
            rotate_left
            · intro w
              go_simp
              try with_reducible rfl
            try simp only [Act.put, List.setIfInBounds_toArray, List.set_cons_zero, List.set_cons_succ]
            refine until_pure 27 (v := ?_) (by rfl) (by kernel_rfl) (by exact fun _ _ _ h => h) (by rfl) ?_ ?_
            rotate_left
            · intro w
              go_simp
              try with_reducible rfl
            try simp only [Act.put, List.setIfInBounds_toArray, List.set_cons_zero, List.set_cons_succ]
            refine until_done (by kernel_rfl) ?_ _
            go_wp2_with fail
            refine cS.mono ?_
            rintro e w9 ⟨rfl, hL9⟩
            have B9 : Hid (Below w.heap.size w w9) := BD.out.trans (hL9.below.mono BD.out.size)
            clear hL9
            go_wp2_with fail
            go_ret
            exact ⟨rfl, B9.out⟩
end Go.Proofs.Ytfkgaoegdnkfcaa
