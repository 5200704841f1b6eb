/-
  Contracts of spec.ShowTimes and impl.ShowTimes.
-/
import Derived.Test.YthgiekeiljflaaaDoorRows
import Derived.Test.YthgiekeiljflaaaDoorBtRise
import Derived.Test.YthgiekeiljflaaaDoorBtDif
import Derived.Test.YthgiekeiljflaaaDoorNmBlk
namespace Go.Proofs.YthgiekeiljflaaaDoor
open Go.ChangeShapes Go.WideShapes Go.ChangeAt Go.RowKit Go.PlainAid
set_option linter.unusedVariables false

set_option maxHeartbeats 2000000 in
theorem specShowTimes (l : List Int) (v : Value) (w : World) (B : Nat) (hv : NumsV w B v l) (hn : l.length ≤ 1048576) (hB : B ≤ w.heap.size) : Calls Tryd.prog 62 #[v] w fun e w' => e = .returned (.string (showT l)) ∧ Below w.heap.size w w' := by
  have c := specRise l v w B hv hn
  have HV : Hid (NumsV w B v l) := hv
  have HB : Hid (B ≤ w.heap.size) := hB
  by_cases ho : TOk l
  · obtain ⟨g, off, cap, rfl, _, _, hg, hc0⟩ := hv.full ho.1
    have HC : Hid (∀ wx, Below w.heap.size w wx → ∀ j, j < l.length → wx.cell? ⟨g, off + j, none⟩ = some (.int .i64 (l.getD j 0))) := fun wx hx => hc0 wx (hx.mono hB)
    have HE : Hid (showT l = txt (cat (tPiece l) l.length)) := by unfold Hid showT; rw [if_pos ho]
    have HO : Hid (TOk l) := ho
    rw [decide_eq_true ho] at c
    have q0 : (l.length : Int) ≤ 60 := by have := ho.2.1; omega
    have q1 : (1 : Int) ≤ (l.length : Int) := by have := ho.1; omega
    have hq1 : 1 ≤ l.length := by have := ho.1; omega
    clear ho hn hB hc0 hv
    generalize hN : l.length = n at *
    have HN : Hid (l.length = n) := hN
    clear hN
    go_enter Tryd.func62, Tryd.ntmps62
    go_wp2_with fail
    refine c.mono ?_
    rintro e w0 ⟨rfl, hL0⟩
    have B0 : Hid (Below w.heap.size w w0) := hL0.below
    have e1 := HC.out w0 B0.out 0 hq1
    have e00 : off + 0 = off := rfl
    rw [e00] at e1
    have hT0 := HO.out.turn 0 (by rw [HN.out]; exact hq1)
    have ht0 : turn l 0 = l.getD 0 0 := by unfold turn dif prv; simp
    have cv0 := fun wx => spec_var (turn l 0).toNat wx (by omega)
    rw [Int.toNat_of_nonneg hT0.1] at cv0
    have HC1 : Hid (txt (cat (tPiece l) 1) = txt (vF 6 (turn l 0).toNat)) := by unfold Hid; rw [cat_succ, cat_zero]; rfl
    generalize txt (vF 6 (turn l 0).toNat) = s1 at *
    rw [ht0] at cv0
    clear e00 hT0 ht0 hL0
    generalize l.getD 0 0 = x0 at *
    go_wp2_with fail
    refine (cv0 _).mono ?_
    rintro e w1 ⟨rfl, hb1⟩
    have B1 : Hid (Below w.heap.size w w1) := B0.out.trans (hb1.mono B0.out.size)
    clear hb1 cv0 e1
    go_wp2_with fail
    go_loopw [3, 4] (fun v3 v4 wr => ∃ k : Nat, 1 ≤ k ∧ k ≤ n ∧ v4 = .int .i64 (k : Int) ∧ v3 = .string (txt (cat (tPiece l) k)) ∧ Below w.heap.size w wr) (fun _ i _ => n - (intOf i).toNat)
    case atStart => exact ⟨1, by omega, by omega, rfl, by rw [HC1.out], B1.out⟩
    case round =>
      obtain ⟨k, hk1, hk, rfl, rfl, hb⟩ := hrel
      have HB1 : Hid (Below w.heap.size w wr) := hb
      by_cases hlt : k < n
      · have q2 : (k : Int) < (n : Int) := by omega
        have q3 : (1 : Int) ≤ (k : Int) := by omega
        have e1 := HC.out wr hb k hlt
        have e0 := HC.out wr hb (k - 1) (by omega)
        have hdk := HO.out.dif k (by rw [HN.out]; exact hlt)
        have hpk := HO.out.2.2 k (by rw [HN.out]; exact hlt)
        have hpj := HO.out.2.2 (k - 1) (by rw [HN.out]; omega)
        have ed : dif l k = l.getD k 0 - l.getD (k - 1) 0 := by unfold dif prv; rw [if_neg (by omega)]
        have hT := HO.out.turn k (by rw [HN.out]; exact hlt)
        have cv := fun wx => spec_var (turn l k).toNat wx (by omega)
        rw [Int.toNat_of_nonneg hT.1] at cv
        have ecat : cat (tPiece l) (k + 1) = cat (tPiece l) k ++ vF 6 (turn l k).toNat := cat_succ _ _
        have hl1 := cat_length (tPiece l) (tPiece_length l) k
        have hl2 := vF_length 6 (turn l k).toNat
        have HCT : Hid (txt (cat (tPiece l) (k + 1)) = txt (cat (tPiece l) k) ++ txt (vF 6 (turn l k).toNat)) := by unfold Hid; rw [ecat, txt_cat]
        have hs1 := txt_size (cat (tPiece l) k)
        have hs2 := txt_size (vF 6 (turn l k).toNat)
        generalize txt (cat (tPiece l) k) = sa at *
        generalize txt (vF 6 (turn l k).toNat) = sb at *
        have hsum : sa.size + sb.size ≤ 9223372036854775807 := by omega
        have e3 : ((k : Int) - 1).toNat = k - 1 := by omega
        have ew : wrap64 (l.getD k 0 - l.getD (k - 1) 0) = l.getD k 0 - l.getD (k - 1) 0 := by unfold wrap64; omega
        clear ecat hl1 hl2 hs1 hs2
        by_cases hk1 : k = 1
        · have et : turn l k = dif l k := by unfold turn; rw [if_pos (by omega)]
          rw [et, ed] at cv
          clear et hT ed hdk hpk hpj
          subst hk1
          have e0' : wr.cell? ⟨g, off, none⟩ = some (.int .i64 (l.getD (1 - 1) 0)) := e0
          clear e0 e3
          generalize l.getD 1 0 = x at *
          generalize l.getD (1 - 1) 0 = y at *
          go_wp2_with fail
          go_quiet (fail)
          go_wp2_with fail
          refine (cv _).mono ?_
          rintro e w2 ⟨rfl, hb2⟩
          have HB2 : Hid (Below w.heap.size w w2) := (HB1.out.trans (((Like.refl wr).drewN _).below.mono HB1.out.size)).trans (hb2.mono HB1.out.size)
          clear hb2
          go_wp2_with fail
          go_roundw
          case rel => exact ⟨2, by omega, by omega, by go_num, by rw [HCT.out], HB2.out⟩
          case measure => simp [intOf]; omega
        · have et : turn l k = zig (dif l k - dif l (k - 1)) := by unfold turn; rw [if_neg (by omega)]
          have ed2 : dif l (k - 1) = l.getD (k - 1) 0 - l.getD (k - 2) 0 := by unfold dif prv; rw [if_neg (by omega), Nat.sub_sub]
          have hdj := HO.out.dif (k - 1) (by rw [HN.out]; omega)
          have cz := fun wx => spec_zig (dif l k - dif l (k - 1)) wx (by omega) (by omega)
          rw [← et] at cz
          rw [ed, ed2] at cz
          have f0 := HC.out wr hb (k - 2) (by omega)
          have hpi := HO.out.2.2 (k - 2) (by rw [HN.out]; omega)
          have e4 : ((k : Int) - 2).toNat = k - 2 := by omega
          have q5 : ¬ (k : Int) = 1 := by omega
          have q6 : (2 : Int) ≤ (k : Int) := by omega
          have q7 : decide ((k : Int) = 1) = false := decide_eq_false q5
          have q8 : ((k : Int) == 1) = false := by simp; omega
          have ew2 : wrap64 (l.getD (k - 1) 0 - l.getD (k - 2) 0) = l.getD (k - 1) 0 - l.getD (k - 2) 0 := by unfold wrap64; omega
          have ew3 : wrap64 (l.getD k 0 - l.getD (k - 1) 0 - (l.getD (k - 1) 0 - l.getD (k - 2) 0)) = l.getD k 0 - l.getD (k - 1) 0 - (l.getD (k - 1) 0 - l.getD (k - 2) 0) := by unfold wrap64; omega
          have HCY0 : ∀ wx, Below w.heap.size w wx → wx.cell? ⟨g, off + (k - 1), none⟩ = some (.int .i64 (l.getD (k - 1) 0)) ∧ wx.cell? ⟨g, off + (k - 2), none⟩ = some (.int .i64 (l.getD (k - 2) 0)) := fun wx hx => ⟨HC.out wx hx (k - 1) (by omega), HC.out wx hx (k - 2) (by omega)⟩
          generalize turn l k = tt at *
          clear ed ed2 et hdk hdj
          generalize l.getD k 0 = x at *
          generalize l.getD (k - 1) 0 = y at *
          generalize l.getD (k - 2) 0 = z at *
          go_wp2_with fail
          go_quiet (fail)
          go_wp2_with fail
          have g1 : IntKind.i64.wrap ((k : Int) - 1) = (k : Int) - 1 := by rw [IntKind.wrap_i64]; omega
          have g2 : IntKind.i64.wrap ((k : Int) - 2) = (k : Int) - 2 := by rw [IntKind.wrap_i64]; omega
          have g3 : (0 : Int) ≤ (k : Int) - 1 := by omega
          have g4 : (k : Int) - 1 < (n : Int) := by omega
          have g5 : (0 : Int) ≤ (k : Int) - 2 := by omega
          have g6 : (k : Int) - 2 < (n : Int) := by omega
          have g7 : IntKind.i64.wrap (y - z) = y - z := by rw [IntKind.wrap_i64]; omega
          have g8 : IntKind.i64.wrap (x - y - (y - z)) = x - y - (y - z) := by rw [IntKind.wrap_i64]; omega
          have g9 : sa.size + sb.size ≤ maxLen := by unfold maxLen; omega
          have g10 : ¬ maxLen < sa.size + sb.size := by unfold maxLen; omega
          have S0 : Hid (wr.cell? ⟨g, off + (k - 1), none⟩ = some (.int .i64 y) ∧ wr.cell? ⟨g, off + (k - 2), none⟩ = some (.int .i64 z)) := ⟨e0, f0⟩
          have HCY : Hid (∀ wx, Below w.heap.size w wx → wx.cell? ⟨g, off + (k - 1), none⟩ = some (.int .i64 y) ∧ wx.cell? ⟨g, off + (k - 2), none⟩ = some (.int .i64 z)) := HCY0
          refine wp_region_until (fun w' => w'.cell? ⟨g, off + (k - 1), none⟩ = some (.int .i64 y) ∧ w'.cell? ⟨g, off + (k - 2), none⟩ = some (.int .i64 z)) (fun i => false) 18 (by rfl) (by kernel_rfl) ?_
          refine until_take 0 (v := ?_) (by rfl) (by kernel_rfl) (by exact fun _ _ _ h => h) (by rfl) ?_ S0.out ?_
          rotate_left
          · intro w hSw
            try dsimp only at hSw
            go_simp
            try with_reducible rfl
          try simp only [Act.put, List.setIfInBounds_toArray, List.set_cons_zero, List.set_cons_succ]
          refine until_take 1 (v := ?_) (by rfl) (by kernel_rfl) (by exact fun _ _ _ h => h) (by rfl) ?_ S0.out ?_
          rotate_left
          · intro w hSw
            try dsimp only at hSw
            go_simp
            try with_reducible rfl
          try simp only [Act.put, List.setIfInBounds_toArray, List.set_cons_zero, List.set_cons_succ]
          refine until_take 2 (v := ?_) (by rfl) (by kernel_rfl) (by exact fun _ _ _ h => h) (by rfl) ?_ S0.out ?_
          rotate_left
          · intro w hSw
            try dsimp only at hSw
            go_simp
            try with_reducible rfl
          try simp only [Act.put, List.setIfInBounds_toArray, List.set_cons_zero, List.set_cons_succ]
          refine until_take 3 (v := ?_) (by rfl) (by kernel_rfl) (by exact fun _ _ _ h => h) (by rfl) ?_ S0.out ?_
          rotate_left
          · intro w hSw
            try dsimp only at hSw
            go_simp
            try with_reducible rfl
          try simp only [Act.put, List.setIfInBounds_toArray, List.set_cons_zero, List.set_cons_succ]
          refine until_take 4 (v := ?_) (by rfl) (by kernel_rfl) (by exact fun _ _ _ h => h) (by rfl) ?_ S0.out ?_
          rotate_left
          · intro w hSw
            try dsimp only at hSw
            go_simp
            try with_reducible rfl
          try simp only [Act.put, List.setIfInBounds_toArray, List.set_cons_zero, List.set_cons_succ]
          refine until_take 5 (v := ?_) (by rfl) (by kernel_rfl) (by exact fun _ _ _ h => h) (by rfl) ?_ S0.out ?_
          rotate_left
          · intro w hSw
            try dsimp only at hSw
            go_simp
            try with_reducible rfl
          try simp only [Act.put, List.setIfInBounds_toArray, List.set_cons_zero, List.set_cons_succ]
          refine until_take 6 (v := ?_) (by rfl) (by kernel_rfl) (by exact fun _ _ _ h => h) (by rfl) ?_ S0.out ?_
          rotate_left
          · intro w hSw
            try dsimp only at hSw
            go_simp
            try with_reducible rfl
          try simp only [Act.put, List.setIfInBounds_toArray, List.set_cons_zero, List.set_cons_succ]
          refine until_take 7 (v := ?_) (by rfl) (by kernel_rfl) (by exact fun _ _ _ h => h) (by rfl) ?_ S0.out ?_
          rotate_left
          · intro w hSw
            try dsimp only at hSw
            go_simp
            try with_reducible rfl
          try simp only [Act.put, List.setIfInBounds_toArray, List.set_cons_zero, List.set_cons_succ]
          refine until_take 8 (v := ?_) (by rfl) (by kernel_rfl) (by exact fun _ _ _ h => h) (by rfl) ?_ S0.out ?_
          rotate_left
          · intro w hSw
            try dsimp only at hSw
            go_simp
            try with_reducible rfl
          try simp only [Act.put, List.setIfInBounds_toArray, List.set_cons_zero, List.set_cons_succ]
          refine until_take 9 (v := ?_) (by rfl) (by kernel_rfl) (by exact fun _ _ _ h => h) (by rfl) ?_ S0.out ?_
          rotate_left
          · intro w hSw
            try dsimp only at hSw
            go_simp
            try with_reducible rfl
          try simp only [Act.put, List.setIfInBounds_toArray, List.set_cons_zero, List.set_cons_succ]
          refine until_take 10 (v := ?_) (by rfl) (by kernel_rfl) (by exact fun _ _ _ h => h) (by rfl) ?_ S0.out ?_
          rotate_left
          · intro w hSw
            try dsimp only at hSw
            go_simp
            try with_reducible rfl
          try simp only [Act.put, List.setIfInBounds_toArray, List.set_cons_zero, List.set_cons_succ]
          refine until_take 11 (v := ?_) (by rfl) (by kernel_rfl) (by exact fun _ _ _ h => h) (by rfl) ?_ S0.out ?_
          rotate_left
          · intro w hSw
            try dsimp only at hSw
            go_simp
            try with_reducible rfl
          try simp only [Act.put, List.setIfInBounds_toArray, List.set_cons_zero, List.set_cons_succ]
          refine until_take 12 (v := ?_) (by rfl) (by kernel_rfl) (by exact fun _ _ _ h => h) (by rfl) ?_ S0.out ?_
          rotate_left
          · intro w hSw
            try dsimp only at hSw
            go_simp
            try with_reducible rfl
          try simp only [Act.put, List.setIfInBounds_toArray, List.set_cons_zero, List.set_cons_succ]
          refine until_take 13 (v := ?_) (by rfl) (by kernel_rfl) (by exact fun _ _ _ h => h) (by rfl) ?_ S0.out ?_
          rotate_left
          · intro w hSw
            try dsimp only at hSw
            go_simp
            try with_reducible rfl
          try simp only [Act.put, List.setIfInBounds_toArray, List.set_cons_zero, List.set_cons_succ]
          refine until_one 14 (by rfl) (by kernel_rfl) (fun K hK => ?_)
          go_simp
          refine (cz _).mono ?_
          rintro e w2 ⟨rfl, rfl⟩
          go_wp2_with fail
          refine hK.out _ _ (fun _ _ => S0.out) ?_
          clear hK K
          try simp only [Act.put, List.setIfInBounds_toArray, List.set_cons_zero, List.set_cons_succ]
          refine until_one 15 (by rfl) (by kernel_rfl) (fun K hK => ?_)
          go_simp
          refine (cv _).mono ?_
          rintro e w2 ⟨rfl, hb2⟩
          have HB2 : Hid (Below w.heap.size w w2) := ((HB1.out.trans (((Like.refl wr).drewN _).below.mono HB1.out.size)).drew).trans (hb2.mono HB1.out.size)
          clear hb2
          go_wp2_with fail
          refine hK.out _ _ (fun _ _ => HCY.out w2 HB2.out) ?_
          clear hK K
          try simp only [Act.put, List.setIfInBounds_toArray, List.set_cons_zero, List.set_cons_succ]
          refine until_one 16 (by rfl) (by kernel_rfl) (fun K hK => ?_)
          go_simp
          go_wp2_with fail
          refine hK.out _ _ (fun _ h => h) ?_
          clear hK K
          try simp only [Act.put, List.setIfInBounds_toArray, List.set_cons_zero, List.set_cons_succ]
          refine until_pure 17 (v := ?_) (by rfl) (by kernel_rfl) (by exact fun _ _ _ h => h) (by rfl) ?_ ?_
          rotate_left
          · intro w
            go_simp
            try with_reducible rfl
          try simp only [Act.put, List.setIfInBounds_toArray, List.set_cons_zero, List.set_cons_succ]
          refine until_done (by kernel_rfl) ?_ _
          go_wp2_with fail
          exact ⟨⟨k + 1, by omega, by omega, by go_num, by rw [HCT.out], HB2.out⟩, by simp [intOf]; omega⟩
      · obtain rfl : k = n := by omega
        clear hb
        go_wp2_with fail
        go_ret
        exact ⟨by rw [HE.out]; rfl, HB1.out⟩
  · obtain ⟨A, cap, rfl, _, _, _⟩ := hv
    have HE : Hid (showT l = txt []) := by unfold Hid showT; rw [if_neg ho]
    rw [decide_eq_false ho] at c
    clear ho
    go_enter Tryd.func62, Tryd.ntmps62
    go_wp2_with fail
    refine c.mono ?_
    rintro e w0 ⟨rfl, hL0⟩
    have B0 : Hid (Below w.heap.size w w0) := hL0.below
    clear hL0
    go_wp2_with fail
    go_ret
    exact ⟨by rw [HE.out]; rfl, B0.out⟩
end Go.Proofs.YthgiekeiljflaaaDoor
