/-
  Contracts of spec.ShowRec and impl.ShowRec: what both answer, at every record.
-/
import Derived.Test.YtcghclaobodgjaaDoorRows
import Derived.Test.YtcghclaobodgjaaDoorRcOf
import Derived.Test.YtcghclaobodgjaaDoorNumD
import Derived.Test.YtcghclaobodgjaaDoorUntil
import Derived.Deep.RegionHeld3
import Derived.Handy
namespace Go.Proofs.YtcghclaobodgjaaDoor
open Go.ChangeShapes Go.WideShapes Go.ChangeAt Go.RowKit Go.PlainAid
set_option linter.unusedVariables false

/-- A record as a text. -/
def showB (r : Rcd) : ByteArray := txt [byt r.kind.toNat] ++ txt (vF 6 r.term.toNat) ++ txt (vF 6 r.index.toNat) ++ txt (vF 6 (r.vote + 1).toNat) ++ r.data
def showR (r : Rcd) : ByteArray := if recOk r = true then showB r else ⟨#[]⟩
theorem recOk_in (k t i v : Int) (d : ByteArray) (h : recOk ⟨k, t, i, v, d⟩ = true) : (1 ≤ k ∧ k ≤ 4) ∧ (0 ≤ t ∧ t ≤ 100000) ∧ (0 ≤ i ∧ i ≤ 100000) ∧ (-1 ≤ v ∧ v ≤ 4) ∧ d.size ≤ 900 := by
  have he : d = ByteArray.empty → d.size = 0 := fun h => by subst h; rfl
  rw [recOk_iff, Bool.and_eq_true] at h
  obtain ⟨h1, h2⟩ := h
  have h1 := of_decide_eq_true h1
  unfold rest0 at h2
  rcases (show k = 1 ∨ k = 2 ∨ k = 3 ∨ k = 4 by omega) with rfl | rfl | rfl | rfl
  · simp at h2
    have := he h2.2
    omega
  · simp at h2
    omega
  · simp at h2
    have := he h2.2
    omega
  · simp at h2
    have := he h2.2
    omega
theorem fixed_one (n : Nat) (h : n < 256) : fixed n 1 = txt [byt n] := by
  unfold fixed
  rw [if_pos (by rw [Nat.pow_one]; exact Nat.div_eq_of_lt h)]
  simp [low]
theorem vsize (n : Nat) : (txt (vF 6 n)).size ≤ 7 := by rw [txt_size]; exact vF_length 6 n
theorem len_cat (a b : ByteArray) (n : Nat) (h : a.size + b.size ≤ n) (hn : n ≤ 9000000) : ¬ (9223372036854775807 : Int) < ((a.size + b.size : Nat) : Int) := by omega
theorem len_cat' (a b : ByteArray) (n : Nat) (h : a.size + b.size ≤ n) (hn : n ≤ 9000000) : ¬ (9223372036854775807 : Int) < (a.size : Int) + (b.size : Int) := by omega
theorem conv_one (kn g cap : Nat) (w : World) (h : w.cell? ⟨g, 0, none⟩ = some (.int .u8 (kn : Int))) (hk : kn < 256) : (convert 49 9 (.slice (some ⟨g, 0, none⟩) 1 cap)).run Tryd.prog w = .ok (.string (txt [byt kn])) w := by
  refine run_convert_bytes_back (P := Tryd.prog) w 49 9 5 ⟨g, 0, none⟩ cap [byt kn] Tryd.underlying49 Tryd.underlying5 Tryd.underlying9 ?_
  intro j hj
  obtain rfl : j = 0 := by simp at hj; omega
  show w.cell? ⟨g, 0, none⟩ = _
  rw [h]
  have : (byt kn).toNat = kn := by rw [byt_toNat]; omega
  simp [this]
theorem byt_one (n : Nat) (h : n < 256) : IntKind.u8.wrap (n : Int) = (n : Int) := by rw [IntKind.wrap_u8']; omega

set_option maxHeartbeats 2000000 in
theorem implShowRec (r : Rcd) (w : World) (hd : r.data.size ≤ 1048576) : Calls Tryd.prog 21 #[vRcd r] w fun e w' => e = .returned (.string (showR r)) ∧ Below w.heap.size w w' := by
  have c1 := fun wx => implRecOk r wx (by unfold maxLen; omega)
  obtain ⟨k, t, i, v, d⟩ := r
  unfold vRcd at *
  simp only at hd c1 ⊢
  have hb0 : Below w.heap.size w (w.alloc (.cells #[.int .i64 k, .int .i64 t, .int .i64 i, .int .i64 v, .string d] 44)) := (Below.refl _ _).alloc (Nat.le_refl _) _
  have k0 := Blk.new w #[.int .i64 k, .int .i64 t, .int .i64 i, .int .i64 v, .string d] 44
  have HE : Hid (showR ⟨k, t, i, v, d⟩ = if recOk ⟨k, t, i, v, d⟩ = true then showB ⟨k, t, i, v, d⟩ else ⟨#[]⟩) := rfl
  cases ho : recOk ⟨k, t, i, v, d⟩ <;> rw [ho] at c1 HE
  · clear ho
    go_enter Tryd.func21, Tryd.ntmps21
    go_wp2_with fail
    generalize w.alloc (.cells #[.int .i64 k, .int .i64 t, .int .i64 i, .int .i64 v, .string d] 44) = W at *
    refine (c1 _).mono ?_
    rintro e w1 ⟨rfl, hb1⟩
    have B1 : Hid (Below w.heap.size w w1) := hb0.trans (hb1.mono hb0.size)
    clear hb0 hb1 c1 k0
    go_wp2_with fail
    go_ret
    exact ⟨by rw [HE.out]; rfl, B1.out⟩
  · obtain ⟨⟨k1, k2⟩, ⟨t1, t2⟩, ⟨i1, i2⟩, ⟨v1, v2⟩, d1⟩ := recOk_in k t i v d ho
    clear ho
    have HE : Hid (showR ⟨k, t, i, v, d⟩ = txt [byt k.toNat] ++ txt (vF 6 t.toNat) ++ txt (vF 6 i.toNat) ++ txt (vF 6 (v + 1).toNat) ++ d) := by unfold Hid; rw [HE.out]; rfl
    obtain ⟨kn, rfl⟩ : ∃ n : Nat, k = (n : Int) := ⟨k.toNat, by omega⟩
    obtain ⟨tn, rfl⟩ : ∃ n : Nat, t = (n : Int) := ⟨t.toNat, by omega⟩
    obtain ⟨jn, rfl⟩ : ∃ n : Nat, i = (n : Int) := ⟨i.toNat, by omega⟩
    obtain ⟨vn, hvn⟩ : ∃ n : Nat, v + 1 = (n : Int) := ⟨(v + 1).toNat, by omega⟩
    rw [hvn, Int.toNat_natCast, Int.toNat_natCast, Int.toNat_natCast, Int.toNat_natCast] at HE
    have hw1 : IntKind.i64.wrap (v + 1) = (vn : Int) := by rw [IntKind.wrap_i64]; omega
    have hw2 : wrap64 (v + 1) = (vn : Int) := by unfold wrap64; omega
    have hfx := fixed_one kn (by omega)
    have HK : Hid (kn < 256) := by unfold Hid; omega
    have n1 : kn ≤ 4 := by omega
    have n2 : tn ≤ 100000 := by omega
    have n3 : jn ≤ 100000 := by omega
    have n4 : vn ≤ 5 := by omega
    have s0 : (txt [byt kn]).size = 1 := by rw [txt_size]; rfl
    have s1 := vsize tn
    have s2 := vsize jn
    have s3 := vsize vn
    have hu8 := byt_one kn (by omega)
    have hcell := one_cell (kn : Int) kn rfl (by omega)
    clear k1 k2 t1 t2 i1 i2 v1 v2
    go_enter Tryd.func21, Tryd.ntmps21
    go_wp2_with fail
    generalize w.alloc (.cells #[.int .i64 (kn : Int), .int .i64 (tn : Int), .int .i64 (jn : Int), .int .i64 v, .string d] 44) = W at *
    refine (c1 _).mono ?_
    rintro e w1 ⟨rfl, hb1⟩
    have B1 : Hid (Below w.heap.size w w1) := hb0.trans (hb1.mono hb0.size)
    have k1 := k0.on hb1 k0.lt
    have HW : Hid (w.heap.size < w1.drew.heap.size) := k1.lt
    have Z1 : Hid (w.heap.size ≤ w1.heap.size) := B1.out.size
    clear hb0 hb1 c1 k0
    have e0 : w1.drew.cell? ⟨w.heap.size, 0, none⟩ = some (.int .i64 (kn : Int)) := k1.cell 0 _ rfl
    have e1 : w1.drew.cell? ⟨w.heap.size, 1, none⟩ = some (.int .i64 (tn : Int)) := k1.cell 1 _ rfl
    have e2 : w1.drew.cell? ⟨w.heap.size, 2, none⟩ = some (.int .i64 (jn : Int)) := k1.cell 2 _ rfl
    have e3 : w1.drew.cell? ⟨w.heap.size, 3, none⟩ = some (.int .i64 v) := k1.cell 3 _ rfl
    have e4 : w1.drew.cell? ⟨w.heap.size, 4, none⟩ = some (.string d) := k1.cell 4 _ rfl
    have S0 : Hid (w1.drew.cell? ⟨w.heap.size, 0, none⟩ = some (.int .i64 (kn : Int)) ∧ w1.drew.cell? ⟨w.heap.size, 1, none⟩ = some (.int .i64 (tn : Int)) ∧ w1.drew.cell? ⟨w.heap.size, 2, none⟩ = some (.int .i64 (jn : Int)) ∧ w1.drew.cell? ⟨w.heap.size, 3, none⟩ = some (.int .i64 v) ∧ w1.drew.cell? ⟨w.heap.size, 4, none⟩ = some (.string d)) := ⟨e0, e1, e2, e3, e4⟩
    have KK : Hid (Blk w1 w.heap.size _ _) := k1
    clear k1
    have cF : ∀ wx, Calls Tryd.prog 41 #[.int .i64 (kn : Int), .int .i64 1] wx fun e w' => e = .returned (.string (txt [byt kn])) ∧ Below wx.heap.size wx w' := fun wx => by
      have h := impl_fixed kn 1 wx (by omega) (by omega) (by omega)
      rw [hfx] at h
      exact h
    have cC : ∀ g wx, wx.cell? ⟨g, 0, none⟩ = some (.int .u8 (kn : Int)) → (convert 49 9 (.slice (some ⟨g, 0, none⟩) 1 1)).run Tryd.prog wx = .ok (.string (txt [byt kn])) wx := fun g wx h => conv_one kn g 1 wx h HK.out
    have cT := fun wx => impl_var tn wx (by omega)
    have cJ := fun wx => impl_var jn wx (by omega)
    have cV : ∀ x wx, x = (vn : Int) → Calls Tryd.prog 44 #[.int .i64 x] wx fun e w' => e = .returned (.string (txt (vF 6 vn))) ∧ Below wx.heap.size wx w' := fun x wx hx => by rw [hx]; exact impl_var vn wx (by omega)
    generalize txt [byt kn] = a0 at *
    generalize txt (vF 6 tn) = a1 at *
    generalize txt (vF 6 jn) = a2 at *
    generalize txt (vF 6 vn) = a3 at *
    have g1 : ¬ 9223372036854775807 < a0.size + a1.size := by omega
    have g2 : ¬ 9223372036854775807 < (a0 ++ a1).size + a2.size := by rw [ByteArray.size_append]; omega
    have g2' : ¬ 9223372036854775807 < a0.size + a1.size + a2.size := by omega
    have g3 : ¬ 9223372036854775807 < (a0 ++ a1 ++ a2).size + a3.size := by rw [ByteArray.size_append, ByteArray.size_append]; omega
    have g3' : ¬ 9223372036854775807 < a0.size + a1.size + a2.size + a3.size := by omega
    have g4 : ¬ 9223372036854775807 < (a0 ++ a1 ++ a2 ++ a3).size + d.size := by rw [ByteArray.size_append, ByteArray.size_append, ByteArray.size_append]; omega
    have g4' : ¬ 9223372036854775807 < a0.size + a1.size + a2.size + a3.size + d.size := by omega
    clear hfx s0 s1 s2 s3 hcell
    clear e0 e1 e2 e3 e4
    have K0 : Hid (Blk w1.drew w.heap.size #[.int .i64 (kn : Int), .int .i64 (tn : Int), .int .i64 (jn : Int), .int .i64 v, .string d] 44) := KK.out
    have D0 : Hid (Below w.heap.size w w1.drew) := B1.out.drew
    go_wp2_with fail
    refine wp_region_until (fun w' => w'.cell? ⟨w.heap.size, 0, none⟩ = some (.int .i64 (kn : Int)) ∧ w'.cell? ⟨w.heap.size, 1, none⟩ = some (.int .i64 (tn : Int)) ∧ w'.cell? ⟨w.heap.size, 2, none⟩ = some (.int .i64 (jn : Int)) ∧ w'.cell? ⟨w.heap.size, 3, none⟩ = some (.int .i64 v) ∧ w'.cell? ⟨w.heap.size, 4, none⟩ = some (.string d)) (fun i => false) 20 (by rfl) (by kernel_rfl) ?_
    generalize w1.drew = X at *
    refine until_take 0 (v := ?vq1) (by rfl) (by kernel_rfl) (by exact fun _ _ _ h => h) (by rfl) ?hyq1 S0.out ?rq1
    case hyq1 =>
      intro w hSw
      try dsimp only at hSw
      go_simp
      try with_reducible rfl
    try simp only [Act.put, List.setIfInBounds_toArray, List.set_cons_zero, List.set_cons_succ]
    refine until_take 1 (v := ?vq2) (by rfl) (by kernel_rfl) (by exact fun _ _ _ h => h) (by rfl) ?hyq2 S0.out ?rq2
    case hyq2 =>
      intro w hSw
      try dsimp only at hSw
      go_simp
      try with_reducible rfl
    try simp only [Act.put, List.setIfInBounds_toArray, List.set_cons_zero, List.set_cons_succ]
    refine until_take 3 (v := ?vq3) (by rfl) (by kernel_rfl) (by exact fun _ _ _ h => h) (by rfl) ?hyq3 S0.out ?rq3
    case hyq3 =>
      intro w hSw
      try dsimp only at hSw
      go_simp
      try with_reducible rfl
    try simp only [Act.put, List.setIfInBounds_toArray, List.set_cons_zero, List.set_cons_succ]
    refine until_take 4 (v := ?vq4) (by rfl) (by kernel_rfl) (by exact fun _ _ _ h => h) (by rfl) ?hyq4 S0.out ?rq4
    case hyq4 =>
      intro w hSw
      try dsimp only at hSw
      go_simp
      try with_reducible rfl
    try simp only [Act.put, List.setIfInBounds_toArray, List.set_cons_zero, List.set_cons_succ]
    refine until_take 7 (v := ?vq5) (by rfl) (by kernel_rfl) (by exact fun _ _ _ h => h) (by rfl) ?hyq5 S0.out ?rq5
    case hyq5 =>
      intro w hSw
      try dsimp only at hSw
      go_simp
      try with_reducible rfl
    try simp only [Act.put, List.setIfInBounds_toArray, List.set_cons_zero, List.set_cons_succ]
    refine until_take 8 (v := ?vq6) (by rfl) (by kernel_rfl) (by exact fun _ _ _ h => h) (by rfl) ?hyq6 S0.out ?rq6
    case hyq6 =>
      intro w hSw
      try dsimp only at hSw
      go_simp
      try with_reducible rfl
    try simp only [Act.put, List.setIfInBounds_toArray, List.set_cons_zero, List.set_cons_succ]
    refine until_take 11 (v := ?vq7) (by rfl) (by kernel_rfl) (by exact fun _ _ _ h => h) (by rfl) ?hyq7 S0.out ?rq7
    case hyq7 =>
      intro w hSw
      try dsimp only at hSw
      go_simp
      try with_reducible rfl
    try simp only [Act.put, List.setIfInBounds_toArray, List.set_cons_zero, List.set_cons_succ]
    refine until_take 12 (v := ?vq8) (by rfl) (by kernel_rfl) (by exact fun _ _ _ h => h) (by rfl) ?hyq8 S0.out ?rq8
    case hyq8 =>
      intro w hSw
      try dsimp only at hSw
      go_simp
      try with_reducible rfl
    try simp only [Act.put, List.setIfInBounds_toArray, List.set_cons_zero, List.set_cons_succ]
    refine until_pure 13 (v := ?vq9) (by rfl) (by kernel_rfl) (by exact fun _ _ _ h => h) (by rfl) ?hyq9 ?rq9
    case hyq9 =>
      intro w
      go_simp
      try with_reducible rfl
    try simp only [Act.put, List.setIfInBounds_toArray, List.set_cons_zero, List.set_cons_succ]
    refine until_take 16 (v := ?vq10) (by rfl) (by kernel_rfl) (by exact fun _ _ _ h => h) (by rfl) ?hyq10 S0.out ?rq10
    case hyq10 =>
      intro w hSw
      try dsimp only at hSw
      go_simp
      try with_reducible rfl
    try simp only [Act.put, List.setIfInBounds_toArray, List.set_cons_zero, List.set_cons_succ]
    refine until_take 17 (v := ?vq11) (by rfl) (by kernel_rfl) (by exact fun _ _ _ h => h) (by rfl) ?hyq11 S0.out ?rq11
    case hyq11 =>
      intro w hSw
      try dsimp only at hSw
      go_simp
      try with_reducible rfl
    try simp only [Act.put, List.setIfInBounds_toArray, List.set_cons_zero, List.set_cons_succ]
    refine until_one 2 (by rfl) (by kernel_rfl) (fun K hK => ?_)
    go_simp
    refine (cF _).mono ?_
    rintro e X1 ⟨rfl, hb1⟩
    have K1 : Hid (Blk X1 w.heap.size #[.int .i64 (kn : Int), .int .i64 (tn : Int), .int .i64 (jn : Int), .int .i64 v, .string d] 44) := K0.out.on hb1 K0.out.lt
    have D1 : Hid (Below w.heap.size w X1) := D0.out.trans (hb1.mono D0.out.size)
    clear hb1
    go_wp2_with fail
    refine hK.out _ _ (fun _ _ => ⟨K1.out.cell 0 _ rfl, K1.out.cell 1 _ rfl, K1.out.cell 2 _ rfl, K1.out.cell 3 _ rfl, K1.out.cell 4 _ rfl⟩) ?_
    clear hK K
    try simp only [Act.put, List.setIfInBounds_toArray, List.set_cons_zero, List.set_cons_succ]
    refine until_one 5 (by rfl) (by kernel_rfl) (fun K hK => ?_)
    go_simp
    refine (cT _).mono ?_
    rintro e X2 ⟨rfl, hb2⟩
    have K2 : Hid (Blk X2 w.heap.size #[.int .i64 (kn : Int), .int .i64 (tn : Int), .int .i64 (jn : Int), .int .i64 v, .string d] 44) := K1.out.on hb2 K1.out.lt
    have D2 : Hid (Below w.heap.size w X2) := D1.out.trans (hb2.mono D1.out.size)
    clear hb2
    go_wp2_with fail
    refine hK.out _ _ (fun _ _ => ⟨K2.out.cell 0 _ rfl, K2.out.cell 1 _ rfl, K2.out.cell 2 _ rfl, K2.out.cell 3 _ rfl, K2.out.cell 4 _ rfl⟩) ?_
    clear hK K
    try simp only [Act.put, List.setIfInBounds_toArray, List.set_cons_zero, List.set_cons_succ]
    refine until_pure 6 (v := ?vq12) (by rfl) (by kernel_rfl) (by exact fun _ _ _ h => h) (by rfl) ?hyq12 ?rq12
    case hyq12 =>
      intro w
      go_simp
      try with_reducible rfl
    try simp only [Act.put, List.setIfInBounds_toArray, List.set_cons_zero, List.set_cons_succ]
    refine until_one 9 (by rfl) (by kernel_rfl) (fun K hK => ?_)
    go_simp
    refine (cJ _).mono ?_
    rintro e X3 ⟨rfl, hb3⟩
    have K3 : Hid (Blk X3 w.heap.size #[.int .i64 (kn : Int), .int .i64 (tn : Int), .int .i64 (jn : Int), .int .i64 v, .string d] 44) := K2.out.on hb3 K2.out.lt
    have D3 : Hid (Below w.heap.size w X3) := D2.out.trans (hb3.mono D2.out.size)
    clear hb3
    go_wp2_with fail
    refine hK.out _ _ (fun _ _ => ⟨K3.out.cell 0 _ rfl, K3.out.cell 1 _ rfl, K3.out.cell 2 _ rfl, K3.out.cell 3 _ rfl, K3.out.cell 4 _ rfl⟩) ?_
    clear hK K
    try simp only [Act.put, List.setIfInBounds_toArray, List.set_cons_zero, List.set_cons_succ]
    refine until_pure 10 (v := ?vq13) (by rfl) (by kernel_rfl) (by exact fun _ _ _ h => h) (by rfl) ?hyq13 ?rq13
    case hyq13 =>
      intro w
      go_simp
      try with_reducible rfl
    try simp only [Act.put, List.setIfInBounds_toArray, List.set_cons_zero, List.set_cons_succ]
    refine until_one 14 (by rfl) (by kernel_rfl) (fun K hK => ?_)
    go_simp
    refine (cV _ _ (by first | exact hw1 | exact hw2 | exact hvn | (rw [IntKind.wrap_i64]; omega) | omega)).mono ?_
    rintro e X4 ⟨rfl, hb4⟩
    have K4 : Hid (Blk X4 w.heap.size #[.int .i64 (kn : Int), .int .i64 (tn : Int), .int .i64 (jn : Int), .int .i64 v, .string d] 44) := K3.out.on hb4 K3.out.lt
    have D4 : Hid (Below w.heap.size w X4) := D3.out.trans (hb4.mono D3.out.size)
    clear hb4
    go_wp2_with fail
    refine hK.out _ _ (fun _ _ => ⟨K4.out.cell 0 _ rfl, K4.out.cell 1 _ rfl, K4.out.cell 2 _ rfl, K4.out.cell 3 _ rfl, K4.out.cell 4 _ rfl⟩) ?_
    clear hK K
    try simp only [Act.put, List.setIfInBounds_toArray, List.set_cons_zero, List.set_cons_succ]
    refine until_pure 15 (v := ?vq14) (by rfl) (by kernel_rfl) (by exact fun _ _ _ h => h) (by rfl) ?hyq14 ?rq14
    case hyq14 =>
      intro w
      go_simp
      try with_reducible rfl
    try simp only [Act.put, List.setIfInBounds_toArray, List.set_cons_zero, List.set_cons_succ]
    refine until_pure 18 (v := ?vq15) (by rfl) (by kernel_rfl) (by exact fun _ _ _ h => h) (by rfl) ?hyq15 ?rq15
    case hyq15 =>
      intro w
      go_simp
      try with_reducible rfl
    try simp only [Act.put, List.setIfInBounds_toArray, List.set_cons_zero, List.set_cons_succ]
    refine until_pure 19 (v := ?vq16) (by rfl) (by kernel_rfl) (by exact fun _ _ _ h => h) (by rfl) ?hyq16 ?rq16
    case hyq16 =>
      intro w
      go_simp
      try with_reducible rfl
    try simp only [Act.put, List.setIfInBounds_toArray, List.set_cons_zero, List.set_cons_succ]
    refine until_done (by kernel_rfl) ?_ _
    go_wp2_with fail
    go_ret
    exact ⟨by rw [HE.out]; rfl, D4.out⟩
end Go.Proofs.YtcghclaobodgjaaDoor
