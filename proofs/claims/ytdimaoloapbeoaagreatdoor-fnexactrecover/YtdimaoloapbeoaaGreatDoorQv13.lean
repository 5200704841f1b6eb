/- ShowRecD -/
import Derived.Test.YtdimaoloapbeoaaGreatDoorRows
import Derived.Test.YtdimaoloapbeoaaGreatDoorQv12
import Derived.Test.YtdimaoloapbeoaaGreatDoorQv11
import Derived.Deep.RegionHeld3
import Derived.Handy
open List (setIfInBounds_toArray set_cons_zero set_cons_succ)
namespace Go.Proofs.YtdimaoloapbeoaaGreatDoor
open Go.ChangeShapes Go.WideShapes Go.ChangeAt Go.RowKit Go.PlainAid
set_option linter.unusedVariables false
set_option maxHeartbeats 2000000 in
theorem specShowRec (r : Rcd) (w : World) (hd : r.data.size ≤ 1048576) : Calls Tryz.prog 82 #[vRcd r] w fun e w' => e = .returned (.string (showR r)) ∧ Below w.heap.size w w' := by
 have c1 := fun wx => specRecOk r wx (by unfold maxLen; omega)
 obtain ⟨k, t, i, v, d⟩ := r
 unfold vRcd at *
 simp only at hd c1 ⊢
 have hb0 : Below w.heap.size w (w.alloc (.cells #[.int .i64 k, .int .i64 t, .int .i64 i, .int .i64 v, .string d] 102)) := (Below.refl _ _).alloc (Nat.le_refl _) _
 have k0 := Blk.new w #[.int .i64 k, .int .i64 t, .int .i64 i, .int .i64 v, .string d] 102
 have HE : Hid (showR ⟨k, t, i, v, d⟩ = if recOk ⟨k, t, i, v, d⟩ = true then showB ⟨k, t, i, v, d⟩ else ⟨#[]⟩) := rfl
 cases ho : recOk ⟨k, t, i, v, d⟩ <;> rw [ho] at c1 HE
 ·clear ho
  go_enter Tryz.func82, Tryz.ntmps82
  go_wp2_with fail
  generalize w.alloc (.cells #[.int .i64 k, .int .i64 t, .int .i64 i, .int .i64 v, .string d] 102) = W at *
  refine (c1 _).mono ?_
  rintro e w1 ⟨rfl, hb1⟩
  have B1 : Hid (Below w.heap.size w w1) := hb0.trans (hb1.mono hb0.size)
  clear hb0 hb1 c1 k0
  go_wp2_with fail
  go_ret
  exact ⟨by rw [HE.out]; rfl, B1.out⟩
 ·obtain ⟨⟨k1, k2⟩, ⟨t1, t2⟩, ⟨i1, i2⟩, ⟨v1, v2⟩, d1⟩ := recOk_in k t i v d ho
  clear ho
  have HE : Hid (showR ⟨k, t, i, v, d⟩ = txt [byt k.toNat] ++ txt (vF 6 t.toNat) ++ txt (vF 6 i.toNat) ++ txt (vF 6 (v + 1).toNat) ++ d) := by unfold Hid; rw [HE.out]; rfl
  obtain ⟨kn, rfl⟩ : ∃ n : Nat, k = (n : Int) := ⟨k.toNat, by omega⟩
  obtain ⟨tn, rfl⟩ : ∃ n : Nat, t = (n : Int) := ⟨t.toNat, by omega⟩
  obtain ⟨jn, rfl⟩ : ∃ n : Nat, i = (n : Int) := ⟨i.toNat, by omega⟩
  obtain ⟨vn, hvn⟩ : ∃ n : Nat, v + 1 = (n : Int) := ⟨(v + 1).toNat, by omega⟩
  rw [hvn, Int.toNat_natCast, Int.toNat_natCast, Int.toNat_natCast, Int.toNat_natCast] at HE
  have hw1 : IntKind.i64.wrap (v + 1) = (vn : Int) := by rw [IntKind.wrap_i64]; omega
  have hw2 : wrap64 (v + 1) = (vn : Int) := by unfold wrap64; omega
  have hfx := fixed_one kn (by omega)
  have HK : Hid (kn < 256) := by unfold Hid; omega
  have n1 : kn ≤ 4 := by omega
  have n2 : tn ≤ 100000 := by omega
  have n3 : jn ≤ 100000 := by omega
  have n4 : vn ≤ 5 := by omega
  have s0 : (txt [byt kn]).size = 1 := by rw [txt_size]; rfl
  have s1 := vsize tn
  have s2 := vsize jn
  have s3 := vsize vn
  have hu8 := byt_one kn (by omega)
  have hcell := one_cell (kn : Int) kn rfl (by omega)
  clear k1 k2 t1 t2 i1 i2 v1 v2
  go_enter Tryz.func82, Tryz.ntmps82
  go_wp2_with fail
  generalize w.alloc (.cells #[.int .i64 (kn : Int), .int .i64 (tn : Int), .int .i64 (jn : Int), .int .i64 v, .string d] 102) = W at *
  refine (c1 _).mono ?_
  rintro e w1 ⟨rfl, hb1⟩
  have B1 : Hid (Below w.heap.size w w1) := hb0.trans (hb1.mono hb0.size)
  have k1 := k0.on hb1 k0.lt
  have HW : Hid (w.heap.size < w1.drew.heap.size) := k1.lt
  have Z1 : Hid (w.heap.size ≤ w1.heap.size) := B1.out.size
  clear hb0 hb1 c1 k0
  have e0 : w1.drew.cell? ⟨w.heap.size, 0, none⟩ = some (.int .i64 (kn : Int)) := k1.cell 0 _ rfl
  have e1 : w1.drew.cell? ⟨w.heap.size, 1, none⟩ = some (.int .i64 (tn : Int)) := k1.cell 1 _ rfl
  have e2 : w1.drew.cell? ⟨w.heap.size, 2, none⟩ = some (.int .i64 (jn : Int)) := k1.cell 2 _ rfl
  have e3 : w1.drew.cell? ⟨w.heap.size, 3, none⟩ = some (.int .i64 v) := k1.cell 3 _ rfl
  have e4 : w1.drew.cell? ⟨w.heap.size, 4, none⟩ = some (.string d) := k1.cell 4 _ rfl
  have S0 : Hid (w1.drew.cell? ⟨w.heap.size, 0, none⟩ = some (.int .i64 (kn : Int)) ∧ w1.drew.cell? ⟨w.heap.size, 1, none⟩ = some (.int .i64 (tn : Int)) ∧ w1.drew.cell? ⟨w.heap.size, 2, none⟩ = some (.int .i64 (jn : Int)) ∧ w1.drew.cell? ⟨w.heap.size, 3, none⟩ = some (.int .i64 v) ∧ w1.drew.cell? ⟨w.heap.size, 4, none⟩ = some (.string d)) := ⟨e0, e1, e2, e3, e4⟩
  have KK : Hid (Blk w1 w.heap.size _ _) := k1
  clear k1
  have cF : ∀ wx, Calls Tryz.prog 117 #[.int .i64 (kn : Int), .int .i64 1] wx fun e w' => e = .returned (.string (txt [byt kn])) ∧ Below wx.heap.size wx w' := fun wx => by
   have h := impl_fixed kn 1 wx (by omega) (by omega) (by omega)
   rw [hfx] at h
   exact h
  have cC : ∀ g wx, wx.cell? ⟨g, 0, none⟩ = some (.int .u8 (kn : Int)) → (convert 172 9 (.slice (some ⟨g, 0, none⟩) 1 1)).run Tryz.prog wx = .ok (.string (txt [byt kn])) wx := fun g wx h => conv_one kn g 1 wx h HK.out
  have cT := fun wx => spec_var tn wx (by omega)
  have cJ := fun wx => spec_var jn wx (by omega)
  have cV : ∀ x wx, x = (vn : Int) → Calls Tryz.prog 108 #[.int .i64 x] wx fun e w' => e = .returned (.string (txt (vF 6 vn))) ∧ Below wx.heap.size wx w' := fun x wx hx => by rw [hx]; exact spec_var vn wx (by omega)
  generalize txt [byt kn] = a0 at *
  generalize txt (vF 6 tn) = a1 at *
  generalize txt (vF 6 jn) = a2 at *
  generalize txt (vF 6 vn) = a3 at *
  have g1 : ¬ 9223372036854775807 < a0.size + a1.size := by omega
  have g2 : ¬ 9223372036854775807 < (a0 ++ a1).size + a2.size := by rw [ByteArray.size_append]; omega
  have g2' : ¬ 9223372036854775807 < a0.size + a1.size + a2.size := by omega
  have g3 : ¬ 9223372036854775807 < (a0 ++ a1 ++ a2).size + a3.size := by rw [ByteArray.size_append, ByteArray.size_append]; omega
  have g3' : ¬ 9223372036854775807 < a0.size + a1.size + a2.size + a3.size := by omega
  have g4 : ¬ 9223372036854775807 < (a0 ++ a1 ++ a2 ++ a3).size + d.size := by rw [ByteArray.size_append, ByteArray.size_append, ByteArray.size_append]; omega
  have g4' : ¬ 9223372036854775807 < a0.size + a1.size + a2.size + a3.size + d.size := by omega
  clear hfx s0 s1 s2 s3 hcell
  clear e0 e1 e2 e3 e4
  have K0 : Hid (Blk w1.drew w.heap.size #[.int .i64 (kn : Int), .int .i64 (tn : Int), .int .i64 (jn : Int), .int .i64 v, .string d] 102) := KK.out
  have D0 : Hid (Below w.heap.size w w1.drew) := B1.out.drew
  go_wp2_with fail
  refine wp_region_until (fun w' => w'.cell? ⟨w.heap.size, 0, none⟩ = some (.int .i64 (kn : Int)) ∧ w'.cell? ⟨w.heap.size, 1, none⟩ = some (.int .i64 (tn : Int)) ∧ w'.cell? ⟨w.heap.size, 2, none⟩ = some (.int .i64 (jn : Int)) ∧ w'.cell? ⟨w.heap.size, 3, none⟩ = some (.int .i64 v) ∧ w'.cell? ⟨w.heap.size, 4, none⟩ = some (.string d)) (fun i => false) 22 (by rfl) (by kernel_rfl) ?_
  generalize w1.drew = X at *
  refine until_take 0 (v := ?vq1) (by rfl) (by kernel_rfl) (by exact fun _ _ _ h => h) (by rfl) ?hyq1 S0.out ?rq1
  case hyq1 =>
   intro w hSw
   try dsimp only at hSw
   go_simp
   try with_reducible rfl
  try simp only [Act.put, setIfInBounds_toArray, set_cons_zero, set_cons_succ]
  refine until_take 1 (v := ?vq2) (by rfl) (by kernel_rfl) (by exact fun _ _ _ h => h) (by rfl) ?hyq2 S0.out ?rq2
  case hyq2 =>
   intro w hSw
   try dsimp only at hSw
   go_simp
   try with_reducible rfl
  try simp only [Act.put, setIfInBounds_toArray, set_cons_zero, set_cons_succ]
  refine until_pure 2 (v := ?vq3) (by rfl) (by kernel_rfl) (by exact fun _ _ _ h => h) (by rfl) ?hyq3 ?rq3
  case hyq3 =>
   intro w
   go_simp
   try with_reducible rfl
  try simp only [Act.put, setIfInBounds_toArray, set_cons_zero, set_cons_succ]
  refine until_take 5 (v := ?vq4) (by rfl) (by kernel_rfl) (by exact fun _ _ _ h => h) (by rfl) ?hyq4 S0.out ?rq4
  case hyq4 =>
   intro w hSw
   try dsimp only at hSw
   go_simp
   try with_reducible rfl
  try simp only [Act.put, setIfInBounds_toArray, set_cons_zero, set_cons_succ]
  refine until_take 6 (v := ?vq5) (by rfl) (by kernel_rfl) (by exact fun _ _ _ h => h) (by rfl) ?hyq5 S0.out ?rq5
  case hyq5 =>
   intro w hSw
   try dsimp only at hSw
   go_simp
   try with_reducible rfl
  try simp only [Act.put, setIfInBounds_toArray, set_cons_zero, set_cons_succ]
  refine until_take 9 (v := ?vq6) (by rfl) (by kernel_rfl) (by exact fun _ _ _ h => h) (by rfl) ?hyq6 S0.out ?rq6
  case hyq6 =>
   intro w hSw
   try dsimp only at hSw
   go_simp
   try with_reducible rfl
  try simp only [Act.put, setIfInBounds_toArray, set_cons_zero, set_cons_succ]
  refine until_take 10 (v := ?vq7) (by rfl) (by kernel_rfl) (by exact fun _ _ _ h => h) (by rfl) ?hyq7 S0.out ?rq7
  case hyq7 =>
   intro w hSw
   try dsimp only at hSw
   go_simp
   try with_reducible rfl
  try simp only [Act.put, setIfInBounds_toArray, set_cons_zero, set_cons_succ]
  refine until_take 13 (v := ?vq8) (by rfl) (by kernel_rfl) (by exact fun _ _ _ h => h) (by rfl) ?hyq8 S0.out ?rq8
  case hyq8 =>
   intro w hSw
   try dsimp only at hSw
   go_simp
   try with_reducible rfl
  try simp only [Act.put, setIfInBounds_toArray, set_cons_zero, set_cons_succ]
  refine until_take 14 (v := ?vq9) (by rfl) (by kernel_rfl) (by exact fun _ _ _ h => h) (by rfl) ?hyq9 S0.out ?rq9
  case hyq9 =>
   intro w hSw
   try dsimp only at hSw
   go_simp
   try with_reducible rfl
  try simp only [Act.put, setIfInBounds_toArray, set_cons_zero, set_cons_succ]
  refine until_pure 15 (v := ?vq10) (by rfl) (by kernel_rfl) (by exact fun _ _ _ h => h) (by rfl) ?hyq10 ?rq10
  case hyq10 =>
   intro w
   go_simp
   try with_reducible rfl
  try simp only [Act.put, setIfInBounds_toArray, set_cons_zero, set_cons_succ]
  refine until_take 18 (v := ?vq11) (by rfl) (by kernel_rfl) (by exact fun _ _ _ h => h) (by rfl) ?hyq11 S0.out ?rq11
  case hyq11 =>
   intro w hSw
   try dsimp only at hSw
   go_simp
   try with_reducible rfl
  try simp only [Act.put, setIfInBounds_toArray, set_cons_zero, set_cons_succ]
  refine until_take 19 (v := ?vq12) (by rfl) (by kernel_rfl) (by exact fun _ _ _ h => h) (by rfl) ?hyq12 S0.out ?rq12
  case hyq12 =>
   intro w hSw
   try dsimp only at hSw
   go_simp
   try with_reducible rfl
  try simp only [Act.put, setIfInBounds_toArray, set_cons_zero, set_cons_succ]
  refine until_two 3 7 (by rfl) (by rfl) (by kernel_rfl) (fun K hK => ?_) (fun K hK => ?_)
  ·go_simp
   have G1 : Hid (Blk (X.alloc (.cells #[.int .u8 (kn : Int)] 5)) X.heap.size #[.int .u8 (kn : Int)] 5) := Blk.new _ _ _
   have KY1 : Hid (Blk (X.alloc (.cells #[.int .u8 (kn : Int)] 5)) w.heap.size #[.int .i64 (kn : Int), .int .i64 (tn : Int), .int .i64 (jn : Int), .int .i64 v, .string d] 102) := K0.out.alloc _
   have DY1 : Hid (Below w.heap.size w (X.alloc (.cells #[.int .u8 (kn : Int)] 5))) := D0.out.alloc D0.out.size _
   refine hK.out _ _ (fun _ _ => ⟨KY1.out.cell 0 _ rfl, KY1.out.cell 1 _ rfl, KY1.out.cell 2 _ rfl, KY1.out.cell 3 _ rfl, KY1.out.cell 4 _ rfl⟩) ?_
   clear hK K
   generalize hg1 : X.heap.size = gb1 at *
   generalize X.alloc (.cells #[.int .u8 (kn : Int)] 5) = Y1 at *
   try simp only [Act.put, setIfInBounds_toArray, set_cons_zero, set_cons_succ]
   refine until_two 4 7 (by rfl) (by rfl) (by kernel_rfl) (fun K hK => ?_) (fun K hK => ?_)
   ·have hcv := cC gb1 Y1 (G1.out.cell 0 _ rfl)
    go_simp
    clear hcv
    refine hK.out _ _ (fun _ h => h) ?_
    clear hK K
    try simp only [Act.put, setIfInBounds_toArray, set_cons_zero, set_cons_succ]
    refine until_one 7 (by rfl) (by kernel_rfl) (fun K hK => ?_)
    go_simp
    refine (cT _).mono ?_
    rintro e Y3 ⟨rfl, hb3⟩
    have KY3 : Hid (Blk Y3 w.heap.size #[.int .i64 (kn : Int), .int .i64 (tn : Int), .int .i64 (jn : Int), .int .i64 v, .string d] 102) := KY1.out.on hb3 KY1.out.lt
    have DY3 : Hid (Below w.heap.size w Y3) := DY1.out.trans (hb3.mono DY1.out.size)
    clear hb3
    go_wp2_with fail
    refine hK.out _ _ (fun _ _ => ⟨KY3.out.cell 0 _ rfl, KY3.out.cell 1 _ rfl, KY3.out.cell 2 _ rfl, KY3.out.cell 3 _ rfl, KY3.out.cell 4 _ rfl⟩) ?_
    clear hK K
    try simp only [Act.put, setIfInBounds_toArray, set_cons_zero, set_cons_succ]
    refine until_pure 8 (v := ?vq13) (by rfl) (by kernel_rfl) (by exact fun _ _ _ h => h) (by rfl) ?hyq13 ?rq13
    case hyq13 =>
     intro w
     go_simp
     try with_reducible rfl
    try simp only [Act.put, setIfInBounds_toArray, set_cons_zero, set_cons_succ]
    refine until_one 11 (by rfl) (by kernel_rfl) (fun K hK => ?_)
    go_simp
    refine (cJ _).mono ?_
    rintro e Y4 ⟨rfl, hb4⟩
    have KY4 : Hid (Blk Y4 w.heap.size #[.int .i64 (kn : Int), .int .i64 (tn : Int), .int .i64 (jn : Int), .int .i64 v, .string d] 102) := KY3.out.on hb4 KY3.out.lt
    have DY4 : Hid (Below w.heap.size w Y4) := DY3.out.trans (hb4.mono DY3.out.size)
    clear hb4
    go_wp2_with fail
    refine hK.out _ _ (fun _ _ => ⟨KY4.out.cell 0 _ rfl, KY4.out.cell 1 _ rfl, KY4.out.cell 2 _ rfl, KY4.out.cell 3 _ rfl, KY4.out.cell 4 _ rfl⟩) ?_
    clear hK K
    try simp only [Act.put, setIfInBounds_toArray, set_cons_zero, set_cons_succ]
    refine until_pure 12 (v := ?vq14) (by rfl) (by kernel_rfl) (by exact fun _ _ _ h => h) (by rfl) ?hyq14 ?rq14
    case hyq14 =>
     intro w
     go_simp
     try with_reducible rfl
    try simp only [Act.put, setIfInBounds_toArray, set_cons_zero, set_cons_succ]
    refine until_one 16 (by rfl) (by kernel_rfl) (fun K hK => ?_)
    go_simp
    refine (cV _ _ (by first | exact hw1 | exact hw2 | exact hvn | (rw [IntKind.wrap_i64]; omega) | omega)).mono ?_
    rintro e Y5 ⟨rfl, hb5⟩
    have KY5 : Hid (Blk Y5 w.heap.size #[.int .i64 (kn : Int), .int .i64 (tn : Int), .int .i64 (jn : Int), .int .i64 v, .string d] 102) := KY4.out.on hb5 KY4.out.lt
    have DY5 : Hid (Below w.heap.size w Y5) := DY4.out.trans (hb5.mono DY4.out.size)
    clear hb5
    go_wp2_with fail
    refine hK.out _ _ (fun _ _ => ⟨KY5.out.cell 0 _ rfl, KY5.out.cell 1 _ rfl, KY5.out.cell 2 _ rfl, KY5.out.cell 3 _ rfl, KY5.out.cell 4 _ rfl⟩) ?_
    clear hK K
    try simp only [Act.put, setIfInBounds_toArray, set_cons_zero, set_cons_succ]
    refine until_pure 17 (v := ?vq15) (by rfl) (by kernel_rfl) (by exact fun _ _ _ h => h) (by rfl) ?hyq15 ?rq15
    case hyq15 =>
     intro w
     go_simp
     try with_reducible rfl
    try simp only [Act.put, setIfInBounds_toArray, set_cons_zero, set_cons_succ]
    refine until_pure 20 (v := ?vq16) (by rfl) (by kernel_rfl) (by exact fun _ _ _ h => h) (by rfl) ?hyq16 ?rq16
    case hyq16 =>
     intro w
     go_simp
     try with_reducible rfl
    try simp only [Act.put, setIfInBounds_toArray, set_cons_zero, set_cons_succ]
    refine until_pure 21 (v := ?vq17) (by rfl) (by kernel_rfl) (by exact fun _ _ _ h => h) (by rfl) ?hyq17 ?rq17
    case hyq17 =>
     intro w
     go_simp
     try with_reducible rfl
    try simp only [Act.put, setIfInBounds_toArray, set_cons_zero, set_cons_succ]
    refine until_done (by kernel_rfl) ?_ _
    go_wp2_with fail
    go_ret
    exact ⟨by rw [HE.out]; rfl, DY5.out⟩
   ·go_simp
    refine (cT _).mono ?_
    rintro e Y6 ⟨rfl, hb6⟩
    have KY6 : Hid (Blk Y6 w.heap.size #[.int .i64 (kn : Int), .int .i64 (tn : Int), .int .i64 (jn : Int), .int .i64 v, .string d] 102) := KY1.out.on hb6 KY1.out.lt
    have DY6 : Hid (Below w.heap.size w Y6) := DY1.out.trans (hb6.mono DY1.out.size)
    have G6 : Hid (Blk Y6 gb1 #[.int .u8 (kn : Int)] 5) := G1.out.on hb6 G1.out.lt
    clear hb6
    go_wp2_with fail
    refine hK.out _ _ (fun _ _ => ⟨KY6.out.cell 0 _ rfl, KY6.out.cell 1 _ rfl, KY6.out.cell 2 _ rfl, KY6.out.cell 3 _ rfl, KY6.out.cell 4 _ rfl⟩) ?_
    clear hK K
    try simp only [Act.put, setIfInBounds_toArray, set_cons_zero, set_cons_succ]
    refine until_two 4 11 (by rfl) (by rfl) (by kernel_rfl) (fun K hK => ?_) (fun K hK => ?_)
    ·have hcv := cC gb1 Y6 (G6.out.cell 0 _ rfl)
     go_simp
     clear hcv
     refine hK.out _ _ (fun _ h => h) ?_
     clear hK K
     try simp only [Act.put, setIfInBounds_toArray, set_cons_zero, set_cons_succ]
     refine until_pure 8 (v := ?vq18) (by rfl) (by kernel_rfl) (by exact fun _ _ _ h => h) (by rfl) ?hyq18 ?rq18
     case hyq18 =>
      intro w
      go_simp
      try with_reducible rfl
     try simp only [Act.put, setIfInBounds_toArray, set_cons_zero, set_cons_succ]
     refine until_one 11 (by rfl) (by kernel_rfl) (fun K hK => ?_)
     go_simp
     refine (cJ _).mono ?_
     rintro e Y8 ⟨rfl, hb8⟩
     have KY8 : Hid (Blk Y8 w.heap.size #[.int .i64 (kn : Int), .int .i64 (tn : Int), .int .i64 (jn : Int), .int .i64 v, .string d] 102) := KY6.out.on hb8 KY6.out.lt
     have DY8 : Hid (Below w.heap.size w Y8) := DY6.out.trans (hb8.mono DY6.out.size)
     clear hb8
     go_wp2_with fail
     refine hK.out _ _ (fun _ _ => ⟨KY8.out.cell 0 _ rfl, KY8.out.cell 1 _ rfl, KY8.out.cell 2 _ rfl, KY8.out.cell 3 _ rfl, KY8.out.cell 4 _ rfl⟩) ?_
     clear hK K
     try simp only [Act.put, setIfInBounds_toArray, set_cons_zero, set_cons_succ]
     refine until_pure 12 (v := ?vq19) (by rfl) (by kernel_rfl) (by exact fun _ _ _ h => h) (by rfl) ?hyq19 ?rq19
     case hyq19 =>
      intro w
      go_simp
      try with_reducible rfl
     try simp only [Act.put, setIfInBounds_toArray, set_cons_zero, set_cons_succ]
     refine until_one 16 (by rfl) (by kernel_rfl) (fun K hK => ?_)
     go_simp
     refine (cV _ _ (by first | exact hw1 | exact hw2 | exact hvn | (rw [IntKind.wrap_i64]; omega) | omega)).mono ?_
     rintro e Y9 ⟨rfl, hb9⟩
     have KY9 : Hid (Blk Y9 w.heap.size #[.int .i64 (kn : Int), .int .i64 (tn : Int), .int .i64 (jn : Int), .int .i64 v, .string d] 102) := KY8.out.on hb9 KY8.out.lt
     have DY9 : Hid (Below w.heap.size w Y9) := DY8.out.trans (hb9.mono DY8.out.size)
     clear hb9
     go_wp2_with fail
     refine hK.out _ _ (fun _ _ => ⟨KY9.out.cell 0 _ rfl, KY9.out.cell 1 _ rfl, KY9.out.cell 2 _ rfl, KY9.out.cell 3 _ rfl, KY9.out.cell 4 _ rfl⟩) ?_
     clear hK K
     try simp only [Act.put, setIfInBounds_toArray, set_cons_zero, set_cons_succ]
     refine until_pure 17 (v := ?vq20) (by rfl) (by kernel_rfl) (by exact fun _ _ _ h => h) (by rfl) ?hyq20 ?rq20
     case hyq20 =>
      intro w
      go_simp
      try with_reducible rfl
     try simp only [Act.put, setIfInBounds_toArray, set_cons_zero, set_cons_succ]
     refine until_pure 20 (v := ?vq21) (by rfl) (by kernel_rfl) (by exact fun _ _ _ h => h) (by rfl) ?hyq21 ?rq21
     case hyq21 =>
      intro w
      go_simp
      try with_reducible rfl
     try simp only [Act.put, setIfInBounds_toArray, set_cons_zero, set_cons_succ]
     refine until_pure 21 (v := ?vq22) (by rfl) (by kernel_rfl) (by exact fun _ _ _ h => h) (by rfl) ?hyq22 ?rq22
     case hyq22 =>
      intro w
      go_simp
      try with_reducible rfl
     try simp only [Act.put, setIfInBounds_toArray, set_cons_zero, set_cons_succ]
     refine until_done (by kernel_rfl) ?_ _
     go_wp2_with fail
     go_ret
     exact ⟨by rw [HE.out]; rfl, DY9.out⟩
    ·go_simp
     refine (cJ _).mono ?_
     rintro e Y10 ⟨rfl, hb10⟩
     have KY10 : Hid (Blk Y10 w.heap.size #[.int .i64 (kn : Int), .int .i64 (tn : Int), .int .i64 (jn : Int), .int .i64 v, .string d] 102) := KY6.out.on hb10 KY6.out.lt
     have DY10 : Hid (Below w.heap.size w Y10) := DY6.out.trans (hb10.mono DY6.out.size)
     have G10 : Hid (Blk Y10 gb1 #[.int .u8 (kn : Int)] 5) := G6.out.on hb10 G6.out.lt
     clear hb10
     go_wp2_with fail
     refine hK.out _ _ (fun _ _ => ⟨KY10.out.cell 0 _ rfl, KY10.out.cell 1 _ rfl, KY10.out.cell 2 _ rfl, KY10.out.cell 3 _ rfl, KY10.out.cell 4 _ rfl⟩) ?_
     clear hK K
     try simp only [Act.put, setIfInBounds_toArray, set_cons_zero, set_cons_succ]
     refine until_two 4 16 (by rfl) (by rfl) (by kernel_rfl) (fun K hK => ?_) (fun K hK => ?_)
     ·have hcv := cC gb1 Y10 (G10.out.cell 0 _ rfl)
      go_simp
      clear hcv
      refine hK.out _ _ (fun _ h => h) ?_
      clear hK K
      try simp only [Act.put, setIfInBounds_toArray, set_cons_zero, set_cons_succ]
      refine until_pure 8 (v := ?vq23) (by rfl) (by kernel_rfl) (by exact fun _ _ _ h => h) (by rfl) ?hyq23 ?rq23
      case hyq23 =>
       intro w
       go_simp
       try with_reducible rfl
      try simp only [Act.put, setIfInBounds_toArray, set_cons_zero, set_cons_succ]
      refine until_pure 12 (v := ?vq24) (by rfl) (by kernel_rfl) (by exact fun _ _ _ h => h) (by rfl) ?hyq24 ?rq24
      case hyq24 =>
       intro w
       go_simp
       try with_reducible rfl
      try simp only [Act.put, setIfInBounds_toArray, set_cons_zero, set_cons_succ]
      refine until_one 16 (by rfl) (by kernel_rfl) (fun K hK => ?_)
      go_simp
      refine (cV _ _ (by first | exact hw1 | exact hw2 | exact hvn | (rw [IntKind.wrap_i64]; omega) | omega)).mono ?_
      rintro e Y12 ⟨rfl, hb12⟩
      have KY12 : Hid (Blk Y12 w.heap.size #[.int .i64 (kn : Int), .int .i64 (tn : Int), .int .i64 (jn : Int), .int .i64 v, .string d] 102) := KY10.out.on hb12 KY10.out.lt
      have DY12 : Hid (Below w.heap.size w Y12) := DY10.out.trans (hb12.mono DY10.out.size)
      clear hb12
      go_wp2_with fail
      refine hK.out _ _ (fun _ _ => ⟨KY12.out.cell 0 _ rfl, KY12.out.cell 1 _ rfl, KY12.out.cell 2 _ rfl, KY12.out.cell 3 _ rfl, KY12.out.cell 4 _ rfl⟩) ?_
      clear hK K
      try simp only [Act.put, setIfInBounds_toArray, set_cons_zero, set_cons_succ]
      refine until_pure 17 (v := ?vq25) (by rfl) (by kernel_rfl) (by exact fun _ _ _ h => h) (by rfl) ?hyq25 ?rq25
      case hyq25 =>
       intro w
       go_simp
       try with_reducible rfl
      try simp only [Act.put, setIfInBounds_toArray, set_cons_zero, set_cons_succ]
      refine until_pure 20 (v := ?vq26) (by rfl) (by kernel_rfl) (by exact fun _ _ _ h => h) (by rfl) ?hyq26 ?rq26
      case hyq26 =>
       intro w
       go_simp
       try with_reducible rfl
      try simp only [Act.put, setIfInBounds_toArray, set_cons_zero, set_cons_succ]
      refine until_pure 21 (v := ?vq27) (by rfl) (by kernel_rfl) (by exact fun _ _ _ h => h) (by rfl) ?hyq27 ?rq27
      case hyq27 =>
       intro w
       go_simp
       try with_reducible rfl
      try simp only [Act.put, setIfInBounds_toArray, set_cons_zero, set_cons_succ]
      refine until_done (by kernel_rfl) ?_ _
      go_wp2_with fail
      go_ret
      exact ⟨by rw [HE.out]; rfl, DY12.out⟩
     ·go_simp
      refine (cV _ _ (by first | exact hw1 | exact hw2 | exact hvn | (rw [IntKind.wrap_i64]; omega) | omega)).mono ?_
      rintro e Y13 ⟨rfl, hb13⟩
      have KY13 : Hid (Blk Y13 w.heap.size #[.int .i64 (kn : Int), .int .i64 (tn : Int), .int .i64 (jn : Int), .int .i64 v, .string d] 102) := KY10.out.on hb13 KY10.out.lt
      have DY13 : Hid (Below w.heap.size w Y13) := DY10.out.trans (hb13.mono DY10.out.size)
      have G13 : Hid (Blk Y13 gb1 #[.int .u8 (kn : Int)] 5) := G10.out.on hb13 G10.out.lt
      clear hb13
      go_wp2_with fail
      refine hK.out _ _ (fun _ _ => ⟨KY13.out.cell 0 _ rfl, KY13.out.cell 1 _ rfl, KY13.out.cell 2 _ rfl, KY13.out.cell 3 _ rfl, KY13.out.cell 4 _ rfl⟩) ?_
      clear hK K
      try simp only [Act.put, setIfInBounds_toArray, set_cons_zero, set_cons_succ]
      refine until_one 4 (by rfl) (by kernel_rfl) (fun K hK => ?_)
      have hcv := cC gb1 Y13 (G13.out.cell 0 _ rfl)
      go_simp
      clear hcv
      refine hK.out _ _ (fun _ h => h) ?_
      clear hK K
      try simp only [Act.put, setIfInBounds_toArray, set_cons_zero, set_cons_succ]
      refine until_pure 8 (v := ?vq28) (by rfl) (by kernel_rfl) (by exact fun _ _ _ h => h) (by rfl) ?hyq28 ?rq28
      case hyq28 =>
       intro w
       go_simp
       try with_reducible rfl
      try simp only [Act.put, setIfInBounds_toArray, set_cons_zero, set_cons_succ]
      refine until_pure 12 (v := ?vq29) (by rfl) (by kernel_rfl) (by exact fun _ _ _ h => h) (by rfl) ?hyq29 ?rq29
      case hyq29 =>
       intro w
       go_simp
       try with_reducible rfl
      try simp only [Act.put, setIfInBounds_toArray, set_cons_zero, set_cons_succ]
      refine until_pure 17 (v := ?vq30) (by rfl) (by kernel_rfl) (by exact fun _ _ _ h => h) (by rfl) ?hyq30 ?rq30
      case hyq30 =>
       intro w
       go_simp
       try with_reducible rfl
      try simp only [Act.put, setIfInBounds_toArray, set_cons_zero, set_cons_succ]
      refine until_pure 20 (v := ?vq31) (by rfl) (by kernel_rfl) (by exact fun _ _ _ h => h) (by rfl) ?hyq31 ?rq31
      case hyq31 =>
       intro w
       go_simp
       try with_reducible rfl
      try simp only [Act.put, setIfInBounds_toArray, set_cons_zero, set_cons_succ]
      refine until_pure 21 (v := ?vq32) (by rfl) (by kernel_rfl) (by exact fun _ _ _ h => h) (by rfl) ?hyq32 ?rq32
      case hyq32 =>
       intro w
       go_simp
       try with_reducible rfl
      try simp only [Act.put, setIfInBounds_toArray, set_cons_zero, set_cons_succ]
      refine until_done (by kernel_rfl) ?_ _
      go_wp2_with fail
      go_ret
      exact ⟨by rw [HE.out]; rfl, DY13.out⟩
  ·go_simp
   refine (cT _).mono ?_
   rintro e Y15 ⟨rfl, hb15⟩
   have KY15 : Hid (Blk Y15 w.heap.size #[.int .i64 (kn : Int), .int .i64 (tn : Int), .int .i64 (jn : Int), .int .i64 v, .string d] 102) := K0.out.on hb15 K0.out.lt
   have DY15 : Hid (Below w.heap.size w Y15) := D0.out.trans (hb15.mono D0.out.size)
   clear hb15
   go_wp2_with fail
   refine hK.out _ _ (fun _ _ => ⟨KY15.out.cell 0 _ rfl, KY15.out.cell 1 _ rfl, KY15.out.cell 2 _ rfl, KY15.out.cell 3 _ rfl, KY15.out.cell 4 _ rfl⟩) ?_
   clear hK K
   try simp only [Act.put, setIfInBounds_toArray, set_cons_zero, set_cons_succ]
   refine until_two 3 11 (by rfl) (by rfl) (by kernel_rfl) (fun K hK => ?_) (fun K hK => ?_)
   ·go_simp
    have G16 : Hid (Blk (Y15.alloc (.cells #[.int .u8 (kn : Int)] 5)) Y15.heap.size #[.int .u8 (kn : Int)] 5) := Blk.new _ _ _
    have KY16 : Hid (Blk (Y15.alloc (.cells #[.int .u8 (kn : Int)] 5)) w.heap.size #[.int .i64 (kn : Int), .int .i64 (tn : Int), .int .i64 (jn : Int), .int .i64 v, .string d] 102) := KY15.out.alloc _
    have DY16 : Hid (Below w.heap.size w (Y15.alloc (.cells #[.int .u8 (kn : Int)] 5))) := DY15.out.alloc DY15.out.size _
    refine hK.out _ _ (fun _ _ => ⟨KY16.out.cell 0 _ rfl, KY16.out.cell 1 _ rfl, KY16.out.cell 2 _ rfl, KY16.out.cell 3 _ rfl, KY16.out.cell 4 _ rfl⟩) ?_
    clear hK K
    generalize hg16 : Y15.heap.size = gb16 at *
    generalize Y15.alloc (.cells #[.int .u8 (kn : Int)] 5) = Y16 at *
    try simp only [Act.put, setIfInBounds_toArray, set_cons_zero, set_cons_succ]
    refine until_two 4 11 (by rfl) (by rfl) (by kernel_rfl) (fun K hK => ?_) (fun K hK => ?_)
    ·have hcv := cC gb16 Y16 (G16.out.cell 0 _ rfl)
     go_simp
     clear hcv
     refine hK.out _ _ (fun _ h => h) ?_
     clear hK K
     try simp only [Act.put, setIfInBounds_toArray, set_cons_zero, set_cons_succ]
     refine until_pure 8 (v := ?vq33) (by rfl) (by kernel_rfl) (by exact fun _ _ _ h => h) (by rfl) ?hyq33 ?rq33
     case hyq33 =>
      intro w
      go_simp
      try with_reducible rfl
     try simp only [Act.put, setIfInBounds_toArray, set_cons_zero, set_cons_succ]
     refine until_one 11 (by rfl) (by kernel_rfl) (fun K hK => ?_)
     go_simp
     refine (cJ _).mono ?_
     rintro e Y18 ⟨rfl, hb18⟩
     have KY18 : Hid (Blk Y18 w.heap.size #[.int .i64 (kn : Int), .int .i64 (tn : Int), .int .i64 (jn : Int), .int .i64 v, .string d] 102) := KY16.out.on hb18 KY16.out.lt
     have DY18 : Hid (Below w.heap.size w Y18) := DY16.out.trans (hb18.mono DY16.out.size)
     clear hb18
     go_wp2_with fail
     refine hK.out _ _ (fun _ _ => ⟨KY18.out.cell 0 _ rfl, KY18.out.cell 1 _ rfl, KY18.out.cell 2 _ rfl, KY18.out.cell 3 _ rfl, KY18.out.cell 4 _ rfl⟩) ?_
     clear hK K
     try simp only [Act.put, setIfInBounds_toArray, set_cons_zero, set_cons_succ]
     refine until_pure 12 (v := ?vq34) (by rfl) (by kernel_rfl) (by exact fun _ _ _ h => h) (by rfl) ?hyq34 ?rq34
     case hyq34 =>
      intro w
      go_simp
      try with_reducible rfl
     try simp only [Act.put, setIfInBounds_toArray, set_cons_zero, set_cons_succ]
     refine until_one 16 (by rfl) (by kernel_rfl) (fun K hK => ?_)
     go_simp
     refine (cV _ _ (by first | exact hw1 | exact hw2 | exact hvn | (rw [IntKind.wrap_i64]; omega) | omega)).mono ?_
     rintro e Y19 ⟨rfl, hb19⟩
     have KY19 : Hid (Blk Y19 w.heap.size #[.int .i64 (kn : Int), .int .i64 (tn : Int), .int .i64 (jn : Int), .int .i64 v, .string d] 102) := KY18.out.on hb19 KY18.out.lt
     have DY19 : Hid (Below w.heap.size w Y19) := DY18.out.trans (hb19.mono DY18.out.size)
     clear hb19
     go_wp2_with fail
     refine hK.out _ _ (fun _ _ => ⟨KY19.out.cell 0 _ rfl, KY19.out.cell 1 _ rfl, KY19.out.cell 2 _ rfl, KY19.out.cell 3 _ rfl, KY19.out.cell 4 _ rfl⟩) ?_
     clear hK K
     try simp only [Act.put, setIfInBounds_toArray, set_cons_zero, set_cons_succ]
     refine until_pure 17 (v := ?vq35) (by rfl) (by kernel_rfl) (by exact fun _ _ _ h => h) (by rfl) ?hyq35 ?rq35
     case hyq35 =>
      intro w
      go_simp
      try with_reducible rfl
     try simp only [Act.put, setIfInBounds_toArray, set_cons_zero, set_cons_succ]
     refine until_pure 20 (v := ?vq36) (by rfl) (by kernel_rfl) (by exact fun _ _ _ h => h) (by rfl) ?hyq36 ?rq36
     case hyq36 =>
      intro w
      go_simp
      try with_reducible rfl
     try simp only [Act.put, setIfInBounds_toArray, set_cons_zero, set_cons_succ]
     refine until_pure 21 (v := ?vq37) (by rfl) (by kernel_rfl) (by exact fun _ _ _ h => h) (by rfl) ?hyq37 ?rq37
     case hyq37 =>
      intro w
      go_simp
      try with_reducible rfl
     try simp only [Act.put, setIfInBounds_toArray, set_cons_zero, set_cons_succ]
     refine until_done (by kernel_rfl) ?_ _
     go_wp2_with fail
     go_ret
     exact ⟨by rw [HE.out]; rfl, DY19.out⟩
    ·go_simp
     refine (cJ _).mono ?_
     rintro e Y20 ⟨rfl, hb20⟩
     have KY20 : Hid (Blk Y20 w.heap.size #[.int .i64 (kn : Int), .int .i64 (tn : Int), .int .i64 (jn : Int), .int .i64 v, .string d] 102) := KY16.out.on hb20 KY16.out.lt
     have DY20 : Hid (Below w.heap.size w Y20) := DY16.out.trans (hb20.mono DY16.out.size)
     have G20 : Hid (Blk Y20 gb16 #[.int .u8 (kn : Int)] 5) := G16.out.on hb20 G16.out.lt
     clear hb20
     go_wp2_with fail
     refine hK.out _ _ (fun _ _ => ⟨KY20.out.cell 0 _ rfl, KY20.out.cell 1 _ rfl, KY20.out.cell 2 _ rfl, KY20.out.cell 3 _ rfl, KY20.out.cell 4 _ rfl⟩) ?_
     clear hK K
     try simp only [Act.put, setIfInBounds_toArray, set_cons_zero, set_cons_succ]
     refine until_two 4 16 (by rfl) (by rfl) (by kernel_rfl) (fun K hK => ?_) (fun K hK => ?_)
     ·have hcv := cC gb16 Y20 (G20.out.cell 0 _ rfl)
      go_simp
      clear hcv
      refine hK.out _ _ (fun _ h => h) ?_
      clear hK K
      try simp only [Act.put, setIfInBounds_toArray, set_cons_zero, set_cons_succ]
      refine until_pure 8 (v := ?vq38) (by rfl) (by kernel_rfl) (by exact fun _ _ _ h => h) (by rfl) ?hyq38 ?rq38
      case hyq38 =>
       intro w
       go_simp
       try with_reducible rfl
      try simp only [Act.put, setIfInBounds_toArray, set_cons_zero, set_cons_succ]
      refine until_pure 12 (v := ?vq39) (by rfl) (by kernel_rfl) (by exact fun _ _ _ h => h) (by rfl) ?hyq39 ?rq39
      case hyq39 =>
       intro w
       go_simp
       try with_reducible rfl
      try simp only [Act.put, setIfInBounds_toArray, set_cons_zero, set_cons_succ]
      refine until_one 16 (by rfl) (by kernel_rfl) (fun K hK => ?_)
      go_simp
      refine (cV _ _ (by first | exact hw1 | exact hw2 | exact hvn | (rw [IntKind.wrap_i64]; omega) | omega)).mono ?_
      rintro e Y22 ⟨rfl, hb22⟩
      have KY22 : Hid (Blk Y22 w.heap.size #[.int .i64 (kn : Int), .int .i64 (tn : Int), .int .i64 (jn : Int), .int .i64 v, .string d] 102) := KY20.out.on hb22 KY20.out.lt
      have DY22 : Hid (Below w.heap.size w Y22) := DY20.out.trans (hb22.mono DY20.out.size)
      clear hb22
      go_wp2_with fail
      refine hK.out _ _ (fun _ _ => ⟨KY22.out.cell 0 _ rfl, KY22.out.cell 1 _ rfl, KY22.out.cell 2 _ rfl, KY22.out.cell 3 _ rfl, KY22.out.cell 4 _ rfl⟩) ?_
      clear hK K
      try simp only [Act.put, setIfInBounds_toArray, set_cons_zero, set_cons_succ]
      refine until_pure 17 (v := ?vq40) (by rfl) (by kernel_rfl) (by exact fun _ _ _ h => h) (by rfl) ?hyq40 ?rq40
      case hyq40 =>
       intro w
       go_simp
       try with_reducible rfl
      try simp only [Act.put, setIfInBounds_toArray, set_cons_zero, set_cons_succ]
      refine until_pure 20 (v := ?vq41) (by rfl) (by kernel_rfl) (by exact fun _ _ _ h => h) (by rfl) ?hyq41 ?rq41
      case hyq41 =>
       intro w
       go_simp
       try with_reducible rfl
      try simp only [Act.put, setIfInBounds_toArray, set_cons_zero, set_cons_succ]
      refine until_pure 21 (v := ?vq42) (by rfl) (by kernel_rfl) (by exact fun _ _ _ h => h) (by rfl) ?hyq42 ?rq42
      case hyq42 =>
       intro w
       go_simp
       try with_reducible rfl
      try simp only [Act.put, setIfInBounds_toArray, set_cons_zero, set_cons_succ]
      refine until_done (by kernel_rfl) ?_ _
      go_wp2_with fail
      go_ret
      exact ⟨by rw [HE.out]; rfl, DY22.out⟩
     ·go_simp
      refine (cV _ _ (by first | exact hw1 | exact hw2 | exact hvn | (rw [IntKind.wrap_i64]; omega) | omega)).mono ?_
      rintro e Y23 ⟨rfl, hb23⟩
      have KY23 : Hid (Blk Y23 w.heap.size #[.int .i64 (kn : Int), .int .i64 (tn : Int), .int .i64 (jn : Int), .int .i64 v, .string d] 102) := KY20.out.on hb23 KY20.out.lt
      have DY23 : Hid (Below w.heap.size w Y23) := DY20.out.trans (hb23.mono DY20.out.size)
      have G23 : Hid (Blk Y23 gb16 #[.int .u8 (kn : Int)] 5) := G20.out.on hb23 G20.out.lt
      clear hb23
      go_wp2_with fail
      refine hK.out _ _ (fun _ _ => ⟨KY23.out.cell 0 _ rfl, KY23.out.cell 1 _ rfl, KY23.out.cell 2 _ rfl, KY23.out.cell 3 _ rfl, KY23.out.cell 4 _ rfl⟩) ?_
      clear hK K
      try simp only [Act.put, setIfInBounds_toArray, set_cons_zero, set_cons_succ]
      refine until_one 4 (by rfl) (by kernel_rfl) (fun K hK => ?_)
      have hcv := cC gb16 Y23 (G23.out.cell 0 _ rfl)
      go_simp
      clear hcv
      refine hK.out _ _ (fun _ h => h) ?_
      clear hK K
      try simp only [Act.put, setIfInBounds_toArray, set_cons_zero, set_cons_succ]
      refine until_pure 8 (v := ?vq43) (by rfl) (by kernel_rfl) (by exact fun _ _ _ h => h) (by rfl) ?hyq43 ?rq43
      case hyq43 =>
       intro w
       go_simp
       try with_reducible rfl
      try simp only [Act.put, setIfInBounds_toArray, set_cons_zero, set_cons_succ]
      refine until_pure 12 (v := ?vq44) (by rfl) (by kernel_rfl) (by exact fun _ _ _ h => h) (by rfl) ?hyq44 ?rq44
      case hyq44 =>
       intro w
       go_simp
       try with_reducible rfl
      try simp only [Act.put, setIfInBounds_toArray, set_cons_zero, set_cons_succ]
      refine until_pure 17 (v := ?vq45) (by rfl) (by kernel_rfl) (by exact fun _ _ _ h => h) (by rfl) ?hyq45 ?rq45
      case hyq45 =>
       intro w
       go_simp
       try with_reducible rfl
      try simp only [Act.put, setIfInBounds_toArray, set_cons_zero, set_cons_succ]
      refine until_pure 20 (v := ?vq46) (by rfl) (by kernel_rfl) (by exact fun _ _ _ h => h) (by rfl) ?hyq46 ?rq46
      case hyq46 =>
       intro w
       go_simp
       try with_reducible rfl
      try simp only [Act.put, setIfInBounds_toArray, set_cons_zero, set_cons_succ]
      refine until_pure 21 (v := ?vq47) (by rfl) (by kernel_rfl) (by exact fun _ _ _ h => h) (by rfl) ?hyq47 ?rq47
      case hyq47 =>
       intro w
       go_simp
       try with_reducible rfl
      try simp only [Act.put, setIfInBounds_toArray, set_cons_zero, set_cons_succ]
      refine until_done (by kernel_rfl) ?_ _
      go_wp2_with fail
      go_ret
      exact ⟨by rw [HE.out]; rfl, DY23.out⟩
   ·go_simp
    refine (cJ _).mono ?_
    rintro e Y25 ⟨rfl, hb25⟩
    have KY25 : Hid (Blk Y25 w.heap.size #[.int .i64 (kn : Int), .int .i64 (tn : Int), .int .i64 (jn : Int), .int .i64 v, .string d] 102) := KY15.out.on hb25 KY15.out.lt
    have DY25 : Hid (Below w.heap.size w Y25) := DY15.out.trans (hb25.mono DY15.out.size)
    clear hb25
    go_wp2_with fail
    refine hK.out _ _ (fun _ _ => ⟨KY25.out.cell 0 _ rfl, KY25.out.cell 1 _ rfl, KY25.out.cell 2 _ rfl, KY25.out.cell 3 _ rfl, KY25.out.cell 4 _ rfl⟩) ?_
    clear hK K
    try simp only [Act.put, setIfInBounds_toArray, set_cons_zero, set_cons_succ]
    refine until_two 3 16 (by rfl) (by rfl) (by kernel_rfl) (fun K hK => ?_) (fun K hK => ?_)
    ·go_simp
     have G26 : Hid (Blk (Y25.alloc (.cells #[.int .u8 (kn : Int)] 5)) Y25.heap.size #[.int .u8 (kn : Int)] 5) := Blk.new _ _ _
     have KY26 : Hid (Blk (Y25.alloc (.cells #[.int .u8 (kn : Int)] 5)) w.heap.size #[.int .i64 (kn : Int), .int .i64 (tn : Int), .int .i64 (jn : Int), .int .i64 v, .string d] 102) := KY25.out.alloc _
     have DY26 : Hid (Below w.heap.size w (Y25.alloc (.cells #[.int .u8 (kn : Int)] 5))) := DY25.out.alloc DY25.out.size _
     refine hK.out _ _ (fun _ _ => ⟨KY26.out.cell 0 _ rfl, KY26.out.cell 1 _ rfl, KY26.out.cell 2 _ rfl, KY26.out.cell 3 _ rfl, KY26.out.cell 4 _ rfl⟩) ?_
     clear hK K
     generalize hg26 : Y25.heap.size = gb26 at *
     generalize Y25.alloc (.cells #[.int .u8 (kn : Int)] 5) = Y26 at *
     try simp only [Act.put, setIfInBounds_toArray, set_cons_zero, set_cons_succ]
     refine until_two 4 16 (by rfl) (by rfl) (by kernel_rfl) (fun K hK => ?_) (fun K hK => ?_)
     ·have hcv := cC gb26 Y26 (G26.out.cell 0 _ rfl)
      go_simp
      clear hcv
      refine hK.out _ _ (fun _ h => h) ?_
      clear hK K
      try simp only [Act.put, setIfInBounds_toArray, set_cons_zero, set_cons_succ]
      refine until_pure 8 (v := ?vq48) (by rfl) (by kernel_rfl) (by exact fun _ _ _ h => h) (by rfl) ?hyq48 ?rq48
      case hyq48 =>
       intro w
       go_simp
       try with_reducible rfl
      try simp only [Act.put, setIfInBounds_toArray, set_cons_zero, set_cons_succ]
      refine until_pure 12 (v := ?vq49) (by rfl) (by kernel_rfl) (by exact fun _ _ _ h => h) (by rfl) ?hyq49 ?rq49
      case hyq49 =>
       intro w
       go_simp
       try with_reducible rfl
      try simp only [Act.put, setIfInBounds_toArray, set_cons_zero, set_cons_succ]
      refine until_one 16 (by rfl) (by kernel_rfl) (fun K hK => ?_)
      go_simp
      refine (cV _ _ (by first | exact hw1 | exact hw2 | exact hvn | (rw [IntKind.wrap_i64]; omega) | omega)).mono ?_
      rintro e Y28 ⟨rfl, hb28⟩
      have KY28 : Hid (Blk Y28 w.heap.size #[.int .i64 (kn : Int), .int .i64 (tn : Int), .int .i64 (jn : Int), .int .i64 v, .string d] 102) := KY26.out.on hb28 KY26.out.lt
      have DY28 : Hid (Below w.heap.size w Y28) := DY26.out.trans (hb28.mono DY26.out.size)
      clear hb28
      go_wp2_with fail
      refine hK.out _ _ (fun _ _ => ⟨KY28.out.cell 0 _ rfl, KY28.out.cell 1 _ rfl, KY28.out.cell 2 _ rfl, KY28.out.cell 3 _ rfl, KY28.out.cell 4 _ rfl⟩) ?_
      clear hK K
      try simp only [Act.put, setIfInBounds_toArray, set_cons_zero, set_cons_succ]
      refine until_pure 17 (v := ?vq50) (by rfl) (by kernel_rfl) (by exact fun _ _ _ h => h) (by rfl) ?hyq50 ?rq50
      case hyq50 =>
       intro w
       go_simp
       try with_reducible rfl
      try simp only [Act.put, setIfInBounds_toArray, set_cons_zero, set_cons_succ]
      refine until_pure 20 (v := ?vq51) (by rfl) (by kernel_rfl) (by exact fun _ _ _ h => h) (by rfl) ?hyq51 ?rq51
      case hyq51 =>
       intro w
       go_simp
       try with_reducible rfl
      try simp only [Act.put, setIfInBounds_toArray, set_cons_zero, set_cons_succ]
      refine until_pure 21 (v := ?vq52) (by rfl) (by kernel_rfl) (by exact fun _ _ _ h => h) (by rfl) ?hyq52 ?rq52
      case hyq52 =>
       intro w
       go_simp
       try with_reducible rfl
      try simp only [Act.put, setIfInBounds_toArray, set_cons_zero, set_cons_succ]
      refine until_done (by kernel_rfl) ?_ _
      go_wp2_with fail
      go_ret
      exact ⟨by rw [HE.out]; rfl, DY28.out⟩
     ·go_simp
      refine (cV _ _ (by first | exact hw1 | exact hw2 | exact hvn | (rw [IntKind.wrap_i64]; omega) | omega)).mono ?_
      rintro e Y29 ⟨rfl, hb29⟩
      have KY29 : Hid (Blk Y29 w.heap.size #[.int .i64 (kn : Int), .int .i64 (tn : Int), .int .i64 (jn : Int), .int .i64 v, .string d] 102) := KY26.out.on hb29 KY26.out.lt
      have DY29 : Hid (Below w.heap.size w Y29) := DY26.out.trans (hb29.mono DY26.out.size)
      have G29 : Hid (Blk Y29 gb26 #[.int .u8 (kn : Int)] 5) := G26.out.on hb29 G26.out.lt
      clear hb29
      go_wp2_with fail
      refine hK.out _ _ (fun _ _ => ⟨KY29.out.cell 0 _ rfl, KY29.out.cell 1 _ rfl, KY29.out.cell 2 _ rfl, KY29.out.cell 3 _ rfl, KY29.out.cell 4 _ rfl⟩) ?_
      clear hK K
      try simp only [Act.put, setIfInBounds_toArray, set_cons_zero, set_cons_succ]
      refine until_one 4 (by rfl) (by kernel_rfl) (fun K hK => ?_)
      have hcv := cC gb26 Y29 (G29.out.cell 0 _ rfl)
      go_simp
      clear hcv
      refine hK.out _ _ (fun _ h => h) ?_
      clear hK K
      try simp only [Act.put, setIfInBounds_toArray, set_cons_zero, set_cons_succ]
      refine until_pure 8 (v := ?vq53) (by rfl) (by kernel_rfl) (by exact fun _ _ _ h => h) (by rfl) ?hyq53 ?rq53
      case hyq53 =>
       intro w
       go_simp
       try with_reducible rfl
      try simp only [Act.put, setIfInBounds_toArray, set_cons_zero, set_cons_succ]
      refine until_pure 12 (v := ?vq54) (by rfl) (by kernel_rfl) (by exact fun _ _ _ h => h) (by rfl) ?hyq54 ?rq54
      case hyq54 =>
       intro w
       go_simp
       try with_reducible rfl
      try simp only [Act.put, setIfInBounds_toArray, set_cons_zero, set_cons_succ]
      refine until_pure 17 (v := ?vq55) (by rfl) (by kernel_rfl) (by exact fun _ _ _ h => h) (by rfl) ?hyq55 ?rq55
      case hyq55 =>
       intro w
       go_simp
       try with_reducible rfl
      try simp only [Act.put, setIfInBounds_toArray, set_cons_zero, set_cons_succ]
      refine until_pure 20 (v := ?vq56) (by rfl) (by kernel_rfl) (by exact fun _ _ _ h => h) (by rfl) ?hyq56 ?rq56
      case hyq56 =>
       intro w
       go_simp
       try with_reducible rfl
      try simp only [Act.put, setIfInBounds_toArray, set_cons_zero, set_cons_succ]
      refine until_pure 21 (v := ?vq57) (by rfl) (by kernel_rfl) (by exact fun _ _ _ h => h) (by rfl) ?hyq57 ?rq57
      case hyq57 =>
       intro w
       go_simp
       try with_reducible rfl
      try simp only [Act.put, setIfInBounds_toArray, set_cons_zero, set_cons_succ]
      refine until_done (by kernel_rfl) ?_ _
      go_wp2_with fail
      go_ret
      exact ⟨by rw [HE.out]; rfl, DY29.out⟩
    ·go_simp
     refine (cV _ _ (by first | exact hw1 | exact hw2 | exact hvn | (rw [IntKind.wrap_i64]; omega) | omega)).mono ?_
     rintro e Y31 ⟨rfl, hb31⟩
     have KY31 : Hid (Blk Y31 w.heap.size #[.int .i64 (kn : Int), .int .i64 (tn : Int), .int .i64 (jn : Int), .int .i64 v, .string d] 102) := KY25.out.on hb31 KY25.out.lt
     have DY31 : Hid (Below w.heap.size w Y31) := DY25.out.trans (hb31.mono DY25.out.size)
     clear hb31
     go_wp2_with fail
     refine hK.out _ _ (fun _ _ => ⟨KY31.out.cell 0 _ rfl, KY31.out.cell 1 _ rfl, KY31.out.cell 2 _ rfl, KY31.out.cell 3 _ rfl, KY31.out.cell 4 _ rfl⟩) ?_
     clear hK K
     try simp only [Act.put, setIfInBounds_toArray, set_cons_zero, set_cons_succ]
     refine until_one 3 (by rfl) (by kernel_rfl) (fun K hK => ?_)
     go_simp
     have G32 : Hid (Blk (Y31.alloc (.cells #[.int .u8 (kn : Int)] 5)) Y31.heap.size #[.int .u8 (kn : Int)] 5) := Blk.new _ _ _
     have KY32 : Hid (Blk (Y31.alloc (.cells #[.int .u8 (kn : Int)] 5)) w.heap.size #[.int .i64 (kn : Int), .int .i64 (tn : Int), .int .i64 (jn : Int), .int .i64 v, .string d] 102) := KY31.out.alloc _
     have DY32 : Hid (Below w.heap.size w (Y31.alloc (.cells #[.int .u8 (kn : Int)] 5))) := DY31.out.alloc DY31.out.size _
     refine hK.out _ _ (fun _ _ => ⟨KY32.out.cell 0 _ rfl, KY32.out.cell 1 _ rfl, KY32.out.cell 2 _ rfl, KY32.out.cell 3 _ rfl, KY32.out.cell 4 _ rfl⟩) ?_
     clear hK K
     generalize hg32 : Y31.heap.size = gb32 at *
     generalize Y31.alloc (.cells #[.int .u8 (kn : Int)] 5) = Y32 at *
     try simp only [Act.put, setIfInBounds_toArray, set_cons_zero, set_cons_succ]
     refine until_one 4 (by rfl) (by kernel_rfl) (fun K hK => ?_)
     have hcv := cC gb32 Y32 (G32.out.cell 0 _ rfl)
     go_simp
     clear hcv
     refine hK.out _ _ (fun _ h => h) ?_
     clear hK K
     try simp only [Act.put, setIfInBounds_toArray, set_cons_zero, set_cons_succ]
     refine until_pure 8 (v := ?vq58) (by rfl) (by kernel_rfl) (by exact fun _ _ _ h => h) (by rfl) ?hyq58 ?rq58
     case hyq58 =>
      intro w
      go_simp
      try with_reducible rfl
     try simp only [Act.put, setIfInBounds_toArray, set_cons_zero, set_cons_succ]
     refine until_pure 12 (v := ?vq59) (by rfl) (by kernel_rfl) (by exact fun _ _ _ h => h) (by rfl) ?hyq59 ?rq59
     case hyq59 =>
      intro w
      go_simp
      try with_reducible rfl
     try simp only [Act.put, setIfInBounds_toArray, set_cons_zero, set_cons_succ]
     refine until_pure 17 (v := ?vq60) (by rfl) (by kernel_rfl) (by exact fun _ _ _ h => h) (by rfl) ?hyq60 ?rq60
     case hyq60 =>
      intro w
      go_simp
      try with_reducible rfl
     try simp only [Act.put, setIfInBounds_toArray, set_cons_zero, set_cons_succ]
     refine until_pure 20 (v := ?vq61) (by rfl) (by kernel_rfl) (by exact fun _ _ _ h => h) (by rfl) ?hyq61 ?rq61
     case hyq61 =>
      intro w
      go_simp
      try with_reducible rfl
     try simp only [Act.put, setIfInBounds_toArray, set_cons_zero, set_cons_succ]
     refine until_pure 21 (v := ?vq62) (by rfl) (by kernel_rfl) (by exact fun _ _ _ h => h) (by rfl) ?hyq62 ?rq62
     case hyq62 =>
      intro w
      go_simp
      try with_reducible rfl
     try simp only [Act.put, setIfInBounds_toArray, set_cons_zero, set_cons_succ]
     refine until_done (by kernel_rfl) ?_ _
     go_wp2_with fail
     go_ret
     exact ⟨by rw [HE.out]; rfl, DY32.out⟩
end Go.Proofs.YtdimaoloapbeoaaGreatDoor
