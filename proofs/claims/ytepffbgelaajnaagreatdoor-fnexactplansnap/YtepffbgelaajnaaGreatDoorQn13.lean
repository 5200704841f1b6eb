/- ShowImplD BldLay WtDef PlDef SnAid SnOk -/
import Derived.Test.YtepffbgelaajnaaGreatDoorRows
import Derived.Test.YtepffbgelaajnaaGreatDoorQn11
import Derived.Test.YtepffbgelaajnaaGreatDoorQn12
import Derived.Deep.RegionHeld3
import Derived.Handy
import Derived.Shelf.Strings.BuilderK
import Derived.WalkKit
import Derived.Below
import Derived.Test.YtepffbgelaajnaaGreatDoorQn0
import Derived.Lib.OwnKind
import Derived.Test.YtepffbgelaajnaaGreatDoorQn10
import Derived.Test.YtepffbgelaajnaaGreatDoorQn7
import Derived.Test.YtepffbgelaajnaaGreatDoorQn3
import Derived.Test.YtepffbgelaajnaaGreatDoorQn9
import Derived.Test.YtepffbgelaajnaaGreatDoorQn1
import Derived.ProofKit
import Derived.OpenShut
import Derived.WalkSmall
import Derived.WalkLawsBesides
import Derived.Outline
import Derived.BigQuiet
import Derived.Deep.QuietTactic
open List (setIfInBounds_toArray set_cons_zero set_cons_succ)
namespace Go.Proofs.YtepffbgelaajnaaGreatDoor
open Go.ChangeShapes Go.WideShapes Go.ChangeAt Go.RowKit Go.PlainAid
set_option linter.unusedVariables false
def showB (r : Rcd) : ByteArray := txt [byt r.kind.toNat] ++ txt (vF 6 r.term.toNat) ++ txt (vF 6 r.index.toNat) ++ txt (vF 6 (r.vote + 1).toNat) ++ r.data
def showR (r : Rcd) : ByteArray := if recOk r = true then showB r else ⟨#[]⟩
theorem recOk_in (k t i v : Int) (d : ByteArray) (h : recOk ⟨k, t, i, v, d⟩ = true) : (1 ≤ k ∧ k ≤ 4) ∧ (0 ≤ t ∧ t ≤ 100000) ∧ (0 ≤ i ∧ i ≤ 100000) ∧ (-1 ≤ v ∧ v ≤ 4) ∧ d.size ≤ 900 := by
 have he : d = ByteArray.empty → d.size = 0 := fun h => by subst h; rfl
 rw [recOk_iff, Bool.and_eq_true] at h
 obtain ⟨h1, h2⟩ := h
 have h1 := of_decide_eq_true h1
 unfold rest0 at h2
 rcases (show k = 1 ∨ k = 2 ∨ k = 3 ∨ k = 4 by omega) with rfl | rfl | rfl | rfl
 ·simp at h2
  have := he h2.2
  omega
 ·simp at h2
  omega
 ·simp at h2
  have := he h2.2
  omega
 ·simp at h2
  have := he h2.2
  omega
theorem fixed_one (n : Nat) (h : n < 256) : fixed n 1 = txt [byt n] := by
 unfold fixed
 rw [if_pos (by rw [Nat.pow_one]; exact Nat.div_eq_of_lt h)]
 simp [low]
theorem vsize (n : Nat) : (txt (vF 6 n)).size ≤ 7 := by rw [txt_size]; exact vF_length 6 n
theorem conv_one (kn g cap : Nat) (w : World) (h : w.cell? ⟨g, 0, none⟩ = some (.int .u8 (kn : Int))) (hk : kn < 256) : (convert 138 9 (.slice (some ⟨g, 0, none⟩) 1 cap)).run Tryz.prog w = .ok (.string (txt [byt kn])) w := by
 refine run_convert_bytes_back (P := Tryz.prog) w 138 9 5 ⟨g, 0, none⟩ cap [byt kn] Tryz.underlying138 Tryz.underlying5 Tryz.underlying9 ?_
 intro j hj
 obtain rfl : j = 0 := by simp at hj; omega
 show w.cell? ⟨g, 0, none⟩ = _
 rw [h]
 have : (byt kn).toNat = kn := by rw [byt_toNat]; omega
 simp [this]
theorem byt_one (n : Nat) (h : n < 256) : IntKind.u8.wrap (n : Int) = (n : Int) := by rw [IntKind.wrap_u8']; omega
set_option maxHeartbeats 2000000 in
theorem implShowRec (r : Rcd) (w : World) (hd : r.data.size ≤ 1048576) : Calls Tryz.prog 81 #[vRcd r] w fun e w' => e = .returned (.string (showR r)) ∧ Below w.heap.size w w' := by
 have c1 := fun wx => implRecOk r wx (by unfold maxLen; omega)
 obtain ⟨k, t, i, v, d⟩ := r
 unfold vRcd at *
 simp only at hd c1 ⊢
 have hb0 : Below w.heap.size w (w.alloc (.cells #[.int .i64 k, .int .i64 t, .int .i64 i, .int .i64 v, .string d] 116)) := (Below.refl _ _).alloc (Nat.le_refl _) _
 have k0 := Blk.new w #[.int .i64 k, .int .i64 t, .int .i64 i, .int .i64 v, .string d] 116
 have HE : Hid (showR ⟨k, t, i, v, d⟩ = if recOk ⟨k, t, i, v, d⟩ = true then showB ⟨k, t, i, v, d⟩ else ⟨#[]⟩) := rfl
 cases ho : recOk ⟨k, t, i, v, d⟩ <;> rw [ho] at c1 HE
 ·clear ho
  go_enter Tryz.func81, Tryz.ntmps81
  go_wp2_with fail
  generalize w.alloc (.cells #[.int .i64 k, .int .i64 t, .int .i64 i, .int .i64 v, .string d] 116) = W at *
  refine (c1 _).mono ?_
  rintro e w1 ⟨rfl, hb1⟩
  have B1 : Hid (Below w.heap.size w w1) := hb0.trans (hb1.mono hb0.size)
  clear hb0 hb1 c1 k0
  go_wp2_with fail
  go_ret
  exact ⟨by rw [HE.out]; rfl, B1.out⟩
 ·obtain ⟨⟨k1, k2⟩, ⟨t1, t2⟩, ⟨i1, i2⟩, ⟨v1, v2⟩, d1⟩ := recOk_in k t i v d ho
  clear ho
  have HE : Hid (showR ⟨k, t, i, v, d⟩ = txt [byt k.toNat] ++ txt (vF 6 t.toNat) ++ txt (vF 6 i.toNat) ++ txt (vF 6 (v + 1).toNat) ++ d) := by unfold Hid; rw [HE.out]; rfl
  obtain ⟨kn, rfl⟩ : ∃ n : Nat, k = (n : Int) := ⟨k.toNat, by omega⟩
  obtain ⟨tn, rfl⟩ : ∃ n : Nat, t = (n : Int) := ⟨t.toNat, by omega⟩
  obtain ⟨jn, rfl⟩ : ∃ n : Nat, i = (n : Int) := ⟨i.toNat, by omega⟩
  obtain ⟨vn, hvn⟩ : ∃ n : Nat, v + 1 = (n : Int) := ⟨(v + 1).toNat, by omega⟩
  rw [hvn, Int.toNat_natCast, Int.toNat_natCast, Int.toNat_natCast, Int.toNat_natCast] at HE
  have hw1 : IntKind.i64.wrap (v + 1) = (vn : Int) := by rw [IntKind.wrap_i64]; omega
  have hw2 : wrap64 (v + 1) = (vn : Int) := by unfold wrap64; omega
  have hfx := fixed_one kn (by omega)
  have HK : Hid (kn < 256) := by unfold Hid; omega
  have n1 : kn ≤ 4 := by omega
  have n2 : tn ≤ 100000 := by omega
  have n3 : jn ≤ 100000 := by omega
  have n4 : vn ≤ 5 := by omega
  have s0 : (txt [byt kn]).size = 1 := by rw [txt_size]; rfl
  have s1 := vsize tn
  have s2 := vsize jn
  have s3 := vsize vn
  have hu8 := byt_one kn (by omega)
  have hcell := one_cell (kn : Int) kn rfl (by omega)
  clear k1 k2 t1 t2 i1 i2 v1 v2
  go_enter Tryz.func81, Tryz.ntmps81
  go_wp2_with fail
  generalize w.alloc (.cells #[.int .i64 (kn : Int), .int .i64 (tn : Int), .int .i64 (jn : Int), .int .i64 v, .string d] 116) = W at *
  refine (c1 _).mono ?_
  rintro e w1 ⟨rfl, hb1⟩
  have B1 : Hid (Below w.heap.size w w1) := hb0.trans (hb1.mono hb0.size)
  have k1 := k0.on hb1 k0.lt
  have HW : Hid (w.heap.size < w1.drew.heap.size) := k1.lt
  have Z1 : Hid (w.heap.size ≤ w1.heap.size) := B1.out.size
  clear hb0 hb1 c1 k0
  have e0 : w1.drew.cell? ⟨w.heap.size, 0, none⟩ = some (.int .i64 (kn : Int)) := k1.cell 0 _ rfl
  have e1 : w1.drew.cell? ⟨w.heap.size, 1, none⟩ = some (.int .i64 (tn : Int)) := k1.cell 1 _ rfl
  have e2 : w1.drew.cell? ⟨w.heap.size, 2, none⟩ = some (.int .i64 (jn : Int)) := k1.cell 2 _ rfl
  have e3 : w1.drew.cell? ⟨w.heap.size, 3, none⟩ = some (.int .i64 v) := k1.cell 3 _ rfl
  have e4 : w1.drew.cell? ⟨w.heap.size, 4, none⟩ = some (.string d) := k1.cell 4 _ rfl
  have S0 : Hid (w1.drew.cell? ⟨w.heap.size, 0, none⟩ = some (.int .i64 (kn : Int)) ∧ w1.drew.cell? ⟨w.heap.size, 1, none⟩ = some (.int .i64 (tn : Int)) ∧ w1.drew.cell? ⟨w.heap.size, 2, none⟩ = some (.int .i64 (jn : Int)) ∧ w1.drew.cell? ⟨w.heap.size, 3, none⟩ = some (.int .i64 v) ∧ w1.drew.cell? ⟨w.heap.size, 4, none⟩ = some (.string d)) := ⟨e0, e1, e2, e3, e4⟩
  have KK : Hid (Blk w1 w.heap.size _ _) := k1
  clear k1
  have cF : ∀ wx, Calls Tryz.prog 90 #[.int .i64 (kn : Int), .int .i64 1] wx fun e w' => e = .returned (.string (txt [byt kn])) ∧ Below wx.heap.size wx w' := fun wx => by
   have h := impl_fixed kn 1 wx (by omega) (by omega) (by omega)
   rw [hfx] at h
   exact h
  have cC : ∀ g wx, wx.cell? ⟨g, 0, none⟩ = some (.int .u8 (kn : Int)) → (convert 138 9 (.slice (some ⟨g, 0, none⟩) 1 1)).run Tryz.prog wx = .ok (.string (txt [byt kn])) wx := fun g wx h => conv_one kn g 1 wx h HK.out
  have cT := fun wx => impl_var tn wx (by omega)
  have cJ := fun wx => impl_var jn wx (by omega)
  have cV : ∀ x wx, x = (vn : Int) → Calls Tryz.prog 107 #[.int .i64 x] wx fun e w' => e = .returned (.string (txt (vF 6 vn))) ∧ Below wx.heap.size wx w' := fun x wx hx => by rw [hx]; exact impl_var vn wx (by omega)
  generalize txt [byt kn] = a0 at *
  generalize txt (vF 6 tn) = a1 at *
  generalize txt (vF 6 jn) = a2 at *
  generalize txt (vF 6 vn) = a3 at *
  have g1 : ¬ 9223372036854775807 < a0.size + a1.size := by omega
  have g2 : ¬ 9223372036854775807 < (a0 ++ a1).size + a2.size := by rw [ByteArray.size_append]; omega
  have g2' : ¬ 9223372036854775807 < a0.size + a1.size + a2.size := by omega
  have g3 : ¬ 9223372036854775807 < (a0 ++ a1 ++ a2).size + a3.size := by rw [ByteArray.size_append, ByteArray.size_append]; omega
  have g3' : ¬ 9223372036854775807 < a0.size + a1.size + a2.size + a3.size := by omega
  have g4 : ¬ 9223372036854775807 < (a0 ++ a1 ++ a2 ++ a3).size + d.size := by rw [ByteArray.size_append, ByteArray.size_append, ByteArray.size_append]; omega
  have g4' : ¬ 9223372036854775807 < a0.size + a1.size + a2.size + a3.size + d.size := by omega
  clear hfx s0 s1 s2 s3 hcell
  clear e0 e1 e2 e3 e4
  have K0 : Hid (Blk w1.drew w.heap.size #[.int .i64 (kn : Int), .int .i64 (tn : Int), .int .i64 (jn : Int), .int .i64 v, .string d] 116) := KK.out
  have D0 : Hid (Below w.heap.size w w1.drew) := B1.out.drew
  go_wp2_with fail
  refine wp_region_until (fun w' => w'.cell? ⟨w.heap.size, 0, none⟩ = some (.int .i64 (kn : Int)) ∧ w'.cell? ⟨w.heap.size, 1, none⟩ = some (.int .i64 (tn : Int)) ∧ w'.cell? ⟨w.heap.size, 2, none⟩ = some (.int .i64 (jn : Int)) ∧ w'.cell? ⟨w.heap.size, 3, none⟩ = some (.int .i64 v) ∧ w'.cell? ⟨w.heap.size, 4, none⟩ = some (.string d)) (fun i => false) 20 (by rfl) (by kernel_rfl) ?_
  generalize w1.drew = X at *
  refine until_take 0 (v := ?vq1) (by rfl) (by kernel_rfl) (by exact fun _ _ _ h => h) (by rfl) ?hyq1 S0.out ?rq1
  case hyq1 =>
   intro w hSw
   try dsimp only at hSw
   go_simp
   try with_reducible rfl
  try simp only [Act.put, setIfInBounds_toArray, set_cons_zero, set_cons_succ]
  refine until_take 1 (v := ?vq2) (by rfl) (by kernel_rfl) (by exact fun _ _ _ h => h) (by rfl) ?hyq2 S0.out ?rq2
  case hyq2 =>
   intro w hSw
   try dsimp only at hSw
   go_simp
   try with_reducible rfl
  try simp only [Act.put, setIfInBounds_toArray, set_cons_zero, set_cons_succ]
  refine until_take 3 (v := ?vq3) (by rfl) (by kernel_rfl) (by exact fun _ _ _ h => h) (by rfl) ?hyq3 S0.out ?rq3
  case hyq3 =>
   intro w hSw
   try dsimp only at hSw
   go_simp
   try with_reducible rfl
  try simp only [Act.put, setIfInBounds_toArray, set_cons_zero, set_cons_succ]
  refine until_take 4 (v := ?vq4) (by rfl) (by kernel_rfl) (by exact fun _ _ _ h => h) (by rfl) ?hyq4 S0.out ?rq4
  case hyq4 =>
   intro w hSw
   try dsimp only at hSw
   go_simp
   try with_reducible rfl
  try simp only [Act.put, setIfInBounds_toArray, set_cons_zero, set_cons_succ]
  refine until_take 7 (v := ?vq5) (by rfl) (by kernel_rfl) (by exact fun _ _ _ h => h) (by rfl) ?hyq5 S0.out ?rq5
  case hyq5 =>
   intro w hSw
   try dsimp only at hSw
   go_simp
   try with_reducible rfl
  try simp only [Act.put, setIfInBounds_toArray, set_cons_zero, set_cons_succ]
  refine until_take 8 (v := ?vq6) (by rfl) (by kernel_rfl) (by exact fun _ _ _ h => h) (by rfl) ?hyq6 S0.out ?rq6
  case hyq6 =>
   intro w hSw
   try dsimp only at hSw
   go_simp
   try with_reducible rfl
  try simp only [Act.put, setIfInBounds_toArray, set_cons_zero, set_cons_succ]
  refine until_take 11 (v := ?vq7) (by rfl) (by kernel_rfl) (by exact fun _ _ _ h => h) (by rfl) ?hyq7 S0.out ?rq7
  case hyq7 =>
   intro w hSw
   try dsimp only at hSw
   go_simp
   try with_reducible rfl
  try simp only [Act.put, setIfInBounds_toArray, set_cons_zero, set_cons_succ]
  refine until_take 12 (v := ?vq8) (by rfl) (by kernel_rfl) (by exact fun _ _ _ h => h) (by rfl) ?hyq8 S0.out ?rq8
  case hyq8 =>
   intro w hSw
   try dsimp only at hSw
   go_simp
   try with_reducible rfl
  try simp only [Act.put, setIfInBounds_toArray, set_cons_zero, set_cons_succ]
  refine until_pure 13 (v := ?vq9) (by rfl) (by kernel_rfl) (by exact fun _ _ _ h => h) (by rfl) ?hyq9 ?rq9
  case hyq9 =>
   intro w
   go_simp
   try with_reducible rfl
  try simp only [Act.put, setIfInBounds_toArray, set_cons_zero, set_cons_succ]
  refine until_take 16 (v := ?vq10) (by rfl) (by kernel_rfl) (by exact fun _ _ _ h => h) (by rfl) ?hyq10 S0.out ?rq10
  case hyq10 =>
   intro w hSw
   try dsimp only at hSw
   go_simp
   try with_reducible rfl
  try simp only [Act.put, setIfInBounds_toArray, set_cons_zero, set_cons_succ]
  refine until_take 17 (v := ?vq11) (by rfl) (by kernel_rfl) (by exact fun _ _ _ h => h) (by rfl) ?hyq11 S0.out ?rq11
  case hyq11 =>
   intro w hSw
   try dsimp only at hSw
   go_simp
   try with_reducible rfl
  try simp only [Act.put, setIfInBounds_toArray, set_cons_zero, set_cons_succ]
  refine until_one 2 (by rfl) (by kernel_rfl) (fun K hK => ?_)
  go_simp
  refine (cF _).mono ?_
  rintro e X1 ⟨rfl, hb1⟩
  have K1 : Hid (Blk X1 w.heap.size #[.int .i64 (kn : Int), .int .i64 (tn : Int), .int .i64 (jn : Int), .int .i64 v, .string d] 116) := K0.out.on hb1 K0.out.lt
  have D1 : Hid (Below w.heap.size w X1) := D0.out.trans (hb1.mono D0.out.size)
  clear hb1
  go_wp2_with fail
  refine hK.out _ _ (fun _ _ => ⟨K1.out.cell 0 _ rfl, K1.out.cell 1 _ rfl, K1.out.cell 2 _ rfl, K1.out.cell 3 _ rfl, K1.out.cell 4 _ rfl⟩) ?_
  clear hK K
  try simp only [Act.put, setIfInBounds_toArray, set_cons_zero, set_cons_succ]
  refine until_one 5 (by rfl) (by kernel_rfl) (fun K hK => ?_)
  go_simp
  refine (cT _).mono ?_
  rintro e X2 ⟨rfl, hb2⟩
  have K2 : Hid (Blk X2 w.heap.size #[.int .i64 (kn : Int), .int .i64 (tn : Int), .int .i64 (jn : Int), .int .i64 v, .string d] 116) := K1.out.on hb2 K1.out.lt
  have D2 : Hid (Below w.heap.size w X2) := D1.out.trans (hb2.mono D1.out.size)
  clear hb2
  go_wp2_with fail
  refine hK.out _ _ (fun _ _ => ⟨K2.out.cell 0 _ rfl, K2.out.cell 1 _ rfl, K2.out.cell 2 _ rfl, K2.out.cell 3 _ rfl, K2.out.cell 4 _ rfl⟩) ?_
  clear hK K
  try simp only [Act.put, setIfInBounds_toArray, set_cons_zero, set_cons_succ]
  refine until_pure 6 (v := ?vq12) (by rfl) (by kernel_rfl) (by exact fun _ _ _ h => h) (by rfl) ?hyq12 ?rq12
  case hyq12 =>
   intro w
   go_simp
   try with_reducible rfl
  try simp only [Act.put, setIfInBounds_toArray, set_cons_zero, set_cons_succ]
  refine until_one 9 (by rfl) (by kernel_rfl) (fun K hK => ?_)
  go_simp
  refine (cJ _).mono ?_
  rintro e X3 ⟨rfl, hb3⟩
  have K3 : Hid (Blk X3 w.heap.size #[.int .i64 (kn : Int), .int .i64 (tn : Int), .int .i64 (jn : Int), .int .i64 v, .string d] 116) := K2.out.on hb3 K2.out.lt
  have D3 : Hid (Below w.heap.size w X3) := D2.out.trans (hb3.mono D2.out.size)
  clear hb3
  go_wp2_with fail
  refine hK.out _ _ (fun _ _ => ⟨K3.out.cell 0 _ rfl, K3.out.cell 1 _ rfl, K3.out.cell 2 _ rfl, K3.out.cell 3 _ rfl, K3.out.cell 4 _ rfl⟩) ?_
  clear hK K
  try simp only [Act.put, setIfInBounds_toArray, set_cons_zero, set_cons_succ]
  refine until_pure 10 (v := ?vq13) (by rfl) (by kernel_rfl) (by exact fun _ _ _ h => h) (by rfl) ?hyq13 ?rq13
  case hyq13 =>
   intro w
   go_simp
   try with_reducible rfl
  try simp only [Act.put, setIfInBounds_toArray, set_cons_zero, set_cons_succ]
  refine until_one 14 (by rfl) (by kernel_rfl) (fun K hK => ?_)
  go_simp
  refine (cV _ _ (by first | exact hw1 | exact hw2 | exact hvn | (rw [IntKind.wrap_i64]; omega) | omega)).mono ?_
  rintro e X4 ⟨rfl, hb4⟩
  have K4 : Hid (Blk X4 w.heap.size #[.int .i64 (kn : Int), .int .i64 (tn : Int), .int .i64 (jn : Int), .int .i64 v, .string d] 116) := K3.out.on hb4 K3.out.lt
  have D4 : Hid (Below w.heap.size w X4) := D3.out.trans (hb4.mono D3.out.size)
  clear hb4
  go_wp2_with fail
  refine hK.out _ _ (fun _ _ => ⟨K4.out.cell 0 _ rfl, K4.out.cell 1 _ rfl, K4.out.cell 2 _ rfl, K4.out.cell 3 _ rfl, K4.out.cell 4 _ rfl⟩) ?_
  clear hK K
  try simp only [Act.put, setIfInBounds_toArray, set_cons_zero, set_cons_succ]
  refine until_pure 15 (v := ?vq14) (by rfl) (by kernel_rfl) (by exact fun _ _ _ h => h) (by rfl) ?hyq14 ?rq14
  case hyq14 =>
   intro w
   go_simp
   try with_reducible rfl
  try simp only [Act.put, setIfInBounds_toArray, set_cons_zero, set_cons_succ]
  refine until_pure 18 (v := ?vq15) (by rfl) (by kernel_rfl) (by exact fun _ _ _ h => h) (by rfl) ?hyq15 ?rq15
  case hyq15 =>
   intro w
   go_simp
   try with_reducible rfl
  try simp only [Act.put, setIfInBounds_toArray, set_cons_zero, set_cons_succ]
  refine until_pure 19 (v := ?vq16) (by rfl) (by kernel_rfl) (by exact fun _ _ _ h => h) (by rfl) ?hyq16 ?rq16
  case hyq16 =>
   intro w
   go_simp
   try with_reducible rfl
  try simp only [Act.put, setIfInBounds_toArray, set_cons_zero, set_cons_succ]
  refine until_done (by kernel_rfl) ?_ _
  go_wp2_with fail
  go_ret
  exact ⟨by rw [HE.out]; rfl, D4.out⟩
end Go.Proofs.YtepffbgelaajnaaGreatDoor
namespace Go.Proofs.YtepffbgelaajnaaGreatDoor
open Go.Shelf Go.RowKit
set_option linter.unusedVariables false
def bldRen : Go.Shelf.Ren := ⟨fun | 166 => 79 | 169 => 82 | 240 => 105 | 276 => 113 | f => f, fun | 20 => 20 | 37 => 138 | 70 => 137 | 72 => 140 | 75 => 145 | 80 => 149 | 127 => 170 | 164 => 176 | t => t, fun g => g⟩
theorem bld_lays166 : Go.Proofs.Lays.n166 Tryz.prog bldRen where
 mixed := by kernel_rfl
 f166 := Tryz.func79.trans (congrArg some (by kernel_rfl))
 f240 := Tryz.func105.trans (congrArg some (by kernel_rfl))
 f276 := Tryz.func113.trans (congrArg some (by kernel_rfl))
 t0 := Tryz.underlying0
 a0 := Tryz.isAgg0
 z0 := Tryz.sizeOf0
 v0 := Tryz.zeroValue0
 t3 := Tryz.underlying3
 a3 := Tryz.isAgg3
 z3 := Tryz.sizeOf3
 v3 := Tryz.zeroValue3
 t4 := Tryz.underlying4
 a4 := Tryz.isAgg4
 z4 := Tryz.sizeOf4
 v4 := Tryz.zeroValue4
 t9 := Tryz.underlying9
 a9 := Tryz.isAgg9
 z9 := Tryz.sizeOf9
 v9 := Tryz.zeroValue9
 t20 := Tryz.underlying20
 a20 := Tryz.isAgg20
 z20 := Tryz.sizeOf20
 v20 := Tryz.zeroValue20
 t37 := Tryz.underlying138
 a37 := Tryz.isAgg138
 z37 := Tryz.sizeOf138
 v37 := Tryz.zeroValue138
 t70 := Tryz.underlying137
 a70 := Tryz.isAgg137
 z70 := Tryz.sizeOf137
 v70 := Tryz.zeroValue137
 t72 := Tryz.underlying140
 a72 := Tryz.isAgg140
 z72 := Tryz.sizeOf140
 v72 := Tryz.zeroValue140
 t75 := Tryz.underlying145
 a75 := Tryz.isAgg145
 z75 := Tryz.sizeOf145
 v75 := Tryz.zeroValue145
 t164 := Tryz.underlying176
 a164 := Tryz.isAgg176
 z164 := Tryz.sizeOf176
 v164 := Tryz.zeroValue176
theorem bld_lays169 : Go.Proofs.Lays.n169 Tryz.prog bldRen where
 mixed := by kernel_rfl
 f169 := Tryz.func82.trans (congrArg some (by kernel_rfl))
 t0 := Tryz.underlying0
 a0 := Tryz.isAgg0
 z0 := Tryz.sizeOf0
 v0 := Tryz.zeroValue0
 t3 := Tryz.underlying3
 a3 := Tryz.isAgg3
 z3 := Tryz.sizeOf3
 v3 := Tryz.zeroValue3
 t9 := Tryz.underlying9
 a9 := Tryz.isAgg9
 z9 := Tryz.sizeOf9
 v9 := Tryz.zeroValue9
 t37 := Tryz.underlying138
 a37 := Tryz.isAgg138
 z37 := Tryz.sizeOf138
 v37 := Tryz.zeroValue138
 t70 := Tryz.underlying137
 a70 := Tryz.isAgg137
 z70 := Tryz.sizeOf137
 v70 := Tryz.zeroValue137
 t72 := Tryz.underlying140
 a72 := Tryz.isAgg140
 z72 := Tryz.sizeOf140
 v72 := Tryz.zeroValue140
 t127 := Tryz.underlying170
 a127 := Tryz.isAgg170
 z127 := Tryz.sizeOf170
 v127 := Tryz.zeroValue170
theorem bld_extra : Go.Proofs.Builder.Extra Tryz.prog bldRen where
 sizeBuilder := by kernel_rfl
 liesBuilder := by kernel_rfl
 t5 := Tryz.underlying5
 a5 := Tryz.isAgg5
 z5 := Tryz.sizeOf5
 v5 := Tryz.zeroValue5
 infoByte := by kernel_rfl
 cellsByte := by kernel_rfl
 sizeByte := by kernel_rfl
 neB5 := by decide
theorem bldWrite (B b : Nat) (bs : List Value) (s : ByteArray) (w : World) (h : Lib.IsBuilderF 140 5 B b bs w) (hlen : bs.length + s.size ≤ 140737488355328) (hBw : B ≤ w.heap.size) :
  Calls Tryz.prog 79 #[.pointer (some ⟨b, 0, none⟩), .string s] w fun e w' => e = .returned (.tuple #[.int .i64 s.size, .nilIface]) ∧ (Lib.BuilderAtF 140 5 B b (.pointer (some ⟨b, 0, none⟩)) (bs ++ Lib.strCells s) w' ∧ Below B w w' ∧ Lib.OthersKept 5 (some b) w w') := Any.Builder_WriteString_k bld_lays166 bld_extra B b bs s w h hlen hBw
theorem bldString (B b : Nat) (l : List UInt8) (w : World) (h : Lib.IsBuilderF 140 5 B b (Lib.byteCells l) w) (hBw : B ≤ w.heap.size) :
  Calls Tryz.prog 82 #[.pointer (some ⟨b, 0, none⟩)] w fun e w' => e = .returned (.string ⟨l.toArray⟩) ∧ (Lib.IsBuilderF 140 5 B b (Lib.byteCells l) w' ∧ Below B w w' ∧ Lib.OthersKept 5 (some b) w w') := Any.Builder_String_any_k bld_lays169 bld_extra B b l w h hBw
end Go.Proofs.YtepffbgelaajnaaGreatDoor
namespace Go.Proofs.YtepffbgelaajnaaGreatDoor
open Go.ChangeShapes Go.WideShapes Go.ChangeAt Go.RowKit Go.PlainAid
set_option linter.unusedVariables false
def catF (l : List Rcd) : ByteArray := l.foldl (fun s r => s ++ frame (showR r)) ByteArray.empty
theorem catF_snoc (l : List Rcd) (r : Rcd) : catF (l ++ [r]) = catF l ++ frame (showR r) := by simp [catF, List.foldl_append]
theorem frame_size (b : ByteArray) : (frame b).size ≤ 2008 := by
 unfold frame
 split
 ·rw [txt_size]
  exact Nat.zero_le _
 ·rw [frameOf_size]
  omega
theorem catF_size (l : List Rcd) : (catF l).size ≤ 2008 * l.length := by
 have key : ∀ (l : List Rcd) (s : ByteArray), (l.foldl (fun s r => s ++ frame (showR r)) s).size ≤ s.size + 2008 * l.length := by
  intro l
  induction l with
  | nil => intro s; simp
  | cons r l ih =>
   intro s
   have h1 := ih (s ++ frame (showR r))
   have h2 := frame_size (showR r)
   rw [ByteArray.size_append] at h1
   simp only [List.foldl_cons, List.length_cons]
   omega
 have := key l ByteArray.empty
 have z : ByteArray.empty.size = 0 := rfl
 unfold catF
 omega
def walRecs (x : Wl) : List Rcd := [⟨4, x.bterm, x.base, 0, ByteArray.empty⟩, ⟨1, x.term, 0, x.vote, ByteArray.empty⟩] ++ entRecs x x.ents.length
def walT (x : Wl) : ByteArray := if walOk x = true then catF (walRecs x) else ⟨#[]⟩
theorem walRecs_length (x : Wl) : (walRecs x).length = x.ents.length + 2 := by simp [walRecs, entRecs_length]
theorem entsOk_data (top : Int) : ∀ (l : List Ent) (last : Int), entsOk top last l = true → ∀ e ∈ l, e.data.size ≤ 900
 | [], _, _, e, he => by cases he
 | y :: r, last, h, e, he => by
  unfold entsOk at h
  simp only [Bool.and_eq_true, decide_eq_true_eq] at h
  rcases List.mem_cons.1 he with rfl | he
  ·exact h.1.2
  ·exact entsOk_data top r _ h.2 e he
theorem ok_in (x : Wl) (h : walOk x = true) : x.ents.length ≤ 60 ∧ (0 ≤ x.base ∧ x.base ≤ 100000) ∧ ∀ e ∈ x.ents, e.data.size ≤ 900 := by
 unfold walOk at h
 simp only [Bool.and_eq_true] at h
 obtain ⟨⟨⟨⟨⟨⟨_, _⟩, h3⟩, _⟩, h5⟩, _⟩, h7⟩ := h
 refine ⟨of_decide_eq_true h5, ?_, entsOk_data _ _ _ h7⟩
 unfold based at h3
 split at h3
 ·omega
 ·simp only [Bool.and_eq_true, inIt, decide_eq_true_eq] at h3
  omega
theorem showR_size (r : Rcd) (h : r.data.size ≤ 900) : (showR r).size ≤ 1000 := by
 unfold showR
 split
 ·unfold showB
  have h1 := vsize r.term.toNat
  have h2 := vsize r.index.toNat
  have h3 := vsize (r.vote + 1).toNat
  simp only [ByteArray.size_append, txt_size] at *
  simp
  omega
 ·exact Nat.zero_le _
structure LogRec (r : Rcd) : Prop where
 k : (r.kind = 4 ∧ r.vote = 0 ∧ r.data = ⟨#[]⟩) ∨ (r.kind = 1 ∧ r.index = 0 ∧ r.data = ⟨#[]⟩) ∨ (r.kind = 2 ∧ r.vote = 0)
 d : r.data.size ≤ 900
theorem walRecs_log (x : Wl) (hd : ∀ e ∈ x.ents, e.data.size ≤ 900) : ∀ r ∈ walRecs x, LogRec r := by
 intro r hr
 unfold walRecs at hr
 simp only [List.mem_append, List.mem_cons, List.not_mem_nil, or_false] at hr
 rcases hr with (rfl | rfl) | hr
 ·exact ⟨.inl ⟨rfl, rfl, rfl⟩, Nat.zero_le _⟩
 ·exact ⟨.inr (.inl ⟨rfl, rfl, rfl⟩), Nat.zero_le _⟩
 ·unfold entRecs at hr
  obtain ⟨i, hi, rfl⟩ := List.mem_map.1 hr
  refine ⟨.inr (.inr ⟨rfl, rfl⟩), ?_⟩
  have hi' : i < x.ents.length := by simpa using hi
  show (x.ents.getD i default).data.size ≤ 900
  rw [List.getD_eq_getElem?_getD, List.getElem?_eq_getElem hi']
  exact hd _ (List.getElem_mem hi')
theorem kindR_flat (l : List Rcd) : (kindR l).flatten = l.map kindV := by
 induction l with
 | nil => rfl
 | cons r l ih => rw [kindR, List.map_cons, List.flatten_cons, List.map_cons]; rw [kindR] at ih; rw [ih]; rfl
theorem kind_look {w : World} {base : Nat} {v : Value} {l : List Rcd} (h : Owns w base 143 1 v (kindR l)) : ∃ A cap, v = .slice A l.length cap ∧ ∀ j, j < l.length → ∃ g, A = some ⟨g, 0, none⟩ ∧ w.cell? ⟨g, j, none⟩ = some (kindV (l.getD j ⟨0, 0, 0, 0, ByteArray.empty⟩)) := by
 have hc := fun g hg => World.ownsRow.cells h.2 (g := g) hg
 have hl := kindR_length l
 rcases h.2.2 with ⟨rfl, h0⟩ | ⟨g, cap, cur, rfl, _⟩
 ·rw [hl] at h0
  exact ⟨none, 0, by rw [h0], fun j hj => by omega⟩
 ·refine ⟨_, cap, by rw [hl], fun j hj => ⟨g, rfl, ?_⟩⟩
  have e : (⟨g, 0, none⟩ : Addr).add j = ⟨g, j, none⟩ := by cases j <;> simp [Addr.add]
  rw [← e]
  refine hc g rfl j _ ?_
  rw [kindR_flat, List.getElem?_map, List.getElem?_eq_getElem hj, List.getD_eq_getElem?_getD, List.getElem?_eq_getElem hj]
  rfl
theorem Owns.two (w : World) (a b : Value) : Owns (w.alloc (.cells #[a, b] 143)) w.heap.size 143 1 (.slice (some ⟨w.heap.size, 0, none⟩) 2 2) [[a], [b]] :=
 ⟨fun r hr => by simp at hr; rcases hr with rfl | rfl <;> rfl, World.ownsRow_lit w #[a, b] 2 (Nat.le_refl _) (by unfold maxLen; omega) (by simp)⟩
theorem strCells_append (a b : ByteArray) : Lib.strCells (a ++ b) = Lib.strCells a ++ Lib.strCells b := by simp [Lib.strCells, ByteArray.data_append]
theorem bld_on {w w' : World} {B b : Nat} {bs : List Value} (h : Lib.IsBuilderF 140 5 B b bs w) (hb : Below w.heap.size w w') : Lib.IsBuilderF 140 5 B b bs w' := by
 have key : ∀ p, Lib.BuilderAtF 140 5 B b p bs w → Lib.BuilderAtF 140 5 B b p bs w' := by
  rintro p ⟨hB, v, hh, hown, hne⟩
  refine ⟨hB, v, by rw [hb.block b (lt_of_block hh)]; exact hh, ⟨hown.1, ?_⟩, hne⟩
  rcases hown.2 with h | ⟨g, cap, cur, fz, rfl, hbg, hg, rest⟩
  ·exact .inl h
  ·refine .inr ⟨g, cap, cur, fz, rfl, hbg, ?_, rest⟩
   rw [hb.block g (Array.getElem?_eq_some_iff.1 hg).1]
   exact hg
 exact h.imp (key _) (key _)
theorem bld_new {w : World} {b : Nat} (h : Blk w b #[.pointer none, .slice none 0 0] 140) : Lib.IsBuilderF 140 5 b b (Lib.strCells ByteArray.empty) w :=
 .inl ⟨Nat.le_refl _, .slice none 0 0, h, ⟨rfl, .inl ⟨rfl, rfl⟩⟩, fun e => by cases e⟩
theorem Owns.others {w w' : World} {base b : Nat} {v : Value} {rows : List (List Value)} (h : Owns w base 143 1 v rows) (hk : Lib.OthersKept 5 (some b) w w') (hb : v.ownBlock ≠ some b) : Owns w' base 143 1 v rows :=
 h.kept fun g hg ho => by
  obtain ⟨c, fz, e1⟩ := Lib.ownsRow_kind h.2 g ho
  rw [hk g _ e1 (fun e => hb (by rw [ho]; exact e)) (fun c fz e => by cases e), e1]
end Go.Proofs.YtepffbgelaajnaaGreatDoor
namespace Go.Proofs.YtepffbgelaajnaaGreatDoor
open Go.ChangeShapes Go.WideShapes Go.ChangeAt Go.RowKit Go.PlainAid
set_option linter.unusedVariables false
theorem Tryz.infoStp : (Tryz.prog.info? 75).map (fun i => (i.zero, i.size, i.bytes)) = some (some (.agg #[.int .i64 0, .string ⟨#[]⟩, .string ⟨#[]⟩, .string ⟨#[]⟩]), 4, 56) := by kernel_rfl
def dotNew : ByteArray := ⟨#[46, 110, 101, 119]⟩
def five (f nm t : ByteArray) : List Stp := [⟨1, f, ⟨#[]⟩, ⟨#[]⟩⟩, ⟨2, f, ⟨#[]⟩, t⟩, ⟨3, f, ⟨#[]⟩, ⟨#[]⟩⟩, ⟨4, f, nm, ⟨#[]⟩⟩, ⟨6, ⟨#[]⟩, ⟨#[]⟩, ⟨#[]⟩⟩]
def anewL (d : Dsk) (nm t : ByteArray) : List Stp := (if (find d (nm ++ dotNew)).isSome = true then [⟨5, nm ++ dotNew, ⟨#[]⟩, ⟨#[]⟩⟩] else []) ++ five (nm ++ dotNew) nm t
def logN : ByteArray := ⟨#[108, 111, 103]⟩
theorem anewL_length (d : Dsk) (nm t : ByteArray) : (anewL d nm t).length ≤ 6 := by
 unfold anewL five
 split <;> simp
theorem anew_yes {d : Dsk} {nm t : ByteArray} (h : (find d (nm ++ dotNew)).isSome = true) : stpR (anewL d nm t) = stpR [⟨5, nm ++ dotNew, ⟨#[]⟩, ⟨#[]⟩⟩] ++ stpR (five (nm ++ dotNew) nm t) := by
 unfold anewL
 rw [if_pos h, stpR_append]
theorem anew_no {d : Dsk} {nm t : ByteArray} (h : (find d (nm ++ dotNew)).isSome = false) : stpR (anewL d nm t) = stpR (five (nm ++ dotNew) nm t) := by
 unfold anewL
 rw [if_neg (by rw [h]; simp), List.nil_append]
theorem five_lies (w : World) (f nm t : ByteArray) : Lies (w.alloc (.cells #[.int .i64 1, .string f, .string ⟨#[]⟩, .string ⟨#[]⟩, .int .i64 2, .string f, .string ⟨#[]⟩, .string t, .int .i64 3, .string f, .string ⟨#[]⟩, .string ⟨#[]⟩, .int .i64 4, .string f, .string nm, .string ⟨#[]⟩, .int .i64 6, .string ⟨#[]⟩, .string ⟨#[]⟩, .string ⟨#[]⟩] 75)) (w.heap.size + 1) 4 (.slice (some ⟨w.heap.size, 0, none⟩) 5 5) (stpR (five f nm t)) := by
 have h : Owns (w.alloc (.cells #[.int .i64 1, .string f, .string ⟨#[]⟩, .string ⟨#[]⟩, .int .i64 2, .string f, .string ⟨#[]⟩, .string t, .int .i64 3, .string f, .string ⟨#[]⟩, .string ⟨#[]⟩, .int .i64 4, .string f, .string nm, .string ⟨#[]⟩, .int .i64 6, .string ⟨#[]⟩, .string ⟨#[]⟩, .string ⟨#[]⟩] 75)) w.heap.size 75 4 (.slice (some ⟨w.heap.size, 0, none⟩) 5 5) (stpR (five f nm t)) :=
  ⟨fun r hr => by simp [stpR, stpC, five] at hr; rcases hr with rfl | rfl | rfl | rfl | rfl <;> rfl, World.ownsRow_lit w #[.int .i64 1, .string f, .string ⟨#[]⟩, .string ⟨#[]⟩, .int .i64 2, .string f, .string ⟨#[]⟩, .string t, .int .i64 3, .string f, .string ⟨#[]⟩, .string ⟨#[]⟩, .int .i64 4, .string f, .string nm, .string ⟨#[]⟩, .int .i64 6, .string ⟨#[]⟩, .string ⟨#[]⟩, .string ⟨#[]⟩] 5 (Nat.le_refl _) (by unfold maxLen; omega) (by simp)⟩
 have := h.lies
 rw [World.size_alloc] at this
 exact this
theorem five_one (f nm t : ByteArray) : ∀ r ∈ stpR (five f nm t), ∀ y ∈ r, y.oneCell' = true := by
 intro r hr y hy
 simp [stpR, stpC, five] at hr
 rcases hr with rfl | rfl | rfl | rfl | rfl <;> (simp at hy; rcases hy with rfl | rfl | rfl | rfl <;> rfl)
end Go.Proofs.YtepffbgelaajnaaGreatDoor
namespace Go.Proofs.YtepffbgelaajnaaGreatDoor
open Go.ChangeShapes Go.WideShapes Go.ChangeAt Go.RowKit Go.PlainAid
set_option linter.unusedVariables false
structure Snp where
 index : Int
 term : Int
 data : ByteArray
def snapOk (x : Snp) : Bool := if x.index = 0 then decide (x.term = 0) && decide (x.data = ByteArray.empty) else inIt x.index 1 100000 && inIt x.term 1 100000 && decide (x.data.size ≤ 30000)
def vSnp (x : Snp) : Value := .agg #[.int .i64 x.index, .int .i64 x.term, .string x.data]
def Cell3 (w : World) (g : Nat) (x : Snp) : Prop := w.cell? ⟨g, 0, none⟩ = some (.int .i64 x.index) ∧ w.cell? ⟨g, 1, none⟩ = some (.int .i64 x.term) ∧ w.cell? ⟨g, 2, none⟩ = some (.string x.data) ∧ g < w.heap.size
theorem Cell3.on {w w' : World} {B g : Nat} {x : Snp} (h : Cell3 w g x) (hb : Below B w w') (hg : g < B) (hs : B ≤ w.heap.size) : Cell3 w' g x := by
 obtain ⟨a, b, c, d⟩ := h
 refine ⟨?_, ?_, ?_, Nat.lt_of_lt_of_le d ?_⟩
 ·rw [hb.cell (p := ⟨_, _, none⟩) hg]; exact a
 ·rw [hb.cell (p := ⟨_, _, none⟩) hg]; exact b
 ·rw [hb.cell (p := ⟨_, _, none⟩) hg]; exact c
 ·exact hb.size
theorem Cell3.new (w : World) (x : Snp) (t : TypeId) : Cell3 (w.alloc (.cells #[.int .i64 x.index, .int .i64 x.term, .string x.data] t)) w.heap.size x := by
 have h : (w.alloc (.cells #[.int .i64 x.index, .int .i64 x.term, .string x.data] t)).heap[w.heap.size]? = some (.cells #[.int .i64 x.index, .int .i64 x.term, .string x.data] t (0, 0)) := heap_alloc_new w _
 refine ⟨?_, ?_, ?_, by simp⟩
 ·rw [cell_of_row _ _ 0 _ t (0, 0) h]; rfl
 ·rw [cell_of_row _ _ 1 _ t (0, 0) h]; rfl
 ·rw [cell_of_row _ _ 2 _ t (0, 0) h]; rfl
theorem below_one (w : World) (a : Obj) : Below w.heap.size w (w.alloc a) := (Below.refl _ w).alloc (Nat.le_refl _) a
theorem below_three (w : World) (a b c : Obj) : Below w.heap.size w (((w.alloc a).alloc b).alloc c) := (((Below.refl _ w).alloc (Nat.le_refl _) a).alloc (by simp) b).alloc (by simp; omega) c
set_option maxHeartbeats 400000 in
theorem szSnap (x : Snp) (left : Int) (w : World) (h0 : 0 ≤ left) (h1 : left ≤ 1048576) (hx : x.data.size ≤ maxLen) :
  Calls Tryz.prog 18 #[vSnp x, .int .i64 left] w fun e w' => (∃ r, e = .returned (.int .i64 r) ∧ Hid (r = -1 ∨ 0 ≤ r ∧ r + (x.data.size : Int) = left)) ∧ Below w.heap.size w w' := by
 unfold maxLen at hx
 unfold vSnp
 obtain ⟨xindex, xterm, xdata⟩ := x
 simp only at hx ⊢
 generalize hn : xdata.size = n at *
 have q1 : (n : Int) ≤ 9223372036854775807 := by omega
 have w2 : wrap64 (left - (n : Int)) = left - (n : Int) := by unfold wrap64; omega
 by_cases hl : left < (n : Int)
 ·have HL : Hid (left < (n : Int)) := hl
  have q2 : left - (n : Int) < 0 := by omega
  go_enter Tryz.func18, Tryz.ntmps18
  go_wp2
  go_ret
  exact ⟨⟨_, rfl, .inl rfl⟩, (Below.refl _ _).alloc (Nat.le_refl _) _⟩
 ·have HL : Hid ((n : Int) ≤ left) := by unfold Hid; omega
  have q2 : 0 ≤ left - (n : Int) := by omega
  have q3 : decide (left - (n : Int) < 0) = false := decide_eq_false (by omega)
  go_enter Tryz.func18, Tryz.ntmps18
  go_wp2
  go_ret
  exact ⟨⟨_, rfl, .inr ⟨by have := HL.out; omega, by omega⟩⟩, (Below.refl _ _).alloc (Nat.le_refl _) _⟩
set_option maxHeartbeats 400000 in
theorem toSnap (x : Snp) (w : World) : Calls Tryz.prog 20 #[vSnp x] w fun e w' => e = .returned (vSnp x) ∧ Below w.heap.size w w' := by
 unfold vSnp
 go_enter Tryz.func20, Tryz.ntmps20
 go_wp2
 exact bodyPost_ret (v := .agg #[.int .i64 x.index, .int .i64 x.term, .string x.data]) (by simp [results, go_sem]) rfl ⟨rfl, below_three _ _ _ _⟩
set_option maxHeartbeats 400000 in
theorem inBS (x lo hi : Int) (w : World) : Calls Tryz.prog 56 #[.int .i64 x, .int .i64 lo, .int .i64 hi] w fun e w' => e = .returned (.bool (inIt x lo hi)) ∧ w = w' := by
 by_cases h1 : lo ≤ x
 ·go_enter Tryz.func56, Tryz.ntmps56
  go_wp2
  go_ret
  exact ⟨by simp [inIt, h1], rfl⟩
 ·have z : decide (lo ≤ x) = false := decide_eq_false h1
  have z2 : x < lo := by omega
  go_enter Tryz.func56, Tryz.ntmps56
  go_wp2
  go_ret
  exact ⟨by unfold inIt; rw [z]; rfl, rfl⟩
set_option maxHeartbeats 2000000 in
theorem specSnapOk (x : Snp) (w : World) (hd : x.data.size ≤ maxLen) : Calls Tryz.prog 48 #[vSnp x] w fun e w' => e = .returned (.bool (snapOk x)) ∧ Below w.heap.size w w' := by
 obtain ⟨i, t, d⟩ := x
 unfold vSnp
 simp only at hd ⊢
 have HB : Hid (Below w.heap.size w (w.alloc (.cells #[.int .i64 i, .int .i64 t, .string d] 55))) := below_one _ _
 have HE : Hid (snapOk ⟨i, t, d⟩ = if i = 0 then decide (t = 0) && decide (d = ByteArray.empty) else inIt i 1 100000 && inIt t 1 100000 && decide (d.size ≤ 30000)) := rfl
 by_cases h1 : i = 0
 ·subst h1
  rw [if_pos rfl] at HE
  by_cases h2 : t = 0
  ·subst h2
   rw [decide_eq_true rfl] at HE
   have hb := empty_beq d
   cases h3 : decide (d = ByteArray.empty) <;> rw [h3] at hb HE <;> clear h3
   ·go_enter Tryz.func48, Tryz.ntmps48
    go_wp2_with fail
    go_ret
    exact ⟨by rw [HE.out]; rfl, HB.out⟩
   ·go_enter Tryz.func48, Tryz.ntmps48
    go_wp2_with fail
    go_ret
    exact ⟨by rw [HE.out]; rfl, HB.out⟩
  ·rw [decide_eq_false h2] at HE
   have z : (t == 0) = false := by simpa using h2
   go_enter Tryz.func48, Tryz.ntmps48
   go_wp2_with fail
   go_ret
   exact ⟨by rw [HE.out]; rfl, HB.out⟩
 ·rw [if_neg h1] at HE
  have z : (i == 0) = false := by simpa using h1
  have a1 := inBS i 1 100000
  have a2 := inBS t 1 100000
  cases h2 : inIt i 1 100000 <;> rw [h2] at a1 HE <;> clear h2
  ·clear h1
   go_enter Tryz.func48, Tryz.ntmps48
   go_wp2_with fail
   refine (a1 _).mono ?_
   rintro e w' ⟨rfl, rfl⟩
   go_wp2_with fail
   go_ret
   exact ⟨by rw [HE.out]; rfl, HB.out⟩
  cases h3 : inIt t 1 100000 <;> rw [h3] at a2 HE <;> clear h3
  ·clear h1
   go_enter Tryz.func48, Tryz.ntmps48
   go_wp2_with fail
   refine (a1 _).mono ?_
   rintro e w' ⟨rfl, rfl⟩
   go_wp2_with fail
   refine (a2 _).mono ?_
   rintro e w' ⟨rfl, rfl⟩
   go_wp2_with fail
   go_ret
   exact ⟨by rw [HE.out]; rfl, HB.out⟩
  ·clear h1
   have hdi : (d.size : Int) ≤ 9223372036854775807 := by unfold maxLen at hd; omega
   have hq : decide ((d.size : Int) ≤ 30000) = decide (d.size ≤ 30000) := by
    by_cases h : d.size ≤ 30000
    ·rw [decide_eq_true h, decide_eq_true (by omega)]
    ·rw [decide_eq_false h, decide_eq_false (by omega)]
   go_enter Tryz.func48, Tryz.ntmps48
   go_wp2_with fail
   refine (a1 _).mono ?_
   rintro e w' ⟨rfl, rfl⟩
   go_wp2_with fail
   refine (a2 _).mono ?_
   rintro e w' ⟨rfl, rfl⟩
   go_wp2_with fail
   go_ret
   exact ⟨by rw [HE.out, ← hq]; rfl, HB.out⟩
end Go.Proofs.YtepffbgelaajnaaGreatDoor
namespace Go.Proofs.YtepffbgelaajnaaGreatDoor
open Go.ChangeShapes Go.WideShapes Go.ChangeAt Go.RowKit Go.PlainAid
set_option linter.unusedVariables false
theorem empty_eqsS (d : ByteArray) : (d.toList == []) = decide (d = ByteArray.empty) := by
 rw [← empty_beq]
 cases d.toList <;> rfl
set_option maxHeartbeats 4000000 in
theorem implSnapOk (x : Snp) (w : World) (hd : x.data.size ≤ maxLen) : Calls Tryz.prog 89 #[vSnp x] w fun e w' => e = .returned (.bool (snapOk x)) ∧ Below w.heap.size w w' := by
 obtain ⟨i, t, d⟩ := x
 unfold vSnp
 simp only at hd ⊢
 have HB : Hid (Below w.heap.size w (w.alloc (.cells #[.int .i64 i, .int .i64 t, .string d] 55))) := below_one _ _
 have HE : Hid (snapOk ⟨i, t, d⟩ = if i = 0 then decide (t = 0) && decide (d = ByteArray.empty) else inIt i 1 100000 && inIt t 1 100000 && decide (d.size ≤ 30000)) := rfl
 have hdi : (d.size : Int) ≤ 9223372036854775807 := by unfold maxLen at hd; omega
 clear hd
 by_cases h1 : i = 0
 ·subst h1
  rw [if_pos rfl] at HE
  by_cases h2 : t = 0
  ·subst h2
   rw [decide_eq_true rfl] at HE
   have hb := empty_beq d
   have hc := empty_eqsS d
   cases h3 : decide (d = ByteArray.empty) <;> rw [h3] at hb hc HE <;> clear h3
   ·go_enter Tryz.func89, Tryz.ntmps89
    go_wp2
    go_ret
    exact ⟨by rw [HE.out]; rfl, HB.out⟩
   ·go_enter Tryz.func89, Tryz.ntmps89
    go_wp2
    go_ret
    exact ⟨by rw [HE.out]; rfl, HB.out⟩
  ·rw [decide_eq_false h2] at HE
   have z : (t == 0) = false := by simpa using h2
   clear h2
   go_enter Tryz.func89, Tryz.ntmps89
   go_wp2
   go_ret
   exact ⟨by rw [HE.out]; rfl, HB.out⟩
 ·rw [if_neg h1] at HE
  have z : (i == 0) = false := by simpa using h1
  unfold inIt at HE
  by_cases a1 : 1 ≤ i
  ·by_cases a2 : i ≤ 100000
   ·by_cases a3 : 1 ≤ t
    ·by_cases a4 : t ≤ 100000
     ·have hq : decide ((d.size : Int) ≤ 30000) = decide (d.size ≤ 30000) := by
       by_cases h : d.size ≤ 30000
       ·rw [decide_eq_true h, decide_eq_true (by omega)]
       ·rw [decide_eq_false h, decide_eq_false (by omega)]
      rw [decide_eq_true a1, decide_eq_true a2, decide_eq_true a3, decide_eq_true a4, ← hq] at HE
      clear hq
      by_cases a5 : (d.size : Int) ≤ 30000
      ·rw [decide_eq_true a5] at HE
       go_enter Tryz.func89, Tryz.ntmps89
       go_wp2
       go_ret
       exact ⟨by rw [HE.out]; rfl, HB.out⟩
      ·have b5 : decide ((d.size : Int) ≤ 30000) = false := decide_eq_false a5
       rw [b5] at HE
       go_enter Tryz.func89, Tryz.ntmps89
       go_wp2
       go_ret
       exact ⟨by rw [HE.out]; rfl, HB.out⟩
     ·have b4 : decide (t ≤ 100000) = false := decide_eq_false a4
      rw [b4] at HE
      go_enter Tryz.func89, Tryz.ntmps89
      go_wp2
      go_ret
      exact ⟨by rw [HE.out]; simp, HB.out⟩
    ·have b3 : decide (1 ≤ t) = false := decide_eq_false a3
     rw [b3] at HE
     go_enter Tryz.func89, Tryz.ntmps89
     go_wp2
     go_ret
     exact ⟨by rw [HE.out]; simp, HB.out⟩
   ·have b2 : decide (i ≤ 100000) = false := decide_eq_false a2
    rw [b2] at HE
    go_enter Tryz.func89, Tryz.ntmps89
    go_wp2
    go_ret
    exact ⟨by rw [HE.out]; simp, HB.out⟩
  ·have b1 : decide (1 ≤ i) = false := decide_eq_false a1
   rw [b1] at HE
   go_enter Tryz.func89, Tryz.ntmps89
   go_wp2
   go_ret
   exact ⟨by rw [HE.out]; simp, HB.out⟩
end Go.Proofs.YtepffbgelaajnaaGreatDoor
